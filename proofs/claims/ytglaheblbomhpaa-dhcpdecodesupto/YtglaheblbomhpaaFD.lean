/- What Decode of package dhcp answers on bytes that are a message. Conditions: as said. -/
import Derived.Test.YtglaheblbomhpaaFC
namespace Go.Proofs.Ytglaheblbomhpaa
open Go.RowKit

set_option maxRecDepth 20000 in
set_option maxHeartbeats 1000000 in
theorem decode_yes (w : World) (b off n cap : Nat) (zs : List Int) (os : List Opt) (h : BS w (some ⟨b, off, none⟩) n zs) (hcap : n ≤ cap) (hm : isMsgB zs = true) (hp : parseO (zs.drop 240) = some os) (hfew : os.length ≤ 2000000) :
    Calls Try.prog 7 #[.slice (some ⟨b, off, none⟩) n cap] w fun e w' => ∃ a cap', e = .returned (.tuple #[fixV2 zs (.slice a os.length cap'), .int .i64 0]) ∧ OS w' a os.length os ∧ Below w.heap.size w w' := by
  have hl := h.len
  have hr := h.room
  have hn : 240 < n := by
    rcases Nat.lt_or_ge 240 n with h1 | h1
    · exact h1
    · rw [List.drop_of_length_le (by omega), parse_nil] at hp
      cases hp
  have hnI : (240 : Int) ≤ n := by omega
  have hcI : (240 : Int) ≤ cap := by omega
  have hne : ¬ cap = 240 := by omega
  have hbl : b < w.heap.size := by
    rcases h.cells with h0 | ⟨b', off', e, hc⟩
    · omega
    · cases e; exact cell_lt (hc 0 (by omega))
  have HM : Hid _ := hm
  have HP : Hid _ := hp
  have B1 := below1 w (.cells zeroArr 27)
  have hd := (h.below B1).drop (by omega) 240 (by omega)
  have H1 : Hid _ := h.below B1
  have HD : Hid _ := hd
  have aR0 := atB_new w zeroArr 27 w.heap.size rfl
  have fR0 : ∀ o, (w.alloc (.cells zeroArr 27)).frozen? ⟨w.heap.size, o, none⟩ = false := fun o => by simp [go_sem]
  have AR0 : Hid _ := aR0
  have FR0 : Hid _ := fR0
  have HB1 : Hid _ := B1
  clear h hm hp hd aR0 fR0 B1
  have hfew2 : ∀ (acc : List Opt) (k : Nat), acc.length ≤ k → k ≤ n - 240 → parseO (zs.drop 240) = (parseO ((zs.drop 240).drop k)).map (acc ++ ·) → acc.length ≤ 2000000 := by
    intro acc k _ _ hs
    rw [HP.out] at hs
    cases hq : parseO ((zs.drop 240).drop k) with
    | none => rw [hq] at hs; simp at hs
    | some r =>
      rw [hq] at hs
      simp at hs
      rw [hs] at hfew
      simp at hfew
      omega
  go_enter Try.func7, Try.ntmps7
  go_wp2_with fail
  refine (isMsg_any cap H1.out hcap).mono ?_
  rw [HM.out]
  rintro e W0 ⟨rfl, rfl⟩
  go_wp2_with fail
  refine (readOpts_any _ b (off + 240) (n - 240) (cap - 240) (zs.drop 240) HD.out (by omega) (by simp; omega) (by show _ ≠ _; rw [HP.out]; simp) hfew2).mono ?_
  rintro e W1 ⟨a1, c1, rfl, hb1, hos1⟩
  obtain ⟨ho1, hg1⟩ := hos1 os HP.out
  rw [HP.out]
  unfold optsV
  have aR1 := AtB.below AR0.out hb1
  have fR1 : ∀ o, W1.frozen? ⟨w.heap.size, o, none⟩ = false := fun o => (hb1.frozen (p := ⟨w.heap.size, o, none⟩) (by simp)).trans (FR0.out o)
  have H2 : Hid _ := H1.out.below hb1
  have HB2 : Hid (Below w.heap.size w W1) := HB1.out.trans (hb1.mono HB1.out.size)
  have HO1 : Hid _ := ho1
  have HG1 : Hid _ := hg1
  have AR1 : Hid _ := aR1
  have FR1 : Hid _ := fR1
  clear hb1 hos1 ho1 hg1 aR1 fR1
  go_wp2_with fail
  refine (fixed_any2 _ b off n cap zs H2.out hcap (by omega)).mono ?_
  unfold fixV2 dhcpV
  rintro e W2 ⟨rfl, hb2⟩
  have aR2 := AtB.below AR1.out hb2
  have fR2 : ∀ o, W2.frozen? ⟨w.heap.size, o, none⟩ = false := fun o => (hb2.frozen (p := ⟨w.heap.size, o, none⟩) AR1.out.1).trans (FR1.out o)
  have HO2 : Hid _ := HO1.out.below hb2
  have HB3 : Hid (Below w.heap.size w W2) := HB2.out.trans (hb2.mono HB2.out.size)
  have hl2 : w.heap.size < W2.heap.size := aR2.1
  have hdd : ¬ W2.heap.size = w.heap.size := by omega
  obtain ⟨z0, z1, z2, z3, z4, z5, z6, z7, z8, z9⟩ := AtB.ten aR2
  clear hb2 aR2
  go_wp2
  refine bodyPost_ret (v := .tuple #[fixV2 zs (.slice a1 os.length c1), .int .i64 0]) ?_ rfl ⟨a1, c1, rfl, ?_, ?_⟩
  · unfold fixV2 dhcpV
    simp [results, Try.results7, go_sem, *]
  · by_cases hz : os = []
    · subst hz
      exact OS.empty _
    · obtain ⟨g, rfl, hgg⟩ := HG1.out hz
      have hgne : w.heap.size ≠ g := by simp at hgg; omega
      refine OS.below ?_ (below1 _ _)
      iterate 10 refine OS.far ?_ hgne
      exact HO2.out
  · refine Below.alloc ?_ (by simp; omega) _
    iterate 10 refine Below.setCell ?_ (by simp) _
    exact HB3.out
end Go.Proofs.Ytglaheblbomhpaa
