/- What Decode of package dhcp answers on bytes that have a message's head and no end of their options. Conditions: at most two million bytes. -/
import Derived.Test.YtglaheblbomhpaaGB
namespace Go.Proofs.Ytglaheblbomhpaa
open Go.RowKit

set_option maxRecDepth 20000 in
set_option maxHeartbeats 1000000 in
theorem decode_no2 (w : World) (b off n cap : Nat) (zs : List Int) (h : BS w (some ⟨b, off, none⟩) n zs) (hcap : n ≤ cap) (hm : isMsgB zs = true) (hp : parseO (zs.drop 240) = none) (hn : 240 ≤ n) (hfew : n ≤ 2000000) :
    Calls Try.prog 7 #[.slice (some ⟨b, off, none⟩) n cap] w fun e w' => e = .returned (.tuple #[.agg zeroArr, .int .i64 60]) ∧ Below w.heap.size w w' := by
  have hl := h.len
  have hr := h.room
  have hnI : (240 : Int) ≤ n := by omega
  have hcI : (240 : Int) ≤ cap := by omega
  have hbl : b < w.heap.size := by
    rcases h.cells with h0 | ⟨b', off', e, hc⟩
    · omega
    · cases e; exact cell_lt (hc 0 (by omega))
  have HM : Hid _ := hm
  have HP : Hid _ := hp
  have B1 := below1 w (.cells zeroArr 27)
  have hd := (h.below B1).drop (by omega) 240 (by omega)
  have H1 : Hid _ := h.below B1
  have HD : Hid _ := hd
  have aR0 := atB_new w zeroArr 27 w.heap.size rfl
  have fR0 : ∀ o, (w.alloc (.cells zeroArr 27)).frozen? ⟨w.heap.size, o, none⟩ = false := fun o => by simp [go_sem]
  have AR0 : Hid _ := aR0
  have FR0 : Hid _ := fR0
  have HB1 : Hid _ := B1
  clear h hm hp hd aR0 fR0 B1
  have hfew2 : ∀ (acc : List Opt) (k : Nat), acc.length ≤ k → k ≤ n - 240 → parseO (zs.drop 240) = (parseO ((zs.drop 240).drop k)).map (acc ++ ·) → acc.length ≤ 2000000 := by
    intro acc k h1 h2 _
    omega
  by_cases hne : cap = 240
  · subst hne
    obtain rfl : n = 240 := by omega
    go_enter Try.func7, Try.ntmps7
    go_wp2_with fail
    refine (isMsg_any 240 H1.out hcap).mono ?_
    rw [HM.out]
    rintro e W0 ⟨rfl, rfl⟩
    go_wp2_with fail
    refine (readOpts_all _ b off 0 0 [] (BS.empty _) (by omega) (by simp; omega) (fun acc k h1 h2 _ => by omega)).mono ?_
    rintro e W1 ⟨a1, c1, rfl, hb1, _⟩
    rw [parse_nil]
    unfold optsV
    have aR1 := AtB.below AR0.out hb1
    have fR1 : ∀ o, W1.frozen? ⟨w.heap.size, o, none⟩ = false := fun o => (hb1.frozen (p := ⟨w.heap.size, o, none⟩) (by simp)).trans (FR0.out o)
    have HB2 : Hid (Below w.heap.size w W1) := HB1.out.trans (hb1.mono HB1.out.size)
    have hl2 : w.heap.size < W1.heap.size := aR1.1
    obtain ⟨z0, z1, z2, z3, z4, z5, z6, z7, z8, z9⟩ := AtB.ten aR1
    clear hb1 aR1
    unfold zeroArr at *
    go_wp2
    refine bodyPost_ret (v := .tuple #[.agg #[.int .i64 0, .int .u32 0, .int .i64 0, .int .i64 0, .int .u32 0, .int .u32 0, .int .u32 0, .int .u32 0, .int .u64 0, .slice none 0 0], .int .i64 60]) ?_ rfl ⟨rfl, ?_⟩
    · simp [results, Try.results7, go_sem, *]
    · show Below _ _ _
      iterate 10 refine Below.setCell ?_ (by simp) _
      exact HB2.out
  · go_enter Try.func7, Try.ntmps7
    go_wp2_with fail
    refine (isMsg_any cap H1.out hcap).mono ?_
    rw [HM.out]
    rintro e W0 ⟨rfl, rfl⟩
    go_wp2_with fail
    refine (readOpts_all _ b (off + 240) (n - 240) (cap - 240) (zs.drop 240) HD.out (by omega) (by simp; omega) hfew2).mono ?_
    rintro e W1 ⟨a1, c1, rfl, hb1, _⟩
    rw [HP.out]
    unfold optsV
    have aR1 := AtB.below AR0.out hb1
    have fR1 : ∀ o, W1.frozen? ⟨w.heap.size, o, none⟩ = false := fun o => (hb1.frozen (p := ⟨w.heap.size, o, none⟩) (by simp)).trans (FR0.out o)
    have HB2 : Hid (Below w.heap.size w W1) := HB1.out.trans (hb1.mono HB1.out.size)
    have hl2 : w.heap.size < W1.heap.size := aR1.1
    obtain ⟨z0, z1, z2, z3, z4, z5, z6, z7, z8, z9⟩ := AtB.ten aR1
    clear hb1 aR1
    unfold zeroArr at *
    go_wp2
    refine bodyPost_ret (v := .tuple #[.agg #[.int .i64 0, .int .u32 0, .int .i64 0, .int .i64 0, .int .u32 0, .int .u32 0, .int .u32 0, .int .u32 0, .int .u64 0, .slice none 0 0], .int .i64 60]) ?_ rfl ⟨rfl, ?_⟩
    · simp [results, Try.results7, go_sem, *]
    · show Below _ _ _
      iterate 10 refine Below.setCell ?_ (by simp) _
      exact HB2.out
end Go.Proofs.Ytglaheblbomhpaa
