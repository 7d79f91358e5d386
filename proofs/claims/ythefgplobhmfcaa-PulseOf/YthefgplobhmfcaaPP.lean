/- PulseOf: the walk. Conditions: the counts can be read. -/
import Derived.Test.YthefgplobhmfcaaPO
import Derived.Test.YthefgplobhmfcaaPM
namespace Go.Proofs.Ythefgplobhmfcaa
open Go.RowKit Ieee
set_option maxHeartbeats 4000000 in
theorem ofs_any (a : Option Addr) (n c : Nat) (L : List Int) (t : Int) (w : World) (hn : n ≤ 17592186044416) (h : IS w a n L) : Calls Try.prog 4 #[.slice a n c, .int .i64 t] w fun e w' => e = .returned (.bool true) ∧ Below w.heap.size w w' := by
  have H : Hid _ := h
  have hlen := h.len
  have h1 := h.below (below1 w (.cells #[] 3))
  obtain ⟨a1, c1, w1, hap, hrow, hgr⟩ := run_append_is _ w.heap.size _ [] (empty_i w w.heap.size (Nat.le_refl _)) a n c L h1 (by simp; omega) (by simp)
  simp only [List.length_nil, Nat.zero_add, List.nil_append] at hap hrow
  have HAP : Hid _ := hap
  have HR : Hid _ := (own_is hrow).1
  have HB : Hid (Below w.heap.size w w1) := (below1 _ _).grown hgr (by simp) (fun q hq => (World.ownsRow.lt (empty_i w w.heap.size (Nat.le_refl _)) q hq).1)
  clear h h1 hap hrow hgr
  go_enter Try.func4, Try.ntmps4
  go_wp2_with (first
    | (at_builtin; refine wpList_append_run rfl _ _ 26 rfl _ _ rfl rfl _ HAP.out ?_)
    | fail)
  cases hok : okL L
  · refine (of_no _ _ _ L _ HR.out hok).mono ?_
    rintro e W ⟨rfl, rfl⟩
    have HOK : Hid _ := hok
    clear hok
    go_wp2_with fail
    refine (rof_any _ _ _ L _ (H.out.below HB.out)).mono ?_
    rintro e W1 (⟨_, rfl, rfl⟩ | ⟨hC, _⟩)
    · go_wp2_with fail
      refine (lives_any _).mono ?_
      rintro e W2 ⟨rfl, hb⟩
      replace HB : Hid (Below w.heap.size w W2) := HB.out.trans (hb.mono HB.out.size)
      clear hb
      go_wp2_with fail
      go_quiet (fail)
      go_wp2
      go_ret
      exact ⟨rfl, below_drewN HB.out _⟩
    · exact absurd hC.ok (by rw [HOK.out]; decide)
  · have HL : Hid _ := Cnt.of hok
    refine (of_yes _ _ _ L _ HR.out HL.out).mono ?_
    rintro e W ⟨b, a', c', rfl, hP, hb⟩
    have HP : Hid _ := hP
    have hB := HB.out.trans (hb.mono HB.out.size)
    replace HB : Hid (Below w.heap.size w W) := hB
    clear hb hP hB
    go_wp2_with fail
    refine (rof_any _ _ _ L _ (H.out.below HB.out)).mono ?_
    rintro e W1 (⟨hf, _⟩ | ⟨hC, d, a2, c2, rfl, hQ, hb⟩)
    · exact absurd hok (by rw [hf]; decide)
    · have HQ : Hid _ := hQ
      replace HP : Hid _ := HP.out.below hb
      replace HB : Hid (Below w.heap.size w W1) := HB.out.trans (hb.mono HB.out.size)
      clear hb hQ hC hok
      go_wp2_with fail
      refine (lives_any _).mono ?_
      rintro e W2 ⟨rfl, hb⟩
      replace HP : Hid _ := HP.out.below hb
      replace HQ : Hid _ := HQ.out.below hb
      replace HB : Hid (Below w.heap.size w W2) := HB.out.trans (hb.mono HB.out.size)
      clear hb
      have h0 : 0 < n := by have := HL.out.one; omega
      have hcell := HQ.out.cell
      go_wp2_with fail
      go_quiet (first
        | (go_at_call 20; exact Calls.quiet_of_same (ticks_any _ _ _ _ L _ (HP.out.drew _) h0))
        | (go_at_call 15; exact Calls.quiet_of_same (at_any _ _ _ _ L _ _ (HP.out.drew _) h0))
        | (go_at_call 16; exact Calls.quiet_of_same (rat_any _ _ _ _ L _ _ (HQ.out.drew _)))
        | (go_at_call 17; exact Calls.quiet_of (asks_any _ _ _ _ _ _ _ _ L _ _ (HP.out.drew _) (HQ.out.drew _) HL.out)))
      go_wp2
      go_ret
      exact ⟨rfl, below_drewN HB.out _⟩
end Go.Proofs.Ythefgplobhmfcaa
