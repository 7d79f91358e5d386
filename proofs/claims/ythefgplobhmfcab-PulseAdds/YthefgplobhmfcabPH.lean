/- lives. No condition. -/
import Derived.Test.YthefgplobhmfcabPG
namespace Go.Proofs.Ythefgplobhmfcab
open Go.RowKit Ieee
theorem is_four (w : World) : IS (w.alloc (.cells #[.int .i64 1, .int .i64 2, .int .i64 3, .int .i64 4] 3)) (some ⟨w.heap.size, 0, none⟩) 4 [1, 2, 3, 4] :=
  ⟨rfl, .inr ⟨w.heap.size, 0, rfl, fun i t hi => by
    rw [cell_row (heap_alloc_new _ _)]
    match i, hi with
    | 0, hi | 1, hi | 2, hi | 3, hi => simp at hi; subst hi; rfl
    | i + 4, hi => simp at hi⟩⟩
theorem cnt_four : Cnt [1, 2, 3, 4] := Cnt.of (by decide)
theorem four_R : bR [1, 2, 3, 4] 4 4 = -2 := by decide
theorem four_I : bI [1, 2, 3, 4] 4 4 = -2 := by decide
theorem fl_m2 : floatOfInt .f64 (-2) = 13835058055282163712 := by decide +kernel
theorem fl_p2 : floatOfInt .f64 2 = 4611686018427387904 := by decide +kernel
theorem pow_four : Pow (-2) (-2) 4616189618054758400 4616189618054758400 4620693217682128896 := by
  refine ⟨?_, ?_, ?_, ?_⟩ <;> decide +kernel
theorem eq_m2 : (FloatKind.f64.format.order 13835058055282163712 13835058055282163712 == some .eq) = true := by decide +kernel
theorem eq_8 : (FloatKind.f64.format.order 4620693217682128896 4620693217682128896 == some .eq) = true := by decide +kernel
theorem eq_2 : (FloatKind.f64.format.order 4611686018427387904 4611686018427387904 == some .eq) = true := by decide +kernel
theorem PR.drew {w : World} {b : Nat} {a : Option Addr} {n c : Nat} {L : List Int} (h : PR w b a n c L) (m : Nat) : PR (w.drewN m) b a n c L := h.below (below_drewN (Below.refl _ _) _)
theorem drew_below {w w' : World} (h : ∃ m, w' = w.drewN m) : Below w.heap.size w w' := by
  obtain ⟨m, rfl⟩ := h
  exact below_drewN (Below.refl _ _) _
theorem fourth_int (b : Nat) (a : Option Addr) (n c : Nat) (L : List Int) (k : Int) (h0 : 0 ≤ k) (h4 : k < 4) (w : World) (h : PR w b a n c L) (hL : Cnt L) :
    Calls Try.prog 8 #[.pointer (some ⟨b, 0, none⟩), .int .i64 k] w fun e w' => e = .returned (.int .i64 (F4 L k.toNat)) ∧ w' = w := by
  have := fourth_any b a n c L k.toNat (by omega) w h hL
  rwa [show ((k.toNat : Nat) : Int) = k by omega] at this
theorem beat_four (b : Nat) (a : Option Addr) (c : Nat) (w : World) (h : PR w b a 4 c [1, 2, 3, 4]) :
    Calls Try.prog 6 #[.pointer (some ⟨b, 0, none⟩), .int .i64 4] w fun e w' => e = .returned (.tuple #[.complex .f64 13835058055282163712 13835058055282163712, .int .i64 0]) ∧ ∃ m, w' = w.drewN m := by
  have := beat_any b a 4 c _ 4 (by decide) w h cnt_four
  rwa [four_R, four_I, fl_m2] at this
theorem power_four (b : Nat) (a : Option Addr) (c : Nat) (w : World) (h : PR w b a 4 c [1, 2, 3, 4]) :
    Calls Try.prog 7 #[.pointer (some ⟨b, 0, none⟩), .int .i64 4] w fun e w' => e = .returned (.tuple #[.float .f64 4620693217682128896, .int .i64 0]) ∧ ∃ m, w' = w.drewN m :=
  power_any b a 4 c _ 4 (by decide) w h cnt_four _ _ _ (by rw [four_R, four_I]; exact pow_four)
theorem turn_four (w : World) :
    Calls Try.prog 9 #[.complex .f64 13835058055282163712 13835058055282163712, .int .i64 1] w fun e w' => e = .returned (.complex .f64 4611686018427387904 13835058055282163712) ∧ w' = w := by
  have := turn_any 13835058055282163712 13835058055282163712 (-2) (-2) 1 ⟨by decide, .inl fl_m2.symm⟩ ⟨by decide, .inl fl_m2.symm⟩ w
  rwa [show rotR (quart 1) (-2) (-2) = 2 from by decide, show rotI (quart 1) (-2) (-2) = -2 from by decide, fl_m2, fl_p2] at this
set_option maxHeartbeats 1000000 in
theorem lives_any (w : World) : Calls Try.prog 4 #[] w fun e w' => e = .returned (.bool true) ∧ Below w.heap.size w w' := by
  go_enter Try.func4, Try.ntmps4
  go_wp2_with fail
  refine (of_yes _ 4 4 [1, 2, 3, 4] _ (is_four w) cnt_four).mono ?_
  rintro e W ⟨b, a', c', rfl, hP, hb⟩
  have HB : Hid (Below w.heap.size w W) := (below1 _ _).trans (hb.mono (by simp))
  have HP : Hid _ := hP
  clear hP hb
  go_wp2_with fail
  refine (beat_four _ _ _ _ HP.out).mono ?_
  rintro e W1 ⟨rfl, hm⟩
  have hb1 := drew_below hm
  have HP1 : Hid _ := HP.out.below hb1
  have HB1 : Hid (Below w.heap.size w W1) := HB.out.trans (hb1.mono HB.out.size)
  clear hm hb1
  go_wp2_with fail
  refine (power_four _ _ _ _ HP1.out).mono ?_
  rintro e W2 ⟨rfl, hm⟩
  have hb2 := drew_below hm
  have HP2 : Hid _ := HP1.out.below hb2
  have HB2 : Hid (Below w.heap.size w W2) := HB1.out.trans (hb2.mono HB1.out.size)
  clear hm hb2
  have e1 := eq_m2
  have e2 := eq_8
  have e3 := eq_2
  go_wp2_with fail
  refine (fourth_int b a' 4 c' [1, 2, 3, 4] 1 (by decide) (by decide) _ HP2.out cnt_four).mono ?_
  rintro e W3 ⟨rfl, rfl⟩
  rw [show F4 [1, 2, 3, 4] (Int.toNat 1) = 2 from by decide]
  go_wp2_with fail
  refine (turn_four _).mono ?_
  rintro e W4 ⟨rfl, rfl⟩
  go_wp2
  go_ret
  exact ⟨rfl, HB2.out⟩
end Go.Proofs.Ythefgplobhmfcab
