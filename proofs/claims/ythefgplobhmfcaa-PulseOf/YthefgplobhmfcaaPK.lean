/- The beats' parts in full; PulseBack: the walk. Conditions: the counts can be read. -/
import Derived.Test.YthefgplobhmfcaaPI
namespace Go.Proofs.Ythefgplobhmfcaa
open Go.RowKit Ieee
theorem q0 : quart 0 = 0 := by decide
theorem beat1 (L : List Int) : bR L 1 4 = F4 L 0 + F4 L 1 + F4 L 2 + F4 L 3 ∧ bI L 1 4 = 0 := by
  have e0 : quart (((0 : Nat) : Int) * 4 / 1) = 0 := by decide
  have e1 : quart (((1 : Nat) : Int) * 4 / 1) = 0 := by decide
  have e2 : quart (((2 : Nat) : Int) * 4 / 1) = 0 := by decide
  have e3 : quart (((3 : Nat) : Int) * 4 / 1) = 0 := by decide
  simp only [bR, bI, e0, e1, e2, e3, rotR, rotI]; omega
theorem beat2 (L : List Int) : bR L 2 4 = F4 L 0 - F4 L 1 + F4 L 2 - F4 L 3 ∧ bI L 2 4 = 0 := by
  have e0 : quart (((0 : Nat) : Int) * 4 / 2) = 0 := by decide
  have e1 : quart (((1 : Nat) : Int) * 4 / 2) = 2 := by decide
  have e2 : quart (((2 : Nat) : Int) * 4 / 2) = 0 := by decide
  have e3 : quart (((3 : Nat) : Int) * 4 / 2) = 2 := by decide
  simp only [bR, bI, e0, e1, e2, e3, rotR, rotI]; omega
theorem beat4 (L : List Int) : bR L 4 4 = F4 L 0 - F4 L 2 ∧ bI L 4 4 = F4 L 1 - F4 L 3 := by
  have e0 : quart (((0 : Nat) : Int) * 4 / 4) = 0 := by decide
  have e1 : quart (((1 : Nat) : Int) * 4 / 4) = 1 := by decide
  have e2 : quart (((2 : Nat) : Int) * 4 / 4) = 2 := by decide
  have e3 : quart (((3 : Nat) : Int) * 4 / 4) = 3 := by decide
  simp only [bR, bI, e0, e1, e2, e3, rotR, rotI]; omega
/-- Beat, with its parts in full. -/
theorem beat_1 (b : Nat) (a : Option Addr) (n c : Nat) (L : List Int) (w : World) (h : PR w b a n c L) (hL : Cnt L) :
    Calls Try.prog 23 #[.pointer (some ⟨b, 0, none⟩), .int .i64 1] w fun e w' => e = .returned (.tuple #[.complex .f64 (floatOfInt .f64 (F4 L 0 + F4 L 1 + F4 L 2 + F4 L 3)) (floatOfInt .f64 0), .int .i64 0]) ∧ Below w.heap.size w w' := by
  have := beat_any b a n c L 1 (by decide) w h hL
  rw [(beat1 L).1, (beat1 L).2] at this
  exact this.mono fun _ _ h => ⟨h.1, drew_below h.2⟩
theorem beat_2 (b : Nat) (a : Option Addr) (n c : Nat) (L : List Int) (w : World) (h : PR w b a n c L) (hL : Cnt L) :
    Calls Try.prog 23 #[.pointer (some ⟨b, 0, none⟩), .int .i64 2] w fun e w' => e = .returned (.tuple #[.complex .f64 (floatOfInt .f64 (F4 L 0 - F4 L 1 + F4 L 2 - F4 L 3)) (floatOfInt .f64 0), .int .i64 0]) ∧ Below w.heap.size w w' := by
  have := beat_any b a n c L 2 (by decide) w h hL
  rw [(beat2 L).1, (beat2 L).2] at this
  exact this.mono fun _ _ h => ⟨h.1, drew_below h.2⟩
theorem beat_4 (b : Nat) (a : Option Addr) (n c : Nat) (L : List Int) (w : World) (h : PR w b a n c L) (hL : Cnt L) :
    Calls Try.prog 23 #[.pointer (some ⟨b, 0, none⟩), .int .i64 4] w fun e w' => e = .returned (.tuple #[.complex .f64 (floatOfInt .f64 (F4 L 0 - F4 L 2)) (floatOfInt .f64 (F4 L 1 - F4 L 3)), .int .i64 0]) ∧ Below w.heap.size w w' := by
  have := beat_any b a n c L 4 (by decide) w h hL
  rw [(beat4 L).1, (beat4 L).2] at this
  exact this.mono fun _ _ h => ⟨h.1, drew_below h.2⟩
theorem fl_refl {n : Int} (h : n.natAbs < 2 ^ 53) : (FloatKind.f64.format.order (floatOfInt .f64 n) (floatOfInt .f64 n) == some .eq) = true := by
  rw [show FloatKind.f64.format.order (floatOfInt .f64 n) (floatOfInt .f64 n) = _ from (Fl.of h).order (Fl.of h)]; simp
/-- A bound on four letters. -/
def Bd (x : Int) : Prop := -1099511627776 ≤ x ∧ x ≤ 1099511627776
set_option maxHeartbeats 2000000 in
theorem back_any (a : Option Addr) (n c : Nat) (L : List Int) (w : World) (h : IS w a n L) : Calls Try.prog 5 #[.slice a n c] w fun e w' => e = .returned (.bool true) ∧ Below w.heap.size w w' := by
  have H : Hid _ := h
  clear h
  go_enter Try.func5, Try.ntmps5
  go_wp2_with fail
  cases hok : okL L
  · refine (of_no _ _ _ L _ H.out hok).mono ?_
    rintro e W ⟨rfl, rfl⟩
    go_wp2_with fail
    refine (lives_any _).mono ?_
    rintro e W1 ⟨rfl, hb⟩
    have HB : Hid _ := hb
    clear hb
    go_wp2
    go_ret
    exact ⟨rfl, HB.out⟩
  · have HL : Hid _ := Cnt.of hok
    refine (of_yes _ _ _ L _ H.out HL.out).mono ?_
    rintro e W ⟨b, a', c', rfl, hP, hb⟩
    have HP : Hid _ := hP
    have HB : Hid _ := hb
    clear hb hP hok
    go_wp2_with fail
    refine (lives_any _).mono ?_
    rintro e W1 ⟨rfl, hb⟩
    have HP1 : Hid _ := HP.out.below hb
    have HB1 : Hid (Below w.heap.size w W1) := HB.out.trans (hb.mono HB.out.size)
    clear hb HP HB
    go_wp2_with fail
    refine (beat_1 _ _ _ _ L _ HP1.out HL.out).mono ?_
    rintro e W2 ⟨rfl, hb⟩
    have HP2 : Hid _ := HP1.out.below hb
    have HB2 : Hid (Below w.heap.size w W2) := HB1.out.trans (hb.mono HB1.out.size)
    clear hb HP1 HB1
    go_wp2_with fail
    refine (beat_2 _ _ _ _ L _ HP2.out HL.out).mono ?_
    rintro e W3 ⟨rfl, hb⟩
    have HP3 : Hid _ := HP2.out.below hb
    have HB3 : Hid (Below w.heap.size w W3) := HB2.out.trans (hb.mono HB2.out.size)
    clear hb HP2 HB2
    go_wp2_with fail
    refine (beat_4 _ _ _ _ L _ HP3.out HL.out).mono ?_
    rintro e W4 ⟨rfl, hb⟩
    have HP : Hid _ := HP3.out.below hb
    have HB : Hid (Below w.heap.size w W4) := HB3.out.trans (hb.mono HB3.out.size)
    clear hb HP3 HB3
    have g0 := F4_bd HL.out 0
    have g1 := F4_bd HL.out 1
    have g2 := F4_bd HL.out 2
    have g3 := F4_bd HL.out 3
    have HFF : Hid (∀ k : Nat, k < 4 → ∀ W : World, PR W b a' n c' L → Calls Try.prog 18 #[.pointer (some ⟨b, 0, none⟩), .int .i64 k] W fun e w' => e = .returned (.int .i64 (F4 L k)) ∧ w' = W) := fun k hk W h => fourth_any b a' n c' L k hk W h HL.out
    obtain ⟨F0, hF0⟩ : ∃ F0, F0 = F4 L 0 := ⟨_, rfl⟩
    obtain ⟨F1, hF1⟩ : ∃ F1, F1 = F4 L 1 := ⟨_, rfl⟩
    obtain ⟨F2, hF2⟩ : ∃ F2, F2 = F4 L 2 := ⟨_, rfl⟩
    obtain ⟨F3, hF3⟩ : ∃ F3, F3 = F4 L 3 := ⟨_, rfl⟩
    obtain ⟨s1, hs1⟩ : ∃ s1, s1 = F4 L 0 + F4 L 1 + F4 L 2 + F4 L 3 := ⟨_, rfl⟩
    obtain ⟨s2, hs2⟩ : ∃ s2, s2 = F4 L 0 - F4 L 1 + F4 L 2 - F4 L 3 := ⟨_, rfl⟩
    obtain ⟨f1, hf1⟩ : ∃ f1, f1 = F4 L 0 - F4 L 2 := ⟨_, rfl⟩
    obtain ⟨f2, hf2⟩ : ∃ f2, f2 = F4 L 1 - F4 L 3 := ⟨_, rfl⟩
    rw [← hs1, ← hs2, ← hf1, ← hf2]
    rw [← hF0, ← hF1, ← hF2, ← hF3] at hs1 hs2
    rw [← hF0, ← hF2] at hf1
    rw [← hF1, ← hF3] at hf2
    rw [← hF0] at g0
    rw [← hF1] at g1
    rw [← hF2] at g2
    rw [← hF3] at g3
    have HFF : Hid (∀ k : Nat, (hk : k < 4) → ∀ W : World, PR W b a' n c' L → Calls Try.prog 18 #[.pointer (some ⟨b, 0, none⟩), .int .i64 k] W fun e w' => e = .returned (.int .i64 (match k with | 0 => F0 | 1 => F1 | 2 => F2 | _ => F3)) ∧ w' = W) := by
      intro k hk W h
      have := HFF.out k hk W h
      match k, hk with
      | 0, _ => rw [hF0]; exact this
      | 1, _ => rw [hF1]; exact this
      | 2, _ => rw [hF2]; exact this
      | 3, _ => rw [hF3]; exact this
    clear hF0 hF1 hF2 hF3
    obtain ⟨x3, hx3⟩ : ∃ x3, x3 = Op.negFloat .f64 (floatOfInt .f64 f2) := ⟨_, rfl⟩
    have HX : Hid (Fl x3 (-f2)) := by rw [hx3]; exact (Fl.of (by omega)).neg
    have HX3 : Hid _ := hx3
    have HE : Hid (s1 = F0 + F1 + F2 + F3 ∧ s2 = F0 - F1 + F2 - F3 ∧ f1 = F0 - F2 ∧ f2 = F1 - F3) := ⟨hs1, hs2, hf1, hf2⟩
    clear hx3 hs1 hs2 hf1 hf2
    go_wp2_with (first
      | (refine wpList_neg_float rfl _ _ rfl .f64 _ rfl ?_)
      | fail)
    rw [← HX3.out]
    clear HX3
    go_loopw [12, 13] (fun i _ wr => ∃ j : Nat, j ≤ 4 ∧ i = .int .i64 j ∧ wr = W4) (fun i _ _ => 4 - (intOf i).toNat)
    case atStart => exact ⟨0, by omega, rfl, rfl⟩
    case round =>
      obtain ⟨j, hj, rfl, rfl⟩ := hrel
      rcases (by omega : j = 0 ∨ j = 1 ∨ j = 2 ∨ j = 3 ∨ j = 4) with rfl | rfl | rfl | rfl | rfl
      · obtain ⟨i1, i2, i3, i4⟩ := HE.out
        obtain ⟨p1, p2, hT2, hp1, hp2⟩ : ∃ p1 p2 : Int, (∀ W : World, Calls Try.prog 24 #[.complex .f64 (floatOfInt .f64 s2) (floatOfInt .f64 0), .int .i64 0] W fun e w' => e = .returned (.complex .f64 (floatOfInt .f64 p1) (floatOfInt .f64 p2)) ∧ w' = W) ∧ p1 = s2 ∧ p2 = 0 :=
          ⟨_, _, fun W => turn_any _ _ s2 0 0 (Fl.of (by omega)) (Fl.of (by decide)) W, by rw [show quart 0 = 0 from by decide]; rfl, by rw [show quart 0 = 0 from by decide]; rfl⟩
        obtain ⟨q1, q2, hTm, hq1, hq2⟩ : ∃ q1 q2 : Int, (∀ W : World, Calls Try.prog 24 #[.complex .f64 (floatOfInt .f64 f1) (floatOfInt .f64 f2), .int .i64 0] W fun e w' => e = .returned (.complex .f64 (floatOfInt .f64 q1) (floatOfInt .f64 q2)) ∧ w' = W) ∧ q1 = f1 ∧ q2 = f2 :=
          ⟨_, _, fun W => turn_any _ _ f1 f2 0 (Fl.of (by omega)) (Fl.of (by omega)) W, by rw [show quart 0 = 0 from by decide]; rfl, by rw [show quart 0 = 0 from by decide]; rfl⟩
        obtain ⟨r1, r2, hTo, hr1, hr2⟩ : ∃ r1 r2 : Int, (∀ W : World, Calls Try.prog 24 #[.complex .f64 (floatOfInt .f64 f1) x3, .int .i64 0] W fun e w' => e = .returned (.complex .f64 (floatOfInt .f64 r1) (floatOfInt .f64 r2)) ∧ w' = W) ∧ r1 = f1 ∧ r2 = (-f2) :=
          ⟨_, _, fun W => turn_any _ _ f1 (-f2) 0 (Fl.of (by omega)) HX.out W, by rw [show quart 0 = 0 from by decide]; rfl, by rw [show quart 0 = 0 from by decide]; rfl⟩
        have hF4 : ∀ W : World, PR W b a' n c' L → Calls Try.prog 18 #[.pointer (some ⟨b, 0, none⟩), .int .i64 0] W fun e w' => e = .returned (.int .i64 F0) ∧ w' = W := fun W h => HFF.out 0 (by decide) W h
        have HT2 : Hid _ := hT2
        have HTm : Hid _ := hTm
        have HTo : Hid _ := hTo
        have HF4 : Hid _ := hF4
        clear hT2 hTm hTo hF4
        have a1 := fun (t : TypeId) (W : World) => complex_add (a := s1) (b := 0) (c := p1) (d := p2) (by omega) (by omega) (by omega) (by omega) (by omega) (by omega) t W
        have a2 := fun (t : TypeId) (W : World) => complex_add (a := s1 + p1) (b := 0 + p2) (c := q1) (d := q2) (by omega) (by omega) (by omega) (by omega) (by omega) (by omega) t W
        have a3 := fun (t : TypeId) (W : World) => complex_add (a := s1 + p1 + q1) (b := 0 + p2 + q2) (c := r1) (d := r2) (by omega) (by omega) (by omega) (by omega) (by omega) (by omega) t W
        rw [show s1 + p1 + q1 + r1 = 4 * F0 by omega, show 0 + p2 + q2 + r2 = 0 by omega, fl_zero] at a3
        have o1 := fl_refl (show (4 * F0).natAbs < 2 ^ 53 by omega)
        have o2 := eq_0
        have hw : IntKind.i64.wrap (4 * F0) = 4 * F0 := by simp [IntKind.wrap, IntKind.bits, IntKind.signed]; omega
        clear hp1 hp2 hq1 hq2 hr1 hr2 i1 i2 i3 i4
        generalize floatOfInt .f64 (s1 + p1 + q1) = y1 at *
        generalize floatOfInt .f64 (0 + p2 + q2) = y2 at *
        generalize floatOfInt .f64 (s1 + p1) = y3 at *
        generalize floatOfInt .f64 (0 + p2) = y4 at *
        go_wp2_with fail
        refine Calls.mono (HT2.out _) ?_
        rintro e W2 ⟨rfl, rfl⟩
        go_wp2_with fail
        refine Calls.mono (HTm.out _) ?_
        rintro e W2 ⟨rfl, rfl⟩
        go_wp2_with fail
        refine Calls.mono (HTo.out _) ?_
        rintro e W2 ⟨rfl, rfl⟩
        go_wp2_with fail
        refine Calls.mono (HF4.out _ HP.out) ?_
        rintro e W2 ⟨rfl, rfl⟩
        go_wp2
        go_roundw
        case rel => exact ⟨0 + 1, by omega, rfl, trivial⟩
        case measure => simp [intOf]
      · obtain ⟨i1, i2, i3, i4⟩ := HE.out
        obtain ⟨p1, p2, hT2, hp1, hp2⟩ : ∃ p1 p2 : Int, (∀ W : World, Calls Try.prog 24 #[.complex .f64 (floatOfInt .f64 s2) (floatOfInt .f64 0), .int .i64 2] W fun e w' => e = .returned (.complex .f64 (floatOfInt .f64 p1) (floatOfInt .f64 p2)) ∧ w' = W) ∧ p1 = -s2 ∧ p2 = -0 :=
          ⟨_, _, fun W => turn_any _ _ s2 0 2 (Fl.of (by omega)) (Fl.of (by decide)) W, by rw [show quart 2 = 2 from by decide]; rfl, by rw [show quart 2 = 2 from by decide]; rfl⟩
        obtain ⟨q1, q2, hTm, hq1, hq2⟩ : ∃ q1 q2 : Int, (∀ W : World, Calls Try.prog 24 #[.complex .f64 (floatOfInt .f64 f1) (floatOfInt .f64 f2), .int .i64 (-1)] W fun e w' => e = .returned (.complex .f64 (floatOfInt .f64 q1) (floatOfInt .f64 q2)) ∧ w' = W) ∧ q1 = - -f2 ∧ q2 = -f1 :=
          ⟨_, _, fun W => turn_any _ _ f1 f2 (-1) (Fl.of (by omega)) (Fl.of (by omega)) W, by rw [show quart (-1) = 3 from by decide]; rfl, by rw [show quart (-1) = 3 from by decide]; rfl⟩
        obtain ⟨r1, r2, hTo, hr1, hr2⟩ : ∃ r1 r2 : Int, (∀ W : World, Calls Try.prog 24 #[.complex .f64 (floatOfInt .f64 f1) x3, .int .i64 1] W fun e w' => e = .returned (.complex .f64 (floatOfInt .f64 r1) (floatOfInt .f64 r2)) ∧ w' = W) ∧ r1 = -(-f2) ∧ r2 = f1 :=
          ⟨_, _, fun W => turn_any _ _ f1 (-f2) 1 (Fl.of (by omega)) HX.out W, by rw [show quart 1 = 1 from by decide]; rfl, by rw [show quart 1 = 1 from by decide]; rfl⟩
        have hF4 : ∀ W : World, PR W b a' n c' L → Calls Try.prog 18 #[.pointer (some ⟨b, 0, none⟩), .int .i64 1] W fun e w' => e = .returned (.int .i64 F1) ∧ w' = W := fun W h => HFF.out 1 (by decide) W h
        have HT2 : Hid _ := hT2
        have HTm : Hid _ := hTm
        have HTo : Hid _ := hTo
        have HF4 : Hid _ := hF4
        clear hT2 hTm hTo hF4
        have a1 := fun (t : TypeId) (W : World) => complex_add (a := s1) (b := 0) (c := p1) (d := p2) (by omega) (by omega) (by omega) (by omega) (by omega) (by omega) t W
        have a2 := fun (t : TypeId) (W : World) => complex_add (a := s1 + p1) (b := 0 + p2) (c := q1) (d := q2) (by omega) (by omega) (by omega) (by omega) (by omega) (by omega) t W
        have a3 := fun (t : TypeId) (W : World) => complex_add (a := s1 + p1 + q1) (b := 0 + p2 + q2) (c := r1) (d := r2) (by omega) (by omega) (by omega) (by omega) (by omega) (by omega) t W
        rw [show s1 + p1 + q1 + r1 = 4 * F1 by omega, show 0 + p2 + q2 + r2 = 0 by omega, fl_zero] at a3
        have o1 := fl_refl (show (4 * F1).natAbs < 2 ^ 53 by omega)
        have o2 := eq_0
        have hw : IntKind.i64.wrap (4 * F1) = 4 * F1 := by simp [IntKind.wrap, IntKind.bits, IntKind.signed]; omega
        clear hp1 hp2 hq1 hq2 hr1 hr2 i1 i2 i3 i4
        generalize floatOfInt .f64 (s1 + p1 + q1) = y1 at *
        generalize floatOfInt .f64 (0 + p2 + q2) = y2 at *
        generalize floatOfInt .f64 (s1 + p1) = y3 at *
        generalize floatOfInt .f64 (0 + p2) = y4 at *
        go_wp2_with fail
        refine Calls.mono (HT2.out _) ?_
        rintro e W2 ⟨rfl, rfl⟩
        go_wp2_with fail
        refine Calls.mono (HTm.out _) ?_
        rintro e W2 ⟨rfl, rfl⟩
        go_wp2_with fail
        refine Calls.mono (HTo.out _) ?_
        rintro e W2 ⟨rfl, rfl⟩
        go_wp2_with fail
        refine Calls.mono (HF4.out _ HP.out) ?_
        rintro e W2 ⟨rfl, rfl⟩
        go_wp2
        go_roundw
        case rel => exact ⟨1 + 1, by omega, rfl, trivial⟩
        case measure => simp [intOf]
      · obtain ⟨i1, i2, i3, i4⟩ := HE.out
        obtain ⟨p1, p2, hT2, hp1, hp2⟩ : ∃ p1 p2 : Int, (∀ W : World, Calls Try.prog 24 #[.complex .f64 (floatOfInt .f64 s2) (floatOfInt .f64 0), .int .i64 4] W fun e w' => e = .returned (.complex .f64 (floatOfInt .f64 p1) (floatOfInt .f64 p2)) ∧ w' = W) ∧ p1 = s2 ∧ p2 = 0 :=
          ⟨_, _, fun W => turn_any _ _ s2 0 4 (Fl.of (by omega)) (Fl.of (by decide)) W, by rw [show quart 4 = 0 from by decide]; rfl, by rw [show quart 4 = 0 from by decide]; rfl⟩
        obtain ⟨q1, q2, hTm, hq1, hq2⟩ : ∃ q1 q2 : Int, (∀ W : World, Calls Try.prog 24 #[.complex .f64 (floatOfInt .f64 f1) (floatOfInt .f64 f2), .int .i64 (-2)] W fun e w' => e = .returned (.complex .f64 (floatOfInt .f64 q1) (floatOfInt .f64 q2)) ∧ w' = W) ∧ q1 = -f1 ∧ q2 = -f2 :=
          ⟨_, _, fun W => turn_any _ _ f1 f2 (-2) (Fl.of (by omega)) (Fl.of (by omega)) W, by rw [show quart (-2) = 2 from by decide]; rfl, by rw [show quart (-2) = 2 from by decide]; rfl⟩
        obtain ⟨r1, r2, hTo, hr1, hr2⟩ : ∃ r1 r2 : Int, (∀ W : World, Calls Try.prog 24 #[.complex .f64 (floatOfInt .f64 f1) x3, .int .i64 2] W fun e w' => e = .returned (.complex .f64 (floatOfInt .f64 r1) (floatOfInt .f64 r2)) ∧ w' = W) ∧ r1 = -f1 ∧ r2 = -(-f2) :=
          ⟨_, _, fun W => turn_any _ _ f1 (-f2) 2 (Fl.of (by omega)) HX.out W, by rw [show quart 2 = 2 from by decide]; rfl, by rw [show quart 2 = 2 from by decide]; rfl⟩
        have hF4 : ∀ W : World, PR W b a' n c' L → Calls Try.prog 18 #[.pointer (some ⟨b, 0, none⟩), .int .i64 2] W fun e w' => e = .returned (.int .i64 F2) ∧ w' = W := fun W h => HFF.out 2 (by decide) W h
        have HT2 : Hid _ := hT2
        have HTm : Hid _ := hTm
        have HTo : Hid _ := hTo
        have HF4 : Hid _ := hF4
        clear hT2 hTm hTo hF4
        have a1 := fun (t : TypeId) (W : World) => complex_add (a := s1) (b := 0) (c := p1) (d := p2) (by omega) (by omega) (by omega) (by omega) (by omega) (by omega) t W
        have a2 := fun (t : TypeId) (W : World) => complex_add (a := s1 + p1) (b := 0 + p2) (c := q1) (d := q2) (by omega) (by omega) (by omega) (by omega) (by omega) (by omega) t W
        have a3 := fun (t : TypeId) (W : World) => complex_add (a := s1 + p1 + q1) (b := 0 + p2 + q2) (c := r1) (d := r2) (by omega) (by omega) (by omega) (by omega) (by omega) (by omega) t W
        rw [show s1 + p1 + q1 + r1 = 4 * F2 by omega, show 0 + p2 + q2 + r2 = 0 by omega, fl_zero] at a3
        have o1 := fl_refl (show (4 * F2).natAbs < 2 ^ 53 by omega)
        have o2 := eq_0
        have hw : IntKind.i64.wrap (4 * F2) = 4 * F2 := by simp [IntKind.wrap, IntKind.bits, IntKind.signed]; omega
        clear hp1 hp2 hq1 hq2 hr1 hr2 i1 i2 i3 i4
        generalize floatOfInt .f64 (s1 + p1 + q1) = y1 at *
        generalize floatOfInt .f64 (0 + p2 + q2) = y2 at *
        generalize floatOfInt .f64 (s1 + p1) = y3 at *
        generalize floatOfInt .f64 (0 + p2) = y4 at *
        go_wp2_with fail
        refine Calls.mono (HT2.out _) ?_
        rintro e W2 ⟨rfl, rfl⟩
        go_wp2_with fail
        refine Calls.mono (HTm.out _) ?_
        rintro e W2 ⟨rfl, rfl⟩
        go_wp2_with fail
        refine Calls.mono (HTo.out _) ?_
        rintro e W2 ⟨rfl, rfl⟩
        go_wp2_with fail
        refine Calls.mono (HF4.out _ HP.out) ?_
        rintro e W2 ⟨rfl, rfl⟩
        go_wp2
        go_roundw
        case rel => exact ⟨2 + 1, by omega, rfl, trivial⟩
        case measure => simp [intOf]
      · obtain ⟨i1, i2, i3, i4⟩ := HE.out
        obtain ⟨p1, p2, hT2, hp1, hp2⟩ : ∃ p1 p2 : Int, (∀ W : World, Calls Try.prog 24 #[.complex .f64 (floatOfInt .f64 s2) (floatOfInt .f64 0), .int .i64 6] W fun e w' => e = .returned (.complex .f64 (floatOfInt .f64 p1) (floatOfInt .f64 p2)) ∧ w' = W) ∧ p1 = -s2 ∧ p2 = -0 :=
          ⟨_, _, fun W => turn_any _ _ s2 0 6 (Fl.of (by omega)) (Fl.of (by decide)) W, by rw [show quart 6 = 2 from by decide]; rfl, by rw [show quart 6 = 2 from by decide]; rfl⟩
        obtain ⟨q1, q2, hTm, hq1, hq2⟩ : ∃ q1 q2 : Int, (∀ W : World, Calls Try.prog 24 #[.complex .f64 (floatOfInt .f64 f1) (floatOfInt .f64 f2), .int .i64 (-3)] W fun e w' => e = .returned (.complex .f64 (floatOfInt .f64 q1) (floatOfInt .f64 q2)) ∧ w' = W) ∧ q1 = -f2 ∧ q2 = f1 :=
          ⟨_, _, fun W => turn_any _ _ f1 f2 (-3) (Fl.of (by omega)) (Fl.of (by omega)) W, by rw [show quart (-3) = 1 from by decide]; rfl, by rw [show quart (-3) = 1 from by decide]; rfl⟩
        obtain ⟨r1, r2, hTo, hr1, hr2⟩ : ∃ r1 r2 : Int, (∀ W : World, Calls Try.prog 24 #[.complex .f64 (floatOfInt .f64 f1) x3, .int .i64 3] W fun e w' => e = .returned (.complex .f64 (floatOfInt .f64 r1) (floatOfInt .f64 r2)) ∧ w' = W) ∧ r1 = - -(-f2) ∧ r2 = -f1 :=
          ⟨_, _, fun W => turn_any _ _ f1 (-f2) 3 (Fl.of (by omega)) HX.out W, by rw [show quart 3 = 3 from by decide]; rfl, by rw [show quart 3 = 3 from by decide]; rfl⟩
        have hF4 : ∀ W : World, PR W b a' n c' L → Calls Try.prog 18 #[.pointer (some ⟨b, 0, none⟩), .int .i64 3] W fun e w' => e = .returned (.int .i64 F3) ∧ w' = W := fun W h => HFF.out 3 (by decide) W h
        have HT2 : Hid _ := hT2
        have HTm : Hid _ := hTm
        have HTo : Hid _ := hTo
        have HF4 : Hid _ := hF4
        clear hT2 hTm hTo hF4
        have a1 := fun (t : TypeId) (W : World) => complex_add (a := s1) (b := 0) (c := p1) (d := p2) (by omega) (by omega) (by omega) (by omega) (by omega) (by omega) t W
        have a2 := fun (t : TypeId) (W : World) => complex_add (a := s1 + p1) (b := 0 + p2) (c := q1) (d := q2) (by omega) (by omega) (by omega) (by omega) (by omega) (by omega) t W
        have a3 := fun (t : TypeId) (W : World) => complex_add (a := s1 + p1 + q1) (b := 0 + p2 + q2) (c := r1) (d := r2) (by omega) (by omega) (by omega) (by omega) (by omega) (by omega) t W
        rw [show s1 + p1 + q1 + r1 = 4 * F3 by omega, show 0 + p2 + q2 + r2 = 0 by omega, fl_zero] at a3
        have o1 := fl_refl (show (4 * F3).natAbs < 2 ^ 53 by omega)
        have o2 := eq_0
        have hw : IntKind.i64.wrap (4 * F3) = 4 * F3 := by simp [IntKind.wrap, IntKind.bits, IntKind.signed]; omega
        clear hp1 hp2 hq1 hq2 hr1 hr2 i1 i2 i3 i4
        generalize floatOfInt .f64 (s1 + p1 + q1) = y1 at *
        generalize floatOfInt .f64 (0 + p2 + q2) = y2 at *
        generalize floatOfInt .f64 (s1 + p1) = y3 at *
        generalize floatOfInt .f64 (0 + p2) = y4 at *
        go_wp2_with fail
        refine Calls.mono (HT2.out _) ?_
        rintro e W2 ⟨rfl, rfl⟩
        go_wp2_with fail
        refine Calls.mono (HTm.out _) ?_
        rintro e W2 ⟨rfl, rfl⟩
        go_wp2_with fail
        refine Calls.mono (HTo.out _) ?_
        rintro e W2 ⟨rfl, rfl⟩
        go_wp2_with fail
        refine Calls.mono (HF4.out _ HP.out) ?_
        rintro e W2 ⟨rfl, rfl⟩
        go_wp2
        go_roundw
        case rel => exact ⟨3 + 1, by omega, rfl, trivial⟩
        case measure => simp [intOf]
      · go_wp2
        go_ret
        exact ⟨rfl, HB.out⟩
end Go.Proofs.Ythefgplobhmfcaa
