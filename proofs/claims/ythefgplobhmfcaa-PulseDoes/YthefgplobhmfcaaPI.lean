/- PulseNobody, PulseTurns: the walks. No condition. -/
import Derived.Test.YthefgplobhmfcaaPH
namespace Go.Proofs.Ythefgplobhmfcaa
open Go.RowKit Ieee
theorem count_nil (n : Int) (w : World) : Calls Try.prog 11 #[.pointer none, .int .i64 n] w fun e w' => e = .returned (.int .i64 6) ∧ w' = w := by
  go_enter Try.func11, Try.ntmps11
  go_wp2_with fail
  refine (isMade_nil _).mono ?_
  rintro e W ⟨rfl, rfl⟩
  go_wp2
  go_ret
  exact ⟨rfl, rfl⟩
theorem tick_nil (n : Int) (w : World) : Calls Try.prog 13 #[.pointer none, .int .i64 n] w fun e w' => e = .returned (.int .i64 6) ∧ w' = w := by
  go_enter Try.func13, Try.ntmps13
  go_wp2_with fail
  refine (isMade_nil _).mono ?_
  rintro e W ⟨rfl, rfl⟩
  go_wp2
  go_ret
  exact ⟨rfl, rfl⟩
theorem eq_0 : (FloatKind.f64.format.order 0 0 == some .eq) = true := by decide +kernel
set_option maxHeartbeats 1000000 in
theorem nobody_any (n : Int) (w : World) : Calls Try.prog 8 #[.int .i64 n] w fun e w' => e = .returned (.bool true) ∧ Below w.heap.size w w' := by
  have z0 := eq_0
  go_enter Try.func8, Try.ntmps8
  go_wp2_with fail
  refine (beat_nil _ _).mono ?_
  rintro e W ⟨rfl, rfl⟩
  go_wp2_with fail
  refine (power_nil _ _).mono ?_
  rintro e W ⟨rfl, rfl⟩
  go_wp2_with fail
  refine (lives_any _).mono ?_
  rintro e W1 ⟨rfl, hb⟩
  have HB : Hid _ := hb
  clear hb
  go_wp2_with fail
  refine (count_nil _ _).mono ?_
  rintro e W2 ⟨rfl, rfl⟩
  go_wp2_with fail
  refine (tick_nil _ _).mono ?_
  rintro e W2 ⟨rfl, rfl⟩
  go_wp2_with fail
  refine (ticks_nil _).mono ?_
  rintro e W2 ⟨rfl, rfl⟩
  go_wp2_with fail
  refine (at_nil _ _).mono ?_
  rintro e W2 ⟨rfl, rfl⟩
  go_wp2_with fail
  refine (fourth_nil _ _).mono ?_
  rintro e W2 ⟨rfl, rfl⟩
  go_wp2
  go_ret
  exact ⟨rfl, HB.out⟩
theorem quart_tmod (n : Int) : (if Int.tmod n 4 < 0 then Int.tmod n 4 + 4 else Int.tmod n 4) = quart n := by
  unfold quart
  rcases (by omega : 0 ≤ n ∨ n < 0) with h | h
  · rw [Int.tmod_eq_emod_of_nonneg h]; split <;> omega
  · have : Int.tmod n 4 = -((-n) % 4) := by
      rw [← Int.tmod_eq_emod_of_nonneg (by omega), Int.neg_tmod, Int.neg_neg]
    rw [this]
    split <;> omega
theorem tmod_bd (x : Int) : -1099511627776 < Int.tmod x 1099511627776 ∧ Int.tmod x 1099511627776 < 1099511627776 := by
  rcases (by omega : 0 ≤ x ∨ x < 0) with h | h
  · rw [Int.tmod_eq_emod_of_nonneg h]; omega
  · have : Int.tmod x 1099511627776 = -((-x) % 1099511627776) := by
      rw [← Int.tmod_eq_emod_of_nonneg (by omega), Int.neg_tmod, Int.neg_neg]
    omega
theorem rot_four {a b : Int} : rotR (quart 1) (rotR (quart 3) a b) (rotI (quart 3) a b) = a ∧ rotI (quart 1) (rotR (quart 3) a b) (rotI (quart 3) a b) = b := by
  show - -a = a ∧ - -b = b
  omega
set_option maxHeartbeats 1000000 in
theorem turns_any (re im n : Int) (w : World) : Calls Try.prog 7 #[.int .i64 re, .int .i64 im, .int .i64 n] w fun e w' => e = .returned (.bool true) ∧ Below w.heap.size w w' := by
  have b1 := tmod_bd re
  have b2 := tmod_bd im
  have hq := quart_tmod n
  have hq4 := quart_lt n
  go_enter Try.func7, Try.ntmps7
  rcases (by omega : 0 ≤ n.tmod 4 ∨ n.tmod 4 < 0) with hn | hn
  · rw [if_neg (by omega)] at hq
    have HQ : Hid _ := hq
    have hb4 : -4 ≤ n.tmod 4 := by omega
    clear hq
    go_wp2_with fail
    rw [HQ.out]
    clear HQ hn hb4
    have HN : Hid (quart n = quart n) := rfl
    have HT : Hid (∀ (x y : Nat) (a b : Int), Fl x a → Fl y b → ∀ W : World, Calls Try.prog 24 #[.complex .f64 x y, .int .i64 n] W fun e w' => e = .returned (.complex .f64 (floatOfInt .f64 (rotR (quart n) a b)) (floatOfInt .f64 (rotI (quart n) a b))) ∧ w' = W) := fun x y a b hx hy W => turn_any x y a b n hx hy W
    generalize quart n = q at *
    generalize re.tmod 1099511627776 = A at *
    generalize im.tmod 1099511627776 = B at *
    go_loopw [9, 10, 11] (fun x y i wr => ∃ (j : Nat) (a b : Int), j ≤ q ∧ i = .int .i64 j ∧ x = .int .i64 a ∧ y = .int .i64 b ∧ Hid (rotR (q - j) a b = rotR q A B ∧ rotI (q - j) a b = rotI q A B) ∧ (-1099511627776 < a ∧ a < 1099511627776) ∧ (-1099511627776 < b ∧ b < 1099511627776) ∧ wr = w) (fun _ _ i _ => 4 - (intOf i).toNat)
    case atStart => exact ⟨0, A, B, by omega, rfl, rfl, rfl, ⟨rfl, rfl⟩, b1, b2, rfl⟩
    case round =>
      obtain ⟨j, a, b, hj, rfl, rfl, rfl, HR, ba, bb, rfl⟩ := hrel
      rcases (by omega : j < q ∨ j = q) with hlt | rfl
      · have hltI : (j : Int) < q := by omega
        have hw1 : IntKind.i64.wrap (0 - b) = -b := by simp [IntKind.wrap, IntKind.bits, IntKind.signed]; omega
        have hw2 : IntKind.i64.wrap (-b) = -b := by simp [IntKind.wrap, IntKind.bits, IntKind.signed]; omega
        go_wp2
        go_roundw
        case rel =>
          refine ⟨j + 1, -b, a, by omega, by go_num, by go_num, rfl, ⟨?_, ?_⟩, by omega, by omega, trivial⟩
          · rw [← HR.out.1, show q - j = (q - (j + 1)) + 1 by omega]; rfl
          · rw [← HR.out.2, show q - j = (q - (j + 1)) + 1 by omega]; rfl
        case measure => simp [intOf]; omega
      · have e1 : a = rotR j A B := by have := HR.out.1; rwa [Nat.sub_self] at this
        have e2 : b = rotI j A B := by have := HR.out.2; rwa [Nat.sub_self] at this
        have hW : Hid _ := fun (W : World) => whole_any a b (by omega) (by omega) W
        have hT1 : Hid _ := fun (W : World) => HT.out _ _ A B (Fl.of (by omega)) (Fl.of (by omega)) W
        have hT3 : Hid _ := fun (W : World) => turn_any _ _ A B 3 (Fl.of (by omega)) (Fl.of (by omega)) W
        have r3 := rot_bd (quart 3) (a := A) (b := B) (by omega) (by omega)
        have hT4 := fun (W : World) => turn_any _ _ _ _ 1 (Fl.of r3.1) (Fl.of r3.2) W
        rw [rot_four.1, rot_four.2] at hT4
        have HT4 : Hid _ := hT4
        have o1 : (FloatKind.f64.format.order (floatOfInt .f64 A) (floatOfInt .f64 A) == some .eq) = true := by
          rw [show FloatKind.f64.format.order (floatOfInt .f64 A) (floatOfInt .f64 A) = _ from (Fl.of (show A.natAbs < 2 ^ 53 by omega)).order (Fl.of (by omega))]; simp
        have o2 : (FloatKind.f64.format.order (floatOfInt .f64 B) (floatOfInt .f64 B) == some .eq) = true := by
          rw [show FloatKind.f64.format.order (floatOfInt .f64 B) (floatOfInt .f64 B) = _ from (Fl.of (show B.natAbs < 2 ^ 53 by omega)).order (Fl.of (by omega))]; simp
        rw [← e1, ← e2] at hT1
        clear e1 e2 HR HT hT4 r3 ba bb b1 b2
        generalize floatOfInt .f64 A = z1 at *
        generalize floatOfInt .f64 B = z2 at *
        generalize floatOfInt .f64 (rotR (quart 3) A B) = z3 at *
        generalize floatOfInt .f64 (rotI (quart 3) A B) = z4 at *
        go_wp2_with fail
        refine (lives_any _).mono ?_
        rintro e W1 ⟨rfl, hb⟩
        have HB : Hid _ := hb
        clear hb
        go_wp2_with fail
        refine Calls.mono (hT1.out _) ?_
        rintro e W2 ⟨rfl, rfl⟩
        go_wp2_with fail
        refine Calls.mono (hW.out _) ?_
        rintro e W2 ⟨rfl, rfl⟩
        go_wp2_with fail
        refine Calls.mono (hT3.out _) ?_
        rintro e W2 ⟨rfl, rfl⟩
        go_wp2_with fail
        refine Calls.mono (HT4.out _) ?_
        rintro e W2 ⟨rfl, rfl⟩
        go_wp2
        go_ret
        exact ⟨rfl, HB.out⟩
  · rw [if_pos hn] at hq
    have HQ : Hid _ := hq
    have hb4 : -4 ≤ n.tmod 4 := by omega
    clear hq
    go_wp2_with fail
    rw [HQ.out]
    clear HQ hn hb4
    have HN : Hid (quart n = quart n) := rfl
    have HT : Hid (∀ (x y : Nat) (a b : Int), Fl x a → Fl y b → ∀ W : World, Calls Try.prog 24 #[.complex .f64 x y, .int .i64 n] W fun e w' => e = .returned (.complex .f64 (floatOfInt .f64 (rotR (quart n) a b)) (floatOfInt .f64 (rotI (quart n) a b))) ∧ w' = W) := fun x y a b hx hy W => turn_any x y a b n hx hy W
    generalize quart n = q at *
    generalize re.tmod 1099511627776 = A at *
    generalize im.tmod 1099511627776 = B at *
    go_loopw [9, 10, 11] (fun x y i wr => ∃ (j : Nat) (a b : Int), j ≤ q ∧ i = .int .i64 j ∧ x = .int .i64 a ∧ y = .int .i64 b ∧ Hid (rotR (q - j) a b = rotR q A B ∧ rotI (q - j) a b = rotI q A B) ∧ (-1099511627776 < a ∧ a < 1099511627776) ∧ (-1099511627776 < b ∧ b < 1099511627776) ∧ wr = w) (fun _ _ i _ => 4 - (intOf i).toNat)
    case atStart => exact ⟨0, A, B, by omega, rfl, rfl, rfl, ⟨rfl, rfl⟩, b1, b2, rfl⟩
    case round =>
      obtain ⟨j, a, b, hj, rfl, rfl, rfl, HR, ba, bb, rfl⟩ := hrel
      rcases (by omega : j < q ∨ j = q) with hlt | rfl
      · have hltI : (j : Int) < q := by omega
        have hw1 : IntKind.i64.wrap (0 - b) = -b := by simp [IntKind.wrap, IntKind.bits, IntKind.signed]; omega
        have hw2 : IntKind.i64.wrap (-b) = -b := by simp [IntKind.wrap, IntKind.bits, IntKind.signed]; omega
        go_wp2
        go_roundw
        case rel =>
          refine ⟨j + 1, -b, a, by omega, by go_num, by go_num, rfl, ⟨?_, ?_⟩, by omega, by omega, trivial⟩
          · rw [← HR.out.1, show q - j = (q - (j + 1)) + 1 by omega]; rfl
          · rw [← HR.out.2, show q - j = (q - (j + 1)) + 1 by omega]; rfl
        case measure => simp [intOf]; omega
      · have e1 : a = rotR j A B := by have := HR.out.1; rwa [Nat.sub_self] at this
        have e2 : b = rotI j A B := by have := HR.out.2; rwa [Nat.sub_self] at this
        have hW : Hid _ := fun (W : World) => whole_any a b (by omega) (by omega) W
        have hT1 : Hid _ := fun (W : World) => HT.out _ _ A B (Fl.of (by omega)) (Fl.of (by omega)) W
        have hT3 : Hid _ := fun (W : World) => turn_any _ _ A B 3 (Fl.of (by omega)) (Fl.of (by omega)) W
        have r3 := rot_bd (quart 3) (a := A) (b := B) (by omega) (by omega)
        have hT4 := fun (W : World) => turn_any _ _ _ _ 1 (Fl.of r3.1) (Fl.of r3.2) W
        rw [rot_four.1, rot_four.2] at hT4
        have HT4 : Hid _ := hT4
        have o1 : (FloatKind.f64.format.order (floatOfInt .f64 A) (floatOfInt .f64 A) == some .eq) = true := by
          rw [show FloatKind.f64.format.order (floatOfInt .f64 A) (floatOfInt .f64 A) = _ from (Fl.of (show A.natAbs < 2 ^ 53 by omega)).order (Fl.of (by omega))]; simp
        have o2 : (FloatKind.f64.format.order (floatOfInt .f64 B) (floatOfInt .f64 B) == some .eq) = true := by
          rw [show FloatKind.f64.format.order (floatOfInt .f64 B) (floatOfInt .f64 B) = _ from (Fl.of (show B.natAbs < 2 ^ 53 by omega)).order (Fl.of (by omega))]; simp
        rw [← e1, ← e2] at hT1
        clear e1 e2 HR HT hT4 r3 ba bb b1 b2
        generalize floatOfInt .f64 A = z1 at *
        generalize floatOfInt .f64 B = z2 at *
        generalize floatOfInt .f64 (rotR (quart 3) A B) = z3 at *
        generalize floatOfInt .f64 (rotI (quart 3) A B) = z4 at *
        go_wp2_with fail
        refine (lives_any _).mono ?_
        rintro e W1 ⟨rfl, hb⟩
        have HB : Hid _ := hb
        clear hb
        go_wp2_with fail
        refine Calls.mono (hT1.out _) ?_
        rintro e W2 ⟨rfl, rfl⟩
        go_wp2_with fail
        refine Calls.mono (hW.out _) ?_
        rintro e W2 ⟨rfl, rfl⟩
        go_wp2_with fail
        refine Calls.mono (hT3.out _) ?_
        rintro e W2 ⟨rfl, rfl⟩
        go_wp2_with fail
        refine Calls.mono (HT4.out _) ?_
        rintro e W2 ⟨rfl, rfl⟩
        go_wp2
        go_ret
        exact ⟨rfl, HB.out⟩
end Go.Proofs.Ythefgplobhmfcaa
