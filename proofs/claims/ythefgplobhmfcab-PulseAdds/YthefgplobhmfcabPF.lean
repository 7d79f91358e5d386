/- The beat of a pulse. Conditions: it can be read; its counts are such. -/
import Derived.Test.YthefgplobhmfcabPE
namespace Go.Proofs.Ythefgplobhmfcab
open Go.RowKit
/-- The beat's parts so far. -/
def bR (L : List Int) (p : Int) : Nat → Int
  | 0 => 0
  | j + 1 => bR L p j + rotR (quart ((j : Int) * 4 / p)) (F4 L j) 0
def bI (L : List Int) (p : Int) : Nat → Int
  | 0 => 0
  | j + 1 => bI L p j + rotI (quart ((j : Int) * 4 / p)) (F4 L j) 0
theorem rot_le : ∀ (k : Nat) {a b M : Int}, -M ≤ a → a ≤ M → -M ≤ b → b ≤ M → (-M ≤ rotR k a b ∧ rotR k a b ≤ M) ∧ (-M ≤ rotI k a b ∧ rotI k a b ≤ M)
  | 0, _, _, _, h1, h2, h3, h4 => ⟨⟨h1, h2⟩, h3, h4⟩
  | k + 1, a, b, M, h1, h2, h3, h4 => rot_le k (a := -b) (b := a) (M := M) (by omega) (by omega) h1 h2
theorem b_bd {L : List Int} (h : Cnt L) (p : Int) : ∀ j : Nat, (-(1099511627776 * (j : Int)) ≤ bR L p j ∧ bR L p j ≤ 1099511627776 * j) ∧ (-(1099511627776 * (j : Int)) ≤ bI L p j ∧ bI L p j ≤ 1099511627776 * j)
  | 0 => by simp [bR, bI]
  | j + 1 => by
    have h1 := b_bd h p j
    have h2 := F4_bd h j
    have h3 := rot_le (quart ((j : Int) * 4 / p)) (a := F4 L j) (b := 0) (M := 1099511627776) (by omega) (by omega) (by omega) (by omega)
    simp only [bR, bI]
    omega
theorem complex_add {a b c d : Int} (ha : a.natAbs < 2 ^ 53) (hb : b.natAbs < 2 ^ 53) (hc : c.natAbs < 2 ^ 53) (hd : d.natAbs < 2 ^ 53) (hac : (a + c).natAbs < 2 ^ 53) (hbd : (b + d).natAbs < 2 ^ 53) (t : TypeId) (W : World) :
    (binOp .add t (.complex .f64 (floatOfInt .f64 a) (floatOfInt .f64 b)) (.complex .f64 (floatOfInt .f64 c) (floatOfInt .f64 d))).run Try.prog W = .ok (.complex .f64 (floatOfInt .f64 (a + c)) (floatOfInt .f64 (b + d))) W :=
  run_complex_sum W .add (.inl rfl) t .f64 _ _ _ _ _ _ (by simp [cSumBits, fl_add ha hc hac, fl_add hb hd hbd])
set_option maxHeartbeats 2000000 in
theorem beat_any (b : Nat) (a : Option Addr) (n c : Nat) (L : List Int) (p : Int) (hp : p = 1 ∨ p = 2 ∨ p = 4) (w : World) (h : PR w b a n c L) (hL : Cnt L) :
    Calls Try.prog 6 #[.pointer (some ⟨b, 0, none⟩), .int .i64 p] w fun e w' => e = .returned (.tuple #[.complex .f64 (floatOfInt .f64 (bR L p 4)) (floatOfInt .f64 (bI L p 4)), .int .i64 0]) ∧ ∃ m, w' = w.drewN m := by
  have hlen := h.is.len
  have h0 : 0 < n := by have := hL.one; omega
  have h0I : decide (0 < n) = true := by simpa using h0
  have H : Hid _ := h
  have HL : Hid _ := hL
  clear h hL
  go_enter Try.func6, Try.ntmps6
  go_wp2_with fail
  refine (isMade_any _ _ _ _ L _ H.out).mono ?_
  rintro e W ⟨rfl, rfl⟩
  rw [h0I]
  have HZ : Hid (Fl 0 0) := ⟨by decide, .inl fl_zero.symm⟩
  rcases hp with rfl | rfl | rfl
  · go_wp2_with fail
    go_loopw [6, 21] (fun z i wr => ∃ j : Nat, j ≤ 4 ∧ i = .int .i64 j ∧ z = .complex .f64 (floatOfInt .f64 (bR L 1 j)) (floatOfInt .f64 (bI L 1 j)) ∧ Hid (∃ m, wr = W.drewN m)) (fun _ i _ => 4 - (intOf i).toNat)
    case atStart => exact ⟨0, by omega, rfl, by rw [← show (0 : Nat) = floatOfInt .f64 (bR L 1 0) from fl_zero.symm, ← show (0 : Nat) = floatOfInt .f64 (bI L 1 0) from fl_zero.symm], ⟨0, rfl⟩⟩
    case round =>
      obtain ⟨j, hj, rfl, rfl, HM⟩ := hrel
      have H1 : Hid (PR wr b a n c L) := H.out.below (by obtain ⟨m, hm⟩ := HM.out; rw [hm]; exact below_drewN (Below.refl _ _) _)
      rcases (by omega : j = 0 ∨ j = 1 ∨ j = 2 ∨ j = 3 ∨ j = 4) with rfl | rfl | rfl | rfl | rfl
      · have b1 := b_bd HL.out 1 0
        have b2 := F4_bd HL.out 0
        have b3 := rot_le (quart 0) (a := F4 L 0) (b := 0) (M := 1099511627776) (by omega) (by omega) (by omega) (by omega)
        have hadd := fun t W => complex_add (a := bR L 1 0) (b := bI L 1 0) (c := rotR (quart 0) (F4 L 0) 0) (d := rotI (quart 0) (F4 L 0) 0) (by omega) (by omega) (by omega) (by omega) (by omega) (by omega) t W
        have e1 : Hid (bR L 1 0 + rotR (quart 0) (F4 L 0) 0 = bR L 1 (0 + 1)) := rfl
        have e2 : Hid (bI L 1 0 + rotI (quart 0) (F4 L 0) 0 = bI L 1 (0 + 1)) := rfl
        have hT := fun W => turn_any (floatOfInt .f64 (F4 L 0)) 0 (F4 L 0) 0 0 (Fl.of (by omega)) HZ.out W
        have hF : ∀ W' : World, Below wr.heap.size wr W' → Calls Try.prog 8 #[.pointer (some ⟨b, 0, none⟩), .int .i64 0] W' fun e w' => e = .returned (.int .i64 (F4 L 0)) ∧ w' = W' := fun W' hW => fourth_any b a n c L 0 (by omega) _ (H1.out.below hW) HL.out
        clear b1 b2 b3
        have HT : Hid _ := hT
        have HF : Hid _ := hF
        clear hT hF
        generalize rotR (quart 0) (F4 L 0) 0 = r1 at *
        generalize rotI (quart 0) (F4 L 0) 0 = r2 at *
        generalize bR L 1 0 = z1 at *
        generalize bI L 1 0 = z2 at *
        generalize F4 L 0 = f at *
        go_wp2_with fail
        go_quiet (first
          | (go_at_call 8; exact Calls.quiet_of_same (HF.out _ (below_drewN (Below.refl _ _) _)))
          | (go_at_call 9; exact Calls.quiet_of_same (HT.out _)))
        go_wp2
        go_roundw
        case rel => exact ⟨0 + 1, by omega, rfl, by rw [← e1.out, ← e2.out], by obtain ⟨m, hm⟩ := HM.out; exact ⟨_, by rw [hm, World.drewN_drewN]⟩⟩
        case measure => simp [intOf]
      · have b1 := b_bd HL.out 1 1
        have b2 := F4_bd HL.out 1
        have b3 := rot_le (quart 4) (a := F4 L 1) (b := 0) (M := 1099511627776) (by omega) (by omega) (by omega) (by omega)
        have hadd := fun t W => complex_add (a := bR L 1 1) (b := bI L 1 1) (c := rotR (quart 4) (F4 L 1) 0) (d := rotI (quart 4) (F4 L 1) 0) (by omega) (by omega) (by omega) (by omega) (by omega) (by omega) t W
        have e1 : Hid (bR L 1 1 + rotR (quart 4) (F4 L 1) 0 = bR L 1 (1 + 1)) := rfl
        have e2 : Hid (bI L 1 1 + rotI (quart 4) (F4 L 1) 0 = bI L 1 (1 + 1)) := rfl
        have hT := fun W => turn_any (floatOfInt .f64 (F4 L 1)) 0 (F4 L 1) 0 4 (Fl.of (by omega)) HZ.out W
        have hF : ∀ W' : World, Below wr.heap.size wr W' → Calls Try.prog 8 #[.pointer (some ⟨b, 0, none⟩), .int .i64 1] W' fun e w' => e = .returned (.int .i64 (F4 L 1)) ∧ w' = W' := fun W' hW => fourth_any b a n c L 1 (by omega) _ (H1.out.below hW) HL.out
        clear b1 b2 b3
        have HT : Hid _ := hT
        have HF : Hid _ := hF
        clear hT hF
        generalize rotR (quart 4) (F4 L 1) 0 = r1 at *
        generalize rotI (quart 4) (F4 L 1) 0 = r2 at *
        generalize bR L 1 1 = z1 at *
        generalize bI L 1 1 = z2 at *
        generalize F4 L 1 = f at *
        go_wp2_with fail
        go_quiet (first
          | (go_at_call 8; exact Calls.quiet_of_same (HF.out _ (below_drewN (Below.refl _ _) _)))
          | (go_at_call 9; exact Calls.quiet_of_same (HT.out _)))
        go_wp2
        go_roundw
        case rel => exact ⟨1 + 1, by omega, rfl, by rw [← e1.out, ← e2.out], by obtain ⟨m, hm⟩ := HM.out; exact ⟨_, by rw [hm, World.drewN_drewN]⟩⟩
        case measure => simp [intOf]
      · have b1 := b_bd HL.out 1 2
        have b2 := F4_bd HL.out 2
        have b3 := rot_le (quart 8) (a := F4 L 2) (b := 0) (M := 1099511627776) (by omega) (by omega) (by omega) (by omega)
        have hadd := fun t W => complex_add (a := bR L 1 2) (b := bI L 1 2) (c := rotR (quart 8) (F4 L 2) 0) (d := rotI (quart 8) (F4 L 2) 0) (by omega) (by omega) (by omega) (by omega) (by omega) (by omega) t W
        have e1 : Hid (bR L 1 2 + rotR (quart 8) (F4 L 2) 0 = bR L 1 (2 + 1)) := rfl
        have e2 : Hid (bI L 1 2 + rotI (quart 8) (F4 L 2) 0 = bI L 1 (2 + 1)) := rfl
        have hT := fun W => turn_any (floatOfInt .f64 (F4 L 2)) 0 (F4 L 2) 0 8 (Fl.of (by omega)) HZ.out W
        have hF : ∀ W' : World, Below wr.heap.size wr W' → Calls Try.prog 8 #[.pointer (some ⟨b, 0, none⟩), .int .i64 2] W' fun e w' => e = .returned (.int .i64 (F4 L 2)) ∧ w' = W' := fun W' hW => fourth_any b a n c L 2 (by omega) _ (H1.out.below hW) HL.out
        clear b1 b2 b3
        have HT : Hid _ := hT
        have HF : Hid _ := hF
        clear hT hF
        generalize rotR (quart 8) (F4 L 2) 0 = r1 at *
        generalize rotI (quart 8) (F4 L 2) 0 = r2 at *
        generalize bR L 1 2 = z1 at *
        generalize bI L 1 2 = z2 at *
        generalize F4 L 2 = f at *
        go_wp2_with fail
        go_quiet (first
          | (go_at_call 8; exact Calls.quiet_of_same (HF.out _ (below_drewN (Below.refl _ _) _)))
          | (go_at_call 9; exact Calls.quiet_of_same (HT.out _)))
        go_wp2
        go_roundw
        case rel => exact ⟨2 + 1, by omega, rfl, by rw [← e1.out, ← e2.out], by obtain ⟨m, hm⟩ := HM.out; exact ⟨_, by rw [hm, World.drewN_drewN]⟩⟩
        case measure => simp [intOf]
      · have b1 := b_bd HL.out 1 3
        have b2 := F4_bd HL.out 3
        have b3 := rot_le (quart 12) (a := F4 L 3) (b := 0) (M := 1099511627776) (by omega) (by omega) (by omega) (by omega)
        have hadd := fun t W => complex_add (a := bR L 1 3) (b := bI L 1 3) (c := rotR (quart 12) (F4 L 3) 0) (d := rotI (quart 12) (F4 L 3) 0) (by omega) (by omega) (by omega) (by omega) (by omega) (by omega) t W
        have e1 : Hid (bR L 1 3 + rotR (quart 12) (F4 L 3) 0 = bR L 1 (3 + 1)) := rfl
        have e2 : Hid (bI L 1 3 + rotI (quart 12) (F4 L 3) 0 = bI L 1 (3 + 1)) := rfl
        have hT := fun W => turn_any (floatOfInt .f64 (F4 L 3)) 0 (F4 L 3) 0 12 (Fl.of (by omega)) HZ.out W
        have hF : ∀ W' : World, Below wr.heap.size wr W' → Calls Try.prog 8 #[.pointer (some ⟨b, 0, none⟩), .int .i64 3] W' fun e w' => e = .returned (.int .i64 (F4 L 3)) ∧ w' = W' := fun W' hW => fourth_any b a n c L 3 (by omega) _ (H1.out.below hW) HL.out
        clear b1 b2 b3
        have HT : Hid _ := hT
        have HF : Hid _ := hF
        clear hT hF
        generalize rotR (quart 12) (F4 L 3) 0 = r1 at *
        generalize rotI (quart 12) (F4 L 3) 0 = r2 at *
        generalize bR L 1 3 = z1 at *
        generalize bI L 1 3 = z2 at *
        generalize F4 L 3 = f at *
        go_wp2_with fail
        go_quiet (first
          | (go_at_call 8; exact Calls.quiet_of_same (HF.out _ (below_drewN (Below.refl _ _) _)))
          | (go_at_call 9; exact Calls.quiet_of_same (HT.out _)))
        go_wp2
        go_roundw
        case rel => exact ⟨3 + 1, by omega, rfl, by rw [← e1.out, ← e2.out], by obtain ⟨m, hm⟩ := HM.out; exact ⟨_, by rw [hm, World.drewN_drewN]⟩⟩
        case measure => simp [intOf]
      · go_wp2
        go_ret2
        exact ⟨rfl, HM.out⟩
  · go_wp2_with fail
    go_loopw [6, 21] (fun z i wr => ∃ j : Nat, j ≤ 4 ∧ i = .int .i64 j ∧ z = .complex .f64 (floatOfInt .f64 (bR L 2 j)) (floatOfInt .f64 (bI L 2 j)) ∧ Hid (∃ m, wr = W.drewN m)) (fun _ i _ => 4 - (intOf i).toNat)
    case atStart => exact ⟨0, by omega, rfl, by rw [← show (0 : Nat) = floatOfInt .f64 (bR L 2 0) from fl_zero.symm, ← show (0 : Nat) = floatOfInt .f64 (bI L 2 0) from fl_zero.symm], ⟨0, rfl⟩⟩
    case round =>
      obtain ⟨j, hj, rfl, rfl, HM⟩ := hrel
      have H1 : Hid (PR wr b a n c L) := H.out.below (by obtain ⟨m, hm⟩ := HM.out; rw [hm]; exact below_drewN (Below.refl _ _) _)
      rcases (by omega : j = 0 ∨ j = 1 ∨ j = 2 ∨ j = 3 ∨ j = 4) with rfl | rfl | rfl | rfl | rfl
      · have b1 := b_bd HL.out 2 0
        have b2 := F4_bd HL.out 0
        have b3 := rot_le (quart 0) (a := F4 L 0) (b := 0) (M := 1099511627776) (by omega) (by omega) (by omega) (by omega)
        have hadd := fun t W => complex_add (a := bR L 2 0) (b := bI L 2 0) (c := rotR (quart 0) (F4 L 0) 0) (d := rotI (quart 0) (F4 L 0) 0) (by omega) (by omega) (by omega) (by omega) (by omega) (by omega) t W
        have e1 : Hid (bR L 2 0 + rotR (quart 0) (F4 L 0) 0 = bR L 2 (0 + 1)) := rfl
        have e2 : Hid (bI L 2 0 + rotI (quart 0) (F4 L 0) 0 = bI L 2 (0 + 1)) := rfl
        have hT := fun W => turn_any (floatOfInt .f64 (F4 L 0)) 0 (F4 L 0) 0 0 (Fl.of (by omega)) HZ.out W
        have hF : ∀ W' : World, Below wr.heap.size wr W' → Calls Try.prog 8 #[.pointer (some ⟨b, 0, none⟩), .int .i64 0] W' fun e w' => e = .returned (.int .i64 (F4 L 0)) ∧ w' = W' := fun W' hW => fourth_any b a n c L 0 (by omega) _ (H1.out.below hW) HL.out
        clear b1 b2 b3
        have HT : Hid _ := hT
        have HF : Hid _ := hF
        clear hT hF
        generalize rotR (quart 0) (F4 L 0) 0 = r1 at *
        generalize rotI (quart 0) (F4 L 0) 0 = r2 at *
        generalize bR L 2 0 = z1 at *
        generalize bI L 2 0 = z2 at *
        generalize F4 L 0 = f at *
        go_wp2_with fail
        go_quiet (first
          | (go_at_call 8; exact Calls.quiet_of_same (HF.out _ (below_drewN (Below.refl _ _) _)))
          | (go_at_call 9; exact Calls.quiet_of_same (HT.out _)))
        go_wp2
        go_roundw
        case rel => exact ⟨0 + 1, by omega, rfl, by rw [← e1.out, ← e2.out], by obtain ⟨m, hm⟩ := HM.out; exact ⟨_, by rw [hm, World.drewN_drewN]⟩⟩
        case measure => simp [intOf]
      · have b1 := b_bd HL.out 2 1
        have b2 := F4_bd HL.out 1
        have b3 := rot_le (quart 2) (a := F4 L 1) (b := 0) (M := 1099511627776) (by omega) (by omega) (by omega) (by omega)
        have hadd := fun t W => complex_add (a := bR L 2 1) (b := bI L 2 1) (c := rotR (quart 2) (F4 L 1) 0) (d := rotI (quart 2) (F4 L 1) 0) (by omega) (by omega) (by omega) (by omega) (by omega) (by omega) t W
        have e1 : Hid (bR L 2 1 + rotR (quart 2) (F4 L 1) 0 = bR L 2 (1 + 1)) := rfl
        have e2 : Hid (bI L 2 1 + rotI (quart 2) (F4 L 1) 0 = bI L 2 (1 + 1)) := rfl
        have hT := fun W => turn_any (floatOfInt .f64 (F4 L 1)) 0 (F4 L 1) 0 2 (Fl.of (by omega)) HZ.out W
        have hF : ∀ W' : World, Below wr.heap.size wr W' → Calls Try.prog 8 #[.pointer (some ⟨b, 0, none⟩), .int .i64 1] W' fun e w' => e = .returned (.int .i64 (F4 L 1)) ∧ w' = W' := fun W' hW => fourth_any b a n c L 1 (by omega) _ (H1.out.below hW) HL.out
        clear b1 b2 b3
        have HT : Hid _ := hT
        have HF : Hid _ := hF
        clear hT hF
        generalize rotR (quart 2) (F4 L 1) 0 = r1 at *
        generalize rotI (quart 2) (F4 L 1) 0 = r2 at *
        generalize bR L 2 1 = z1 at *
        generalize bI L 2 1 = z2 at *
        generalize F4 L 1 = f at *
        go_wp2_with fail
        go_quiet (first
          | (go_at_call 8; exact Calls.quiet_of_same (HF.out _ (below_drewN (Below.refl _ _) _)))
          | (go_at_call 9; exact Calls.quiet_of_same (HT.out _)))
        go_wp2
        go_roundw
        case rel => exact ⟨1 + 1, by omega, rfl, by rw [← e1.out, ← e2.out], by obtain ⟨m, hm⟩ := HM.out; exact ⟨_, by rw [hm, World.drewN_drewN]⟩⟩
        case measure => simp [intOf]
      · have b1 := b_bd HL.out 2 2
        have b2 := F4_bd HL.out 2
        have b3 := rot_le (quart 4) (a := F4 L 2) (b := 0) (M := 1099511627776) (by omega) (by omega) (by omega) (by omega)
        have hadd := fun t W => complex_add (a := bR L 2 2) (b := bI L 2 2) (c := rotR (quart 4) (F4 L 2) 0) (d := rotI (quart 4) (F4 L 2) 0) (by omega) (by omega) (by omega) (by omega) (by omega) (by omega) t W
        have e1 : Hid (bR L 2 2 + rotR (quart 4) (F4 L 2) 0 = bR L 2 (2 + 1)) := rfl
        have e2 : Hid (bI L 2 2 + rotI (quart 4) (F4 L 2) 0 = bI L 2 (2 + 1)) := rfl
        have hT := fun W => turn_any (floatOfInt .f64 (F4 L 2)) 0 (F4 L 2) 0 4 (Fl.of (by omega)) HZ.out W
        have hF : ∀ W' : World, Below wr.heap.size wr W' → Calls Try.prog 8 #[.pointer (some ⟨b, 0, none⟩), .int .i64 2] W' fun e w' => e = .returned (.int .i64 (F4 L 2)) ∧ w' = W' := fun W' hW => fourth_any b a n c L 2 (by omega) _ (H1.out.below hW) HL.out
        clear b1 b2 b3
        have HT : Hid _ := hT
        have HF : Hid _ := hF
        clear hT hF
        generalize rotR (quart 4) (F4 L 2) 0 = r1 at *
        generalize rotI (quart 4) (F4 L 2) 0 = r2 at *
        generalize bR L 2 2 = z1 at *
        generalize bI L 2 2 = z2 at *
        generalize F4 L 2 = f at *
        go_wp2_with fail
        go_quiet (first
          | (go_at_call 8; exact Calls.quiet_of_same (HF.out _ (below_drewN (Below.refl _ _) _)))
          | (go_at_call 9; exact Calls.quiet_of_same (HT.out _)))
        go_wp2
        go_roundw
        case rel => exact ⟨2 + 1, by omega, rfl, by rw [← e1.out, ← e2.out], by obtain ⟨m, hm⟩ := HM.out; exact ⟨_, by rw [hm, World.drewN_drewN]⟩⟩
        case measure => simp [intOf]
      · have b1 := b_bd HL.out 2 3
        have b2 := F4_bd HL.out 3
        have b3 := rot_le (quart 6) (a := F4 L 3) (b := 0) (M := 1099511627776) (by omega) (by omega) (by omega) (by omega)
        have hadd := fun t W => complex_add (a := bR L 2 3) (b := bI L 2 3) (c := rotR (quart 6) (F4 L 3) 0) (d := rotI (quart 6) (F4 L 3) 0) (by omega) (by omega) (by omega) (by omega) (by omega) (by omega) t W
        have e1 : Hid (bR L 2 3 + rotR (quart 6) (F4 L 3) 0 = bR L 2 (3 + 1)) := rfl
        have e2 : Hid (bI L 2 3 + rotI (quart 6) (F4 L 3) 0 = bI L 2 (3 + 1)) := rfl
        have hT := fun W => turn_any (floatOfInt .f64 (F4 L 3)) 0 (F4 L 3) 0 6 (Fl.of (by omega)) HZ.out W
        have hF : ∀ W' : World, Below wr.heap.size wr W' → Calls Try.prog 8 #[.pointer (some ⟨b, 0, none⟩), .int .i64 3] W' fun e w' => e = .returned (.int .i64 (F4 L 3)) ∧ w' = W' := fun W' hW => fourth_any b a n c L 3 (by omega) _ (H1.out.below hW) HL.out
        clear b1 b2 b3
        have HT : Hid _ := hT
        have HF : Hid _ := hF
        clear hT hF
        generalize rotR (quart 6) (F4 L 3) 0 = r1 at *
        generalize rotI (quart 6) (F4 L 3) 0 = r2 at *
        generalize bR L 2 3 = z1 at *
        generalize bI L 2 3 = z2 at *
        generalize F4 L 3 = f at *
        go_wp2_with fail
        go_quiet (first
          | (go_at_call 8; exact Calls.quiet_of_same (HF.out _ (below_drewN (Below.refl _ _) _)))
          | (go_at_call 9; exact Calls.quiet_of_same (HT.out _)))
        go_wp2
        go_roundw
        case rel => exact ⟨3 + 1, by omega, rfl, by rw [← e1.out, ← e2.out], by obtain ⟨m, hm⟩ := HM.out; exact ⟨_, by rw [hm, World.drewN_drewN]⟩⟩
        case measure => simp [intOf]
      · go_wp2
        go_ret2
        exact ⟨rfl, HM.out⟩
  · go_wp2_with fail
    go_loopw [6, 21] (fun z i wr => ∃ j : Nat, j ≤ 4 ∧ i = .int .i64 j ∧ z = .complex .f64 (floatOfInt .f64 (bR L 4 j)) (floatOfInt .f64 (bI L 4 j)) ∧ Hid (∃ m, wr = W.drewN m)) (fun _ i _ => 4 - (intOf i).toNat)
    case atStart => exact ⟨0, by omega, rfl, by rw [← show (0 : Nat) = floatOfInt .f64 (bR L 4 0) from fl_zero.symm, ← show (0 : Nat) = floatOfInt .f64 (bI L 4 0) from fl_zero.symm], ⟨0, rfl⟩⟩
    case round =>
      obtain ⟨j, hj, rfl, rfl, HM⟩ := hrel
      have H1 : Hid (PR wr b a n c L) := H.out.below (by obtain ⟨m, hm⟩ := HM.out; rw [hm]; exact below_drewN (Below.refl _ _) _)
      rcases (by omega : j = 0 ∨ j = 1 ∨ j = 2 ∨ j = 3 ∨ j = 4) with rfl | rfl | rfl | rfl | rfl
      · have b1 := b_bd HL.out 4 0
        have b2 := F4_bd HL.out 0
        have b3 := rot_le (quart 0) (a := F4 L 0) (b := 0) (M := 1099511627776) (by omega) (by omega) (by omega) (by omega)
        have hadd := fun t W => complex_add (a := bR L 4 0) (b := bI L 4 0) (c := rotR (quart 0) (F4 L 0) 0) (d := rotI (quart 0) (F4 L 0) 0) (by omega) (by omega) (by omega) (by omega) (by omega) (by omega) t W
        have e1 : Hid (bR L 4 0 + rotR (quart 0) (F4 L 0) 0 = bR L 4 (0 + 1)) := rfl
        have e2 : Hid (bI L 4 0 + rotI (quart 0) (F4 L 0) 0 = bI L 4 (0 + 1)) := rfl
        have hT := fun W => turn_any (floatOfInt .f64 (F4 L 0)) 0 (F4 L 0) 0 0 (Fl.of (by omega)) HZ.out W
        have hF : ∀ W' : World, Below wr.heap.size wr W' → Calls Try.prog 8 #[.pointer (some ⟨b, 0, none⟩), .int .i64 0] W' fun e w' => e = .returned (.int .i64 (F4 L 0)) ∧ w' = W' := fun W' hW => fourth_any b a n c L 0 (by omega) _ (H1.out.below hW) HL.out
        clear b1 b2 b3
        have HT : Hid _ := hT
        have HF : Hid _ := hF
        clear hT hF
        generalize rotR (quart 0) (F4 L 0) 0 = r1 at *
        generalize rotI (quart 0) (F4 L 0) 0 = r2 at *
        generalize bR L 4 0 = z1 at *
        generalize bI L 4 0 = z2 at *
        generalize F4 L 0 = f at *
        go_wp2_with fail
        go_quiet (first
          | (go_at_call 8; exact Calls.quiet_of_same (HF.out _ (below_drewN (Below.refl _ _) _)))
          | (go_at_call 9; exact Calls.quiet_of_same (HT.out _)))
        go_wp2
        go_roundw
        case rel => exact ⟨0 + 1, by omega, rfl, by rw [← e1.out, ← e2.out], by obtain ⟨m, hm⟩ := HM.out; exact ⟨_, by rw [hm, World.drewN_drewN]⟩⟩
        case measure => simp [intOf]
      · have b1 := b_bd HL.out 4 1
        have b2 := F4_bd HL.out 1
        have b3 := rot_le (quart 1) (a := F4 L 1) (b := 0) (M := 1099511627776) (by omega) (by omega) (by omega) (by omega)
        have hadd := fun t W => complex_add (a := bR L 4 1) (b := bI L 4 1) (c := rotR (quart 1) (F4 L 1) 0) (d := rotI (quart 1) (F4 L 1) 0) (by omega) (by omega) (by omega) (by omega) (by omega) (by omega) t W
        have e1 : Hid (bR L 4 1 + rotR (quart 1) (F4 L 1) 0 = bR L 4 (1 + 1)) := rfl
        have e2 : Hid (bI L 4 1 + rotI (quart 1) (F4 L 1) 0 = bI L 4 (1 + 1)) := rfl
        have hT := fun W => turn_any (floatOfInt .f64 (F4 L 1)) 0 (F4 L 1) 0 1 (Fl.of (by omega)) HZ.out W
        have hF : ∀ W' : World, Below wr.heap.size wr W' → Calls Try.prog 8 #[.pointer (some ⟨b, 0, none⟩), .int .i64 1] W' fun e w' => e = .returned (.int .i64 (F4 L 1)) ∧ w' = W' := fun W' hW => fourth_any b a n c L 1 (by omega) _ (H1.out.below hW) HL.out
        clear b1 b2 b3
        have HT : Hid _ := hT
        have HF : Hid _ := hF
        clear hT hF
        generalize rotR (quart 1) (F4 L 1) 0 = r1 at *
        generalize rotI (quart 1) (F4 L 1) 0 = r2 at *
        generalize bR L 4 1 = z1 at *
        generalize bI L 4 1 = z2 at *
        generalize F4 L 1 = f at *
        go_wp2_with fail
        go_quiet (first
          | (go_at_call 8; exact Calls.quiet_of_same (HF.out _ (below_drewN (Below.refl _ _) _)))
          | (go_at_call 9; exact Calls.quiet_of_same (HT.out _)))
        go_wp2
        go_roundw
        case rel => exact ⟨1 + 1, by omega, rfl, by rw [← e1.out, ← e2.out], by obtain ⟨m, hm⟩ := HM.out; exact ⟨_, by rw [hm, World.drewN_drewN]⟩⟩
        case measure => simp [intOf]
      · have b1 := b_bd HL.out 4 2
        have b2 := F4_bd HL.out 2
        have b3 := rot_le (quart 2) (a := F4 L 2) (b := 0) (M := 1099511627776) (by omega) (by omega) (by omega) (by omega)
        have hadd := fun t W => complex_add (a := bR L 4 2) (b := bI L 4 2) (c := rotR (quart 2) (F4 L 2) 0) (d := rotI (quart 2) (F4 L 2) 0) (by omega) (by omega) (by omega) (by omega) (by omega) (by omega) t W
        have e1 : Hid (bR L 4 2 + rotR (quart 2) (F4 L 2) 0 = bR L 4 (2 + 1)) := rfl
        have e2 : Hid (bI L 4 2 + rotI (quart 2) (F4 L 2) 0 = bI L 4 (2 + 1)) := rfl
        have hT := fun W => turn_any (floatOfInt .f64 (F4 L 2)) 0 (F4 L 2) 0 2 (Fl.of (by omega)) HZ.out W
        have hF : ∀ W' : World, Below wr.heap.size wr W' → Calls Try.prog 8 #[.pointer (some ⟨b, 0, none⟩), .int .i64 2] W' fun e w' => e = .returned (.int .i64 (F4 L 2)) ∧ w' = W' := fun W' hW => fourth_any b a n c L 2 (by omega) _ (H1.out.below hW) HL.out
        clear b1 b2 b3
        have HT : Hid _ := hT
        have HF : Hid _ := hF
        clear hT hF
        generalize rotR (quart 2) (F4 L 2) 0 = r1 at *
        generalize rotI (quart 2) (F4 L 2) 0 = r2 at *
        generalize bR L 4 2 = z1 at *
        generalize bI L 4 2 = z2 at *
        generalize F4 L 2 = f at *
        go_wp2_with fail
        go_quiet (first
          | (go_at_call 8; exact Calls.quiet_of_same (HF.out _ (below_drewN (Below.refl _ _) _)))
          | (go_at_call 9; exact Calls.quiet_of_same (HT.out _)))
        go_wp2
        go_roundw
        case rel => exact ⟨2 + 1, by omega, rfl, by rw [← e1.out, ← e2.out], by obtain ⟨m, hm⟩ := HM.out; exact ⟨_, by rw [hm, World.drewN_drewN]⟩⟩
        case measure => simp [intOf]
      · have b1 := b_bd HL.out 4 3
        have b2 := F4_bd HL.out 3
        have b3 := rot_le (quart 3) (a := F4 L 3) (b := 0) (M := 1099511627776) (by omega) (by omega) (by omega) (by omega)
        have hadd := fun t W => complex_add (a := bR L 4 3) (b := bI L 4 3) (c := rotR (quart 3) (F4 L 3) 0) (d := rotI (quart 3) (F4 L 3) 0) (by omega) (by omega) (by omega) (by omega) (by omega) (by omega) t W
        have e1 : Hid (bR L 4 3 + rotR (quart 3) (F4 L 3) 0 = bR L 4 (3 + 1)) := rfl
        have e2 : Hid (bI L 4 3 + rotI (quart 3) (F4 L 3) 0 = bI L 4 (3 + 1)) := rfl
        have hT := fun W => turn_any (floatOfInt .f64 (F4 L 3)) 0 (F4 L 3) 0 3 (Fl.of (by omega)) HZ.out W
        have hF : ∀ W' : World, Below wr.heap.size wr W' → Calls Try.prog 8 #[.pointer (some ⟨b, 0, none⟩), .int .i64 3] W' fun e w' => e = .returned (.int .i64 (F4 L 3)) ∧ w' = W' := fun W' hW => fourth_any b a n c L 3 (by omega) _ (H1.out.below hW) HL.out
        clear b1 b2 b3
        have HT : Hid _ := hT
        have HF : Hid _ := hF
        clear hT hF
        generalize rotR (quart 3) (F4 L 3) 0 = r1 at *
        generalize rotI (quart 3) (F4 L 3) 0 = r2 at *
        generalize bR L 4 3 = z1 at *
        generalize bI L 4 3 = z2 at *
        generalize F4 L 3 = f at *
        go_wp2_with fail
        go_quiet (first
          | (go_at_call 8; exact Calls.quiet_of_same (HF.out _ (below_drewN (Below.refl _ _) _)))
          | (go_at_call 9; exact Calls.quiet_of_same (HT.out _)))
        go_wp2
        go_roundw
        case rel => exact ⟨3 + 1, by omega, rfl, by rw [← e1.out, ← e2.out], by obtain ⟨m, hm⟩ := HM.out; exact ⟨_, by rw [hm, World.drewN_drewN]⟩⟩
        case measure => simp [intOf]
      · go_wp2
        go_ret2
        exact ⟨rfl, HM.out⟩
end Go.Proofs.Ythefgplobhmfcab
