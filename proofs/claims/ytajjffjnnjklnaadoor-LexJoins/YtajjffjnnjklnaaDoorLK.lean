/- Blanks and comments at a text's beginning (lex.blanks). Conditions: none beyond a string's size. -/
import Derived.Test.YtajjffjnnjklnaaDoorLJ
namespace Go.Proofs.YtajjffjnnjklnaaDoor
open Go.RowKit
/-- A scope with two labels that jump to one another; what falls is a number. -/
theorem scope_two {P : Program} {a : Act} {w : World} {Q : Exit → Act → World → Prop} {c r0 r1 : Code} (l0 l1 : Nat) (hf0 : findLabel c l0 = some (Code.skip.seq r0)) (hf1 : findLabel c l1 = some (Code.skip.seq r1)) (J0 J1 : Nat → Act → World → Prop)
    (p0 : ∀ f a w, J0 f a w → Hid (∀ g a' w', g < f → J0 g a' w' → FromLabel P c Q l0 a' w') → Hid (∀ g a' w', g < f → J1 g a' w' → FromLabel P c Q l1 a' w') → r0.wp P (Exit.jumpTo P c Q) a w)
    (p1 : ∀ f a w, J1 f a w → Hid (∀ g a' w', g < f → J0 g a' w' → FromLabel P c Q l0 a' w') → Hid (∀ g a' w', g < f → J1 g a' w' → FromLabel P c Q l1 a' w') → r1.wp P (Exit.jumpTo P c Q) a w)
    (first : Hid (∀ f a w, J0 f a w → r0.wp P (Exit.jumpTo P c Q) a w) → c.wp P (Exit.jumpTo P c Q) a w) : (Code.scope c).wp P Q a w := by
  have key : ∀ f, (∀ a w, J0 f a w → FromLabel P c Q l0 a w) ∧ (∀ a w, J1 f a w → FromLabel P c Q l1 a w) := by
    intro f
    induction f using Nat.strongRecOn with
    | _ f ih =>
      exact ⟨fun a w h => from_label hf0 (p0 f a w h (fun g a' w' hg hj => (ih g hg).1 a' w' hj) (fun g a' w' hg hj => (ih g hg).2 a' w' hj)),
        fun a w h => from_label hf1 (p1 f a w h (fun g a' w' hg hj => (ih g hg).1 a' w' hj) (fun g a' w' hg hj => (ih g hg).2 a' w' hj))⟩
  exact scope_from (first (fun f a w hJ => p0 f a w hJ (fun g a' w' _ hj => (key g).1 a' w' hj) (fun g a' w' _ hj => (key g).2 a' w' hj)))
def isBlk (c : Int) : Bool := c == 32 || (c == 9 || (c == 10 || c == 13))
/-- Behind blanks, or within a comment. -/
def blkF (s : ByteArray) : Nat → Nat → Bool → Nat
  | 0, k, _ => k
  | f + 1, k, false => if k = s.size then k else if isBlk (byt s k) then blkF s f (k + 1) false else if byt s k = 35 then blkF s f k true else k
  | f + 1, k, true => if k = s.size ∨ byt s k = 10 then blkF s f k false else blkF s f (k + 1) true
def muB (s : ByteArray) (k : Nat) (m : Bool) : Nat := 2 * (s.size - k) + (if m = true then (if k = s.size ∨ byt s k = 10 then 1 else 0) else (if k < s.size ∧ byt s k = 35 then 1 else 0))
theorem muB_le (s : ByteArray) (k : Nat) (m : Bool) : muB s k m ≤ 2 * (s.size - k) + 1 := by
  unfold muB
  split
  · split <;> omega
  · split <;> omega
/-- How many bytes of blanks and comments a text begins with. -/
def blkS (s : ByteArray) : Nat := blkF s (2 * s.size + 2) 0 false
set_option maxRecDepth 20000 in
set_option maxHeartbeats 4000000 in
theorem blanks_any (s : ByteArray) (hs : s.size ≤ maxLen) (w : World) :
    Calls Tryd.prog 14 #[.string s] w fun e w' => e = .returned (.int .i64 (blkS s : Nat)) ∧ w' = w := by
  unfold maxLen at hs
  unfold blkS
  go_enter Tryd.func14, Tryd.ntmps14
  go_wp2_with fail
  refine scope_two 0 1 rfl rfl (fun f a' w' => ∃ (k : Nat) (u1 u2 u4 u5 u6 u7 u8 u9 u10 u11 u12 u13 u14 u15 u16 u17 u18 u19 u20 u21 u22 u23 u24 u25 u26 u27 u28 u29 u30 u31 u32 u33 : Value), a' = { tmps := #[.string s, u1, u2, .int .i64 (k : Nat), u4, u5, u6, u7, u8, u9, u10, u11, u12, u13, u14, u15, u16, u17, u18, u19, u20, u21, u22, u23, u24, u25, u26, u27, u28, u29, u30, u31, u32, u33], defers := [] } ∧ k ≤ s.size ∧ muB s k false < f ∧ Hid (blkF s f k false = blkF s (2 * s.size + 2) 0 false) ∧ w' = w) (fun f a' w' => ∃ (k : Nat) (u1 u2 u4 u5 u6 u7 u8 u9 u10 u11 u12 u13 u14 u15 u16 u17 u18 u19 u20 u21 u22 u23 u24 u25 u26 u27 u28 u29 u30 u31 u32 u33 : Value), a' = { tmps := #[.string s, u1, u2, .int .i64 (k : Nat), u4, u5, u6, u7, u8, u9, u10, u11, u12, u13, u14, u15, u16, u17, u18, u19, u20, u21, u22, u23, u24, u25, u26, u27, u28, u29, u30, u31, u32, u33], defers := [] } ∧ k ≤ s.size ∧ muB s k true < f ∧ Hid (blkF s f k true = blkF s (2 * s.size + 2) 0 false) ∧ w' = w) ?_ ?_ ?_
  · rintro f a' w' ⟨k, u1, u2, u4, u5, u6, u7, u8, u9, u10, u11, u12, u13, u14, u15, u16, u17, u18, u19, u20, u21, u22, u23, u24, u25, u26, u27, u28, u29, u30, u31, u32, u33, rfl, hks, hmu, hF, rfl⟩ I0 I1
    obtain ⟨g, rfl⟩ : ∃ g, f = g + 1 := ⟨f - 1, by omega⟩
    have hksI : (k : Int) ≤ s.size := by omega
    by_cases hk : k = s.size
    · have hkI : ((k : Int) == s.size) = true := by simp [hk]
      have HZ : Hid (blkF s (2 * s.size + 2) 0 false = k) := by show _ = _; rw [← hF.out, blkF, if_pos hk]
      clear hF I0 I1 hmu hk
      go_wp2
      simp only [Exit.jumpTo]
      go_ret
      exact ⟨by first | (rw [HZ.out]; done) | (rw [HZ.out]; rfl), rfl⟩
    have hkI : ((k : Int) == s.size) = false := by simp; omega
    have hlt : k < s.size := by omega
    have hltI : (k : Int) < s.size := by omega
    have hc := byt_eq s k hlt
    have hF2 : blkF s (g + 1) k false = if isBlk (byt s k) then blkF s g (k + 1) false else if byt s k = 35 then blkF s g k true else k := (show (if k = s.size then k else if isBlk (byt s k) then blkF s g (k + 1) false else if byt s k = 35 then blkF s g k true else k) = _ from if_neg hk)
    rw [hF2] at hF
    have hm0 := muB_le s (k + 1) false
    have hm1 : byt s k = 35 → muB s k true + 1 ≤ muB s k false := fun h => by
      unfold muB
      rw [if_pos rfl, if_neg (by intro q; rcases q with q | q <;> omega), if_neg (by decide), if_pos ⟨hlt, h⟩]
      omega
    have hm2 : 2 * (s.size - k) ≤ muB s k false := by unfold muB; omega
    obtain ⟨c, hcc⟩ : ∃ c, byt s k = c := ⟨_, rfl⟩
    rw [hcc] at hc hF hm1
    clear hF2 hcc
    by_cases e1 : c = 32
    · have HZ : Hid (blkF s g (k + 1) false = blkF s (2 * s.size + 2) 0 false) := by show _ = _; rw [← hF.out, if_pos (by simp [isBlk, e1])]
      subst e1
      clear hF I1
      go_wp2_with fail
      go_step3
      show FromLabel _ _ _ _ _ _
      exact I0.out g _ _ (by omega) ⟨k + 1, _, _, _, _, _, _, _, _, _, _, _, _, _, _, _, _, _, _, _, _, _, _, _, _, _, _, _, _, _, _, _, _, by first | rfl | go_num, by omega, by omega, HZ, rfl⟩
    have e1' : (c == 32) = false := by simp [e1]
    by_cases e2 : c = 9
    · have HZ : Hid (blkF s g (k + 1) false = blkF s (2 * s.size + 2) 0 false) := by show _ = _; rw [← hF.out, if_pos (by simp [isBlk, e2])]
      subst e2
      clear hF I1 e1 e1'
      go_wp2_with fail
      go_step3
      show FromLabel _ _ _ _ _ _
      exact I0.out g _ _ (by omega) ⟨k + 1, _, _, _, _, _, _, _, _, _, _, _, _, _, _, _, _, _, _, _, _, _, _, _, _, _, _, _, _, _, _, _, _, by first | rfl | go_num, by omega, by omega, HZ, rfl⟩
    have e2' : (c == 9) = false := by simp [e2]
    by_cases e3 : c = 10
    · have HZ : Hid (blkF s g (k + 1) false = blkF s (2 * s.size + 2) 0 false) := by show _ = _; rw [← hF.out, if_pos (by simp [isBlk, e3])]
      subst e3
      clear hF I1 e1 e1' e2 e2'
      go_wp2_with fail
      go_step3
      show FromLabel _ _ _ _ _ _
      exact I0.out g _ _ (by omega) ⟨k + 1, _, _, _, _, _, _, _, _, _, _, _, _, _, _, _, _, _, _, _, _, _, _, _, _, _, _, _, _, _, _, _, _, by first | rfl | go_num, by omega, by omega, HZ, rfl⟩
    have e3' : (c == 10) = false := by simp [e3]
    by_cases e4 : c = 13
    · have HZ : Hid (blkF s g (k + 1) false = blkF s (2 * s.size + 2) 0 false) := by show _ = _; rw [← hF.out, if_pos (by simp [isBlk, e4])]
      subst e4
      clear hF I1 e1 e1' e2 e2' e3 e3'
      go_wp2_with fail
      go_step3
      show FromLabel _ _ _ _ _ _
      exact I0.out g _ _ (by omega) ⟨k + 1, _, _, _, _, _, _, _, _, _, _, _, _, _, _, _, _, _, _, _, _, _, _, _, _, _, _, _, _, _, _, _, _, by first | rfl | go_num, by omega, by omega, HZ, rfl⟩
    have e4' : (c == 13) = false := by simp [e4]
    by_cases e5 : c = 35
    · have HZ : Hid (blkF s g k true = blkF s (2 * s.size + 2) 0 false) := by show _ = _; rw [← hF.out, if_neg (by simp [isBlk, e5]), if_pos e5]
      have hm := hm1 e5
      subst e5
      clear hF I0 e1 e1' e2 e2' e3 e3' e4 e4'
      go_wp2_with fail
      go_step3
      show FromLabel _ _ _ _ _ _
      exact I1.out g _ _ (by omega) ⟨k, _, _, _, _, _, _, _, _, _, _, _, _, _, _, _, _, _, _, _, _, _, _, _, _, _, _, _, _, _, _, _, _, by first | rfl | go_num, by omega, by omega, HZ, rfl⟩
    have e5' : (c == 35) = false := by simp [e5]
    have HZ : Hid (blkF s (2 * s.size + 2) 0 false = k) := by show _ = _; rw [← hF.out, if_neg (by simp [isBlk, e1, e2, e3, e4]), if_neg e5]
    clear hF I0 I1 e1 e2 e3 e4 e5 hm1
    go_wp2
    simp only [Exit.jumpTo]
    go_ret
    exact ⟨by first | (rw [HZ.out]; done) | (rw [HZ.out]; rfl), rfl⟩
  · rintro f a' w' ⟨k, u1, u2, u4, u5, u6, u7, u8, u9, u10, u11, u12, u13, u14, u15, u16, u17, u18, u19, u20, u21, u22, u23, u24, u25, u26, u27, u28, u29, u30, u31, u32, u33, rfl, hks, hmu, hF, rfl⟩ I0 I1
    obtain ⟨g, rfl⟩ : ∃ g, f = g + 1 := ⟨f - 1, by omega⟩
    have hksI : (k : Int) ≤ s.size := by omega
    by_cases hk : k = s.size
    · have hkI : ((k : Int) == s.size) = true := by simp [hk]
      have HZ : Hid (blkF s g k false = blkF s (2 * s.size + 2) 0 false) := by show _ = _; rw [← hF.out, blkF, if_pos (.inl hk)]
      have hm : muB s k false + 1 ≤ muB s k true := by
        unfold muB
        rw [if_neg (by decide), if_neg (by omega), if_pos rfl, if_pos (.inl hk)]
        omega
      clear hF I1 hk
      go_wp2_with fail
      go_step3
      show FromLabel _ _ _ _ _ _
      exact I0.out g _ _ (by omega) ⟨k, _, _, _, _, _, _, _, _, _, _, _, _, _, _, _, _, _, _, _, _, _, _, _, _, _, _, _, _, _, _, _, _, by first | rfl | go_num, by omega, by omega, HZ, rfl⟩
    have hkI : ((k : Int) == s.size) = false := by simp; omega
    have hlt : k < s.size := by omega
    have hltI : (k : Int) < s.size := by omega
    have hc := byt_eq s k hlt
    have hm0 := muB_le s (k + 1) true
    have hm2 : 2 * (s.size - k) ≤ muB s k true := by unfold muB; omega
    by_cases e1 : byt s k = 10
    · have HZ : Hid (blkF s g k false = blkF s (2 * s.size + 2) 0 false) := by show _ = _; rw [← hF.out, blkF, if_pos (.inr e1)]
      have hm : muB s k false + 1 ≤ muB s k true := by
        unfold muB
        rw [if_neg (by decide), if_neg (by omega), if_pos rfl, if_pos (.inr e1)]
        omega
      rw [e1] at hc
      clear hF I1 e1
      go_wp2_with fail
      go_step3
      show FromLabel _ _ _ _ _ _
      exact I0.out g _ _ (by omega) ⟨k, _, _, _, _, _, _, _, _, _, _, _, _, _, _, _, _, _, _, _, _, _, _, _, _, _, _, _, _, _, _, _, _, by first | rfl | go_num, by omega, by omega, HZ, rfl⟩
    have HZ : Hid (blkF s g (k + 1) true = blkF s (2 * s.size + 2) 0 false) := by show _ = _; rw [← hF.out, blkF, if_neg (by intro q; rcases q with q | q <;> omega)]
    obtain ⟨c, hcc⟩ : ∃ c, byt s k = c := ⟨_, rfl⟩
    rw [hcc] at hc e1
    have e1' : (c == 10) = false := by simp [e1]
    clear hF I0 hcc e1
    go_wp2_with fail
    go_step3
    show FromLabel _ _ _ _ _ _
    exact I1.out g _ _ (by omega) ⟨k + 1, _, _, _, _, _, _, _, _, _, _, _, _, _, _, _, _, _, _, _, _, _, _, _, _, _, _, _, _, _, _, _, _, by first | rfl | go_num, by omega, by omega, HZ, rfl⟩
  · intro HG
    go_wp2_with fail
    go_step3
    rename_i K hK
    exact hK _ _ (HG.out (2 * s.size + 2) _ _ ⟨0, _, _, _, _, _, _, _, _, _, _, _, _, _, _, _, _, _, _, _, _, _, _, _, _, _, _, _, _, _, _, _, _, by first | rfl | go_num, by omega, by have := muB_le s 0 false; omega, rfl, rfl⟩)
end Go.Proofs.YtajjffjnnjklnaaDoor
