/- A number of whole parts turned; what may be no count; rows that are searched and copied. Conditions: parts below 2^53; rows can be read. -/
import Derived.Test.YthefgplobhmfcabPC
import Derived.Laws.Bits128
namespace Go.Proofs.Ythefgplobhmfcab
open Go.RowKit
theorem fl0 : (0 : Nat) = floatOfInt .f64 0 := fl_zero.symm
theorem unsigned_any (x : Nat) (a : Int) (hx : Fl x a) (w : World) : Calls Try.prog 15 #[.float .f64 x] w fun e w' => e = .returned (.float .f64 (floatOfInt .f64 a)) ∧ w' = w := by
  have ho : FloatKind.f64.format.order x 0 = some (compare a 0) := by
    have := hx.order (Fl.of (n := 0) (by decide))
    rw [fl_zero] at this
    exact this
  go_enter Try.func15, Try.ntmps15
  by_cases h0 : a = 0
  · subst h0
    have ho' : (FloatKind.f64.format.order x 0 == some .eq) = true := by rw [ho]; rfl
    go_wp2
    go_ret
    exact ⟨by rw [fl_zero]; rfl, rfl⟩
  · have hne : compare a 0 ≠ .eq := by simpa using h0
    have ho' : (FloatKind.f64.format.order x 0 == some .eq) = false := by rw [ho]; simpa using hne
    have HX : Hid (x = floatOfInt .f64 a) := hx.2.resolve_right (fun e => h0 e.1)
    clear ho
    go_wp2
    go_ret
    exact ⟨by rw [← HX.out]; rfl, rfl⟩
/-- Parts turned k times. -/
def rotR : Nat → Int → Int → Int
  | 0, a, _ => a
  | k + 1, a, b => rotR k (-b) a
def rotI : Nat → Int → Int → Int
  | 0, _, b => b
  | k + 1, a, b => rotI k (-b) a
theorem rot_bd : ∀ (k : Nat) {a b : Int}, a.natAbs < 2 ^ 53 → b.natAbs < 2 ^ 53 → (rotR k a b).natAbs < 2 ^ 53 ∧ (rotI k a b).natAbs < 2 ^ 53
  | 0, _, _, ha, hb => ⟨ha, hb⟩
  | k + 1, a, b, ha, hb => rot_bd k (a := -b) (b := a) (by simpa using hb) ha
/-- How often a number is turned: its last two bits. -/
def quart (n : Int) : Nat := (n % 4).toNat
theorem quart_lt (n : Int) : quart n < 4 := by unfold quart; omega
theorem and_three (n : Int) : bits .and .i64 n 3 = (quart n : Int) := by
  have h3 : (BitVec.ofInt 64 3).toNat = 2 ^ 2 - 1 := by decide
  have key : (BitVec.ofInt 64 n &&& BitVec.ofInt 64 3).toNat = (n % ((2 ^ 64 : Nat) : Int)).toNat % 2 ^ 2 := by
    rw [BitVec.toNat_and, BitVec.toNat_ofInt, h3, Nat.and_two_pow_sub_one_eq_mod]
  show IntKind.i64.wrap ((BitVec.ofInt 64 n &&& BitVec.ofInt 64 3).toNat : Nat) = _
  rw [key, IntKind.wrap_i64]
  unfold quart
  omega
theorem wpList_neg_float {P : Program} {ops : Array Oper} {rest : List Oper} {op : Oper} {a : Act} {w : World} {Q : Exit → Act → World → Prop} (hgd : op.guard = none) (ty : TypeId) (x : Operand) (ho : op.op = .unOp .neg ty x)
    (k : FloatKind) (b : Nat) (hx : a.eval x = .float k b) (h : wpList P ops Q rest (a.put op.dst (.float k (Op.negFloat k b))) w) : wpList P ops Q (op :: rest) a w := by
  refine wpList_plain hgd fun K hK => ?_
  unfold Oper.wp execOp
  simp only [ho, hx, Op.unary]
  exact hK _ _ h
theorem turn_any (x y : Nat) (a b : Int) (n : Int) (hx : Fl x a) (hy : Fl y b) (w : World) :
    Calls Try.prog 9 #[.complex .f64 x y, .int .i64 n] w fun e w' => e = .returned (.complex .f64 (floatOfInt .f64 (rotR (quart n) a b)) (floatOfInt .f64 (rotI (quart n) a b))) ∧ w' = w := by
  have hq := and_three n
  have hq4 := quart_lt n
  generalize quart n = q at *
  have HX : Hid _ := hx
  have HY : Hid _ := hy
  clear hx hy
  go_enter Try.func9, Try.ntmps9
  go_wp2_with fail
  go_loopw [0, 7] (fun z i wr => ∃ (j x' y' : Nat) (a' b' : Int), j ≤ q ∧ i = .int .i64 j ∧ z = .complex .f64 x' y' ∧ Hid (Fl x' a' ∧ Fl y' b' ∧ rotR (q - j) a' b' = rotR q a b ∧ rotI (q - j) a' b' = rotI q a b) ∧ wr = w) (fun _ i _ => 4 - (intOf i).toNat)
  case atStart => exact ⟨0, x, y, a, b, by omega, rfl, rfl, ⟨HX.out, HY.out, rfl, rfl⟩, rfl⟩
  case round =>
    obtain ⟨j, x', y', a', b', hj, rfl, rfl, HR, rfl⟩ := hrel
    rcases (by omega : j < q ∨ j = q) with hlt | rfl
    · have hltI : (j : Int) < q := by omega
      go_wp2_with (first
        | (refine wpList_neg_float rfl _ _ rfl .f64 _ rfl ?_)
        | fail)
      go_roundw
      case rel =>
        refine ⟨j + 1, _, _, -b', a', by omega, by go_num, rfl, ⟨HR.out.2.1.neg, HR.out.1, ?_, ?_⟩, trivial⟩
        · rw [← HR.out.2.2.1, show q - j = (q - (j + 1)) + 1 by omega]; rfl
        · rw [← HR.out.2.2.2, show q - j = (q - (j + 1)) + 1 by omega]; rfl
      case measure => simp [intOf]; omega
    · have e1 : Hid (a' = rotR j a b) := by have := HR.out.2.2.1; rwa [Nat.sub_self] at this
      have e2 : Hid (b' = rotI j a b) := by have := HR.out.2.2.2; rwa [Nat.sub_self] at this
      have h1 : Hid _ := HR.out.1
      have h2 : Hid _ := HR.out.2.1
      clear HR
      go_wp2_with fail
      refine (unsigned_any _ _ h1.out _).mono ?_
      rintro e W ⟨rfl, rfl⟩
      go_wp2_with fail
      refine (unsigned_any _ _ h2.out _).mono ?_
      rintro e W ⟨rfl, rfl⟩
      go_wp2
      go_ret
      exact ⟨by rw [← e1.out, ← e2.out]; rfl, rfl⟩
end Go.Proofs.Ythefgplobhmfcab
