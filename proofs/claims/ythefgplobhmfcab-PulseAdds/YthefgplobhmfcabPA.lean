/- Floats of whole numbers below 2^53: what is read of them, their sums, their order, their signs turned. Plain laws; no condition. -/
import Derived.Test.YthefgplobhmfcabRows
import Derived.Laws.ComplexArith
namespace Go.Proofs.Ythefgplobhmfcab
open Ieee
theorem log2_pow {N q : Nat} (h : N ≠ 0) : (N * 2 ^ q).log2 = N.log2 + q := by
  induction q with
  | zero => simp
  | succ q ih =>
    have h1 : N * 2 ^ (q + 1) = 2 * (N * 2 ^ q) := by rw [Nat.pow_succ]; ac_rfl
    have h2 : N * 2 ^ q ≠ 0 := Nat.mul_ne_zero h (Nat.ne_of_gt (Nat.two_pow_pos _))
    rw [h1, Nat.log2_two_mul h2, ih]; omega
theorem cut_none (s : Bool) (n : Nat) : Toward.even.cut s n 0 = n := by
  simp [Toward.cut, Nat.mod_one]
theorem cut_exact (s : Bool) (k d : Nat) (hk : k ≠ 0) : Toward.even.cut s (k * 2 ^ d) d = k := by
  have hl : (k * 2 ^ d).log2 = k.log2 + d := log2_pow hk
  have hm : min d ((k * 2 ^ d).log2 + 2) = d := by rw [hl]; omega
  have hp : 0 < 2 ^ d := Nat.two_pow_pos d
  have h1 : k * 2 ^ d / 2 ^ d = k := Nat.mul_div_cancel _ hp
  have h2 : k * 2 ^ d % 2 ^ d = 0 := Nat.mul_mod_left _ _
  simp only [Toward.cut, hm, Nat.one_shiftLeft, h1, h2]
  have h3 : ¬ (2 ^ d < 2 * 0) := by omega
  have h4 : (2 ^ d == 2 * 0) = false := by simp
  simp [h3, h4]
/-- The rung of a whole number. -/
def rungOf (N : Nat) : Nat := (N.log2 + 1022) * 2 ^ 52 + N * 2 ^ (52 - N.log2)
theorem full_lo {N : Nat} (h : N ≠ 0) (hl : N.log2 ≤ 52) : 2 ^ 52 ≤ N * 2 ^ (52 - N.log2) := by
  have h1 : 2 ^ N.log2 ≤ N := Nat.log2_self_le h
  calc 2 ^ 52 = 2 ^ N.log2 * 2 ^ (52 - N.log2) := by rw [← Nat.pow_add]; congr 1; omega
    _ ≤ N * 2 ^ (52 - N.log2) := Nat.mul_le_mul_right _ h1
theorem full_hi {N : Nat} (hl : N.log2 ≤ 52) : N * 2 ^ (52 - N.log2) < 2 ^ 53 := by
  have h1 : N < 2 ^ (N.log2 + 1) := Nat.lt_log2_self
  calc N * 2 ^ (52 - N.log2) < 2 ^ (N.log2 + 1) * 2 ^ (52 - N.log2) := Nat.mul_lt_mul_of_pos_right h1 (Nat.two_pow_pos _)
    _ = 2 ^ 53 := by rw [← Nat.pow_add]; congr 1; omega
theorem log_le {N : Nat} (h : N < 2 ^ 53) : N.log2 ≤ 52 := by
  by_cases h0 : N = 0
  · subst h0; decide
  · have := (Nat.log2_lt h0).2 h; omega
theorem nearest_exact (s : Bool) {N : Nat} (q : Nat) (h0 : N ≠ 0) (h : N < 2 ^ 53) : double.nearest s (N * 2 ^ q) (-(q : Int)) = double.word s (rungOf N) := by
  have hl := log_le h
  have hm : N * 2 ^ q ≠ 0 := Nat.mul_ne_zero h0 (Nat.ne_of_gt (Nat.two_pow_pos _))
  have hlast : max (-(q : Int) + ((N * 2 ^ q).log2 : Int) - (double.fractionBits : Int)) double.leastPlace = (N.log2 : Int) - 52 := by
    rw [log2_pow h0]
    have e1 : (double.fractionBits : Int) = 52 := rfl
    have e2 : double.leastPlace = -1074 := by decide
    rw [e1, e2]; omega
  have e2 : double.leastPlace = -1074 := by decide
  have hb : double.binade = 2 ^ 52 := rfl
  have hi : double.infRung = 2047 * 2 ^ 52 := rfl
  have hk : Toward.even.cut s ((N * 2 ^ q) <<< (-(q : Int) - ((N.log2 : Int) - 52)).toNat) (((N.log2 : Int) - 52) - -(q : Int)).toNat = N * 2 ^ (52 - N.log2) := by
    rcases Nat.le_total q (52 - N.log2) with hq | hq
    · have t1 : (-(q : Int) - ((N.log2 : Int) - 52)).toNat = 52 - N.log2 - q := by omega
      have t2 : (((N.log2 : Int) - 52) - -(q : Int)).toNat = 0 := by omega
      rw [t1, t2, cut_none, Nat.shiftLeft_eq, Nat.mul_assoc, ← Nat.pow_add]
      congr 2; omega
    · have t1 : (-(q : Int) - ((N.log2 : Int) - 52)).toNat = 0 := by omega
      have t2 : (((N.log2 : Int) - 52) - -(q : Int)).toNat = q - (52 - N.log2) := by omega
      rw [t1, t2, Nat.shiftLeft_zero]
      have e : N * 2 ^ q = N * 2 ^ (52 - N.log2) * 2 ^ (q - (52 - N.log2)) := by
        rw [Nat.mul_assoc, ← Nat.pow_add]; congr 2; omega
      rw [e, cut_exact]
      exact Nat.mul_ne_zero h0 (Nat.ne_of_gt (Nat.two_pow_pos _))
  have hr : rungOf N ≤ 2047 * 2 ^ 52 := by
    have := full_hi hl
    unfold rungOf; omega
  unfold Format.nearest
  rw [if_neg hm]
  simp only [hb, hi]
  rw [hlast, hk, e2]
  have t3 : ((N.log2 : Int) - 52 - -1074).toNat = N.log2 + 1022 := by omega
  rw [t3]
  show double.word s (min (rungOf N) _) = _
  rw [Nat.min_eq_left hr]
theorem nearest_zero (s : Bool) (p : Int) : double.nearest s 0 p = double.word s 0 := by simp [Format.nearest]
theorem read_rung (s : Bool) {N : Nat} (h0 : N ≠ 0) (h : N < 2 ^ 53) : double.read (double.word s (rungOf N)) = .number s (N * 2 ^ (52 - N.log2)) (-((52 - N.log2 : Nat) : Int)) := by
  have hl := log_le h
  have h1 := full_lo h0 hl
  have h2 := full_hi hl
  have hb : double.binade = 2 ^ 52 := rfl
  have hi : double.infRung = 2047 * 2 ^ 52 := rfl
  have hs : double.signWeight = 2 ^ 63 := rfl
  have e2 : double.leastPlace = -1074 := by decide
  obtain ⟨K, hK⟩ : ∃ K, K = N * 2 ^ (52 - N.log2) := ⟨_, rfl⟩
  obtain ⟨l, hl'⟩ : ∃ l, l = N.log2 := ⟨_, rfl⟩
  unfold rungOf
  rw [← hK] at h1 h2
  rw [← hl'] at hl
  rw [← hl', show N * 2 ^ (52 - l) = K by rw [hK, hl']]
  clear hK hl' h0 h
  have hx : double.word s ((l + 1022) * 2 ^ 52 + K) % 2 ^ 63 = (l + 1022) * 2 ^ 52 + K := by
    unfold Format.word; rw [hs]; split <;> omega
  have hy : (double.word s ((l + 1022) * 2 ^ 52 + K) / 2 ^ 63 % 2 == 1) = s := by
    unfold Format.word; rw [hs]
    cases s
    · have : ((l + 1022) * 2 ^ 52 + K) / 2 ^ 63 % 2 = 0 := by omega
      simp [this]
    · have : (2 ^ 63 + ((l + 1022) * 2 ^ 52 + K)) / 2 ^ 63 % 2 = 1 := by omega
      rw [if_pos rfl, this]; rfl
  unfold Format.read
  simp only [hs, hx, hy, hb, hi, e2]
  rw [if_neg (by omega), if_pos (by omega)]
  congr 1 <;> omega
theorem read_zero (s : Bool) : double.read (double.word s 0) = .number s 0 (-((1074 : Nat) : Int)) := by cases s <;> decide +kernel
/-- The bits of a whole number as a float64. -/
theorem fl_pos {n : Int} (h0 : n ≠ 0) (h : n.natAbs < 2 ^ 53) : floatOfInt .f64 n = double.word (decide (n < 0)) (rungOf n.natAbs) := by
  have := nearest_exact (decide (n < 0)) 0 (N := n.natAbs) (by omega) h
  simpa [floatOfInt, FloatKind.nearest, FloatKind.encode, FloatKind.format, Format.write] using this
theorem fl_zero : floatOfInt .f64 0 = 0 := by decide +kernel
/-- What stands for a whole number, up to the sign of nought. -/
def Fl (x : Nat) (n : Int) : Prop := n.natAbs < 2 ^ 53 ∧ (x = floatOfInt .f64 n ∨ n = 0 ∧ x = 2 ^ 63)
theorem Fl.of {n : Int} (h : n.natAbs < 2 ^ 53) : Fl (floatOfInt .f64 n) n := ⟨h, .inl rfl⟩
theorem Fl.read {x : Nat} {n : Int} (h : Fl x n) : ∃ s m q, double.read x = .number s m (-((q : Nat) : Int)) ∧ signed s m 0 = n * 2 ^ q ∧ (x = floatOfInt .f64 n → s = decide (n < 0)) := by
  obtain ⟨hn, h⟩ := h
  by_cases h0 : n = 0
  · subst h0
    rcases h with h | ⟨_, h⟩
    · have e : x = double.word false 0 := by rw [h, fl_zero]; rfl
      refine ⟨false, 0, 1074, by rw [e, read_zero], by rw [Int.zero_mul]; rfl, fun _ => by simp⟩
    · have e : x = double.word true 0 := by rw [h]; rfl
      refine ⟨true, 0, 1074, by rw [e, read_zero], by rw [Int.zero_mul]; rfl, fun hx => ?_⟩
      rw [hx, fl_zero] at h; cases h
  · obtain h := h.resolve_right (fun e => h0 e.1)
    refine ⟨decide (n < 0), n.natAbs * 2 ^ (52 - n.natAbs.log2), 52 - n.natAbs.log2, ?_, ?_, fun _ => rfl⟩
    · rw [h, fl_pos h0 hn, read_rung _ (by omega) hn]
    · unfold signed
      rw [Nat.shiftLeft_zero]
      rcases (by omega : n < 0 ∨ 0 ≤ n) with hneg | hpos
      · have e : n = -(n.natAbs : Int) := by omega
        rw [if_pos (by simpa using hneg)]
        conv => rhs; rw [e]
        rw [Int.neg_mul]; simp
      · have e : n = (n.natAbs : Int) := by omega
        rw [if_neg (by simpa using hpos)]
        conv => rhs; rw [e]
        simp
theorem signed_up (s : Bool) (m u : Nat) : signed s m u = signed s m 0 * 2 ^ u := by
  unfold signed
  cases s <;> simp [Nat.shiftLeft_eq, Int.neg_mul]
/-- Two brought to one place. -/
theorem lift_two {a : Int} {s : Bool} {m i j : Nat} (h : signed s m 0 = a * 2 ^ i) : signed s m ((-(i : Int)) - min (-(i : Int)) (-(j : Int))).toNat = a * 2 ^ (max i j) := by
  rw [signed_up, h, Int.mul_assoc, ← Int.pow_add]
  congr 2; omega
theorem lift_two' {a : Int} {s : Bool} {m i j : Nat} (h : signed s m 0 = a * 2 ^ j) : signed s m ((-(j : Int)) - min (-(i : Int)) (-(j : Int))).toNat = a * 2 ^ (max i j) := by
  rw [signed_up, h, Int.mul_assoc, ← Int.pow_add]
  congr 2; omega
theorem compare_scale (a b : Int) (q : Nat) : compare (a * 2 ^ q) (b * 2 ^ q) = compare a b := by
  have hp : (0 : Int) < 2 ^ q := Int.pow_pos (by decide)
  simp only [compare, compareOfLessAndEq]
  have h1 : (a * 2 ^ q < b * 2 ^ q) ↔ a < b := ⟨fun h => Int.lt_of_mul_lt_mul_right h (Int.le_of_lt hp), fun h => Int.mul_lt_mul_of_pos_right h hp⟩
  have h2 : (a * 2 ^ q = b * 2 ^ q) ↔ a = b := ⟨fun h => Int.eq_of_mul_eq_mul_right (Int.ne_of_gt hp) h, fun h => by rw [h]⟩
  simp only [h1, h2]
theorem Fl.order {x y : Nat} {a b : Int} (hx : Fl x a) (hy : Fl y b) : double.order x y = some (compare a b) := by
  obtain ⟨s, m, i, h1, h2, -⟩ := hx.read
  obtain ⟨t, n, j, h3, h4, -⟩ := hy.read
  simp only [Format.order, h1, h3, Datum.order, lift_two h2, lift_two' h4, compare_scale]
theorem fl_add {a b : Int} (ha : a.natAbs < 2 ^ 53) (hb : b.natAbs < 2 ^ 53) (h : (a + b).natAbs < 2 ^ 53) : floatBits .add .f64 (floatOfInt .f64 a) (floatOfInt .f64 b) = some (floatOfInt .f64 (a + b)) := by
  obtain ⟨s, m, i, h1, h2, h2'⟩ := (Fl.of ha).read
  obtain ⟨t, n, j, h3, h4, h4'⟩ := (Fl.of hb).read
  have hs := h2' rfl
  have ht := h4' rfl
  have hmin : min (-(i : Int)) (-(j : Int)) = -((max i j : Nat) : Int) := by omega
  show ((double.read _).sum (double.read _)).map double.write = _
  simp only [h1, h3, Datum.sum, lift_two h2, lift_two' h4, Option.map_some, Format.write]
  congr 1
  rw [← Int.add_mul, hmin]
  generalize max i j = q
  have hp : (0 : Int) < 2 ^ q := Int.pow_pos (by decide)
  by_cases h0 : a + b = 0
  · rw [h0, Int.zero_mul, if_pos rfl, hs, ht, fl_zero]
    rw [show (0 : Int).natAbs = 0 from rfl, nearest_zero]
    have : (decide (a < 0) && decide (b < 0)) = false := by
      rw [Bool.and_eq_false_iff]; simp only [decide_eq_false_iff_not]; omega
    rw [this]; rfl
  · have hz : (a + b) * 2 ^ q ≠ 0 := Int.mul_ne_zero h0 (Int.ne_of_gt hp)
    have hlt : (decide ((a + b) * 2 ^ q < 0)) = decide (a + b < 0) := by
      have : (a + b) * 2 ^ q < 0 ↔ a + b < 0 := by
        have e : (0 : Int) = 0 * 2 ^ q := by rw [Int.zero_mul]
        conv => lhs; rw [e]
        exact ⟨fun h => Int.lt_of_mul_lt_mul_right h (Int.le_of_lt hp), fun h => Int.mul_lt_mul_of_pos_right h hp⟩
      simp only [this]
    rw [if_neg hz, hlt, Int.natAbs_mul, Int.natAbs_pow, fl_pos h0 h]
    exact nearest_exact _ q (by omega) h
theorem word_xor (s : Bool) {r : Nat} (h : r < 2 ^ 63) : double.word s r ^^^ 2 ^ 63 = double.word (!s) r := by
  have hs : double.signWeight = 2 ^ 63 := rfl
  have h1 : 2 ^ 63 + r = 2 ^ 63 ^^^ r := by
    have e := Nat.two_pow_add_eq_or_of_lt h 1
    rw [Nat.mul_one] at e
    rw [e]
    apply Nat.eq_of_testBit_eq
    intro i
    rw [Nat.testBit_or, Nat.testBit_xor, Nat.testBit_two_pow]
    by_cases hi : 63 = i
    · subst hi; simp [Nat.testBit_lt_two_pow h]
    · simp [hi]
  unfold Format.word
  rw [hs]
  cases s
  · simp only [Bool.not_false, if_true, if_false, Bool.false_eq_true]; rw [h1, Nat.xor_comm]
  · simp only [Bool.not_true, if_true, if_false, Bool.false_eq_true]; rw [h1, Nat.xor_comm (2 ^ 63) r, Nat.xor_assoc, Nat.xor_self, Nat.xor_zero]
/-- The sign turned. -/
theorem Fl.neg {x : Nat} {n : Int} (h : Fl x n) : Fl (Op.negFloat .f64 x) (-n) := by
  have e : Op.negFloat .f64 x = x ^^^ 2 ^ 63 := rfl
  obtain ⟨hn, h⟩ := h
  refine ⟨by simpa using hn, ?_⟩
  by_cases h0 : n = 0
  · subst h0
    rcases h with h | ⟨_, h⟩
    · exact .inr ⟨rfl, by rw [e, h, fl_zero]; decide +kernel⟩
    · exact .inl (by rw [e, h, Int.neg_zero, fl_zero]; decide +kernel)
  · obtain h := h.resolve_right (fun e => h0 e.1)
    refine .inl ?_
    have hl := log_le hn
    have := full_hi hl
    rw [e, h, fl_pos h0 hn, word_xor _ (by unfold rungOf; omega), fl_pos (by omega) (by simpa using hn), Int.natAbs_neg]
    congr 1
    rw [← decide_not]
    exact decide_eq_decide.2 (by omega)
theorem Fl.norm {x : Nat} {n : Int} (h : Fl x n) : (if (double.order x (floatOfInt .f64 0) == some .eq) then floatOfInt .f64 0 else x) = floatOfInt .f64 n := by
  rw [h.order (Fl.of (by decide))]
  by_cases h0 : n = 0
  · subst h0; rfl
  · have : compare n 0 ≠ .eq := by simpa using h0
    rw [if_neg (by simpa using this)]
    exact h.2.resolve_right (fun e => h0 e.1)
end Go.Proofs.Ythefgplobhmfcab
