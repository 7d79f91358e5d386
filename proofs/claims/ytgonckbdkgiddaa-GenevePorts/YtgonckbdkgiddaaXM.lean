/- Numbers and their bytes. No condition. -/
import Derived.Test.YtgonckbdkgiddaaLOct
namespace Go.Proofs.Ytgonckbdkgiddaa.Eth
open Go.RowKit
theorem p256 (k : Nat) : (2 : Int) ^ (8 * k) = 256 ^ k := by rw [Int.pow_mul]; rfl
theorem p256_pos (k : Nat) : (0 : Int) < 256 ^ k := Int.pow_pos (by omega)

theorem num_fold (ys : List Int) : ∀ a : Int, ys.foldl (fun x z => x * 256 + z) a = a * 256 ^ ys.length + num ys := by
  unfold num
  induction ys with
  | nil => intro a; simp
  | cons y ys ih =>
    intro a
    simp only [List.foldl_cons, List.length_cons, Int.pow_succ]
    rw [ih (a * 256 + y), ih (0 * 256 + y)]
    generalize (256 : Int) ^ ys.length = P
    rw [Int.add_mul, Int.add_mul, Int.zero_mul, Int.zero_mul, Int.mul_assoc, Int.mul_comm 256 P]
    omega
theorem num_cons (y : Int) (ys : List Int) : num (y :: ys) = y * 256 ^ ys.length + num ys := by
  have := num_fold ys y
  rw [← this]; simp [num]
theorem num_append (xs ys : List Int) : num (xs ++ ys) = num xs * 256 ^ ys.length + num ys := by
  rw [← num_fold ys (num xs)]; simp [num]

theorem num_lt (ys : List Int) (h : ∀ i, 0 ≤ ys.getD i 0 ∧ ys.getD i 0 ≤ 255) : 0 ≤ num ys ∧ num ys < 256 ^ ys.length := by
  have := num_bd ys h ys.length
  rwa [List.take_length] at this

theorem be_mod (k : Nat) : ∀ (a v : Int), be (a * 256 ^ k + v) k = be v k := by
  induction k with
  | zero => intro a v; rfl
  | succ k ih =>
    intro a v
    have e : a * 256 ^ (k + 1) + v = (a * 256) * 256 ^ k + v := by rw [Int.pow_succ, Int.mul_assoc, Int.mul_comm 256]
    simp only [be]
    rw [p256, e, ih (a * 256) v]
    congr 1
    rw [Int.add_comm, Int.add_mul_ediv_right _ _ (Int.ne_of_gt (p256_pos k))]
    omega

theorem be_num (ys : List Int) (h : ∀ i, 0 ≤ ys.getD i 0 ∧ ys.getD i 0 ≤ 255) : be (num ys) ys.length = ys := by
  induction ys with
  | nil => rfl
  | cons y ys ih =>
    have h' : ∀ i, 0 ≤ ys.getD i 0 ∧ ys.getD i 0 ≤ 255 := fun i => by simpa using h (i + 1)
    have hy : 0 ≤ y ∧ y ≤ 255 := by simpa using h 0
    have hb := num_lt ys h'
    rw [num_cons]
    simp only [List.length_cons, be]
    rw [p256, be_mod, ih h']
    congr 1
    rw [Int.add_comm, Int.add_mul_ediv_right _ _ (Int.ne_of_gt (p256_pos _)), Int.ediv_eq_zero_of_lt hb.1 hb.2]
    omega

theorem num_be (k : Nat) : ∀ (v : Int), 0 ≤ v → v < 256 ^ k → num (be v k) = v := by
  induction k with
  | zero => intro v h0 h1; simp [be, num]; simp at h1; omega
  | succ k ih =>
    intro v h0 h1
    simp only [be]
    rw [num_cons, be_len, p256]
    have hp := p256_pos k
    have hv : v = (v / 256 ^ k) * 256 ^ k + v % 256 ^ k := by rw [Int.mul_comm]; exact (Int.mul_ediv_add_emod v _).symm
    have hq : v / 256 ^ k < 256 := by
      apply Int.ediv_lt_of_lt_mul hp
      rw [Int.pow_succ, Int.mul_comm] at h1; exact h1
    have hq0 : 0 ≤ v / 256 ^ k := Int.ediv_nonneg h0 (Int.le_of_lt hp)
    have e : be v k = be (v % 256 ^ k) k := by
      conv => lhs; rw [hv]
      exact be_mod k _ _
    rw [e, ih _ (Int.emod_nonneg _ (Int.ne_of_gt hp)) (Int.emod_lt_of_pos _ hp), Int.emod_eq_of_lt hq0 hq]
    exact hv.symm

theorem num_be6 (v : Int) (h0 : 0 ≤ v) (h1 : v ≤ 281474976710655) : num (be v 6) = v := num_be 6 v h0 (by rw [show (256 : Int) ^ 6 = 281474976710656 from by decide]; omega)
theorem num_be4 (v : Int) (h0 : 0 ≤ v) (h1 : v ≤ 4294967295) : num (be v 4) = v := num_be 4 v h0 (by rw [show (256 : Int) ^ 4 = 4294967296 from by decide]; omega)
theorem num_be2 (v : Int) (h0 : 0 ≤ v) (h1 : v ≤ 65535) : num (be v 2) = v := num_be 2 v h0 (by rw [show (256 : Int) ^ 2 = 65536 from by decide]; omega)
theorem be_num_k (ys : List Int) (h : ∀ i, 0 ≤ ys.getD i 0 ∧ ys.getD i 0 ≤ 255) (k : Nat) (hk : ys.length = k) : be (num ys) k = ys := by subst hk; exact be_num ys h

theorem fits_take {xs : List Int} (h : ∀ i, 0 ≤ xs.getD i 0 ∧ xs.getD i 0 ≤ 255) (k : Nat) : ∀ i, 0 ≤ (xs.take k).getD i 0 ∧ (xs.take k).getD i 0 ≤ 255 := by
  intro i
  have := h i
  simp only [List.getD_eq_getElem?_getD, List.getElem?_take] at *
  split <;> simp_all
theorem fits_drop {xs : List Int} (h : ∀ i, 0 ≤ xs.getD i 0 ∧ xs.getD i 0 ≤ 255) (k : Nat) : ∀ i, 0 ≤ (xs.drop k).getD i 0 ∧ (xs.drop k).getD i 0 ≤ 255 := by
  intro i
  have := h (k + i)
  simpa [List.getD_eq_getElem?_getD, List.getElem?_drop] using this
end Go.Proofs.Ytgonckbdkgiddaa.Eth
