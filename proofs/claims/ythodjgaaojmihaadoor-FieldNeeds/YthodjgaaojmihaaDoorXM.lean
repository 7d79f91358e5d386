/- Numbers and their bytes. No condition. -/
import Derived.Test.YthodjgaaojmihaaDoorLOct
namespace Go.Proofs.YthodjgaaojmihaaDoor.Eth
open Go.RowKit
theorem p256 (k : Nat) : (2 : Int) ^ (8 * k) = 256 ^ k := by rw [Int.pow_mul]; rfl
theorem p256_pos (k : Nat) : (0 : Int) < 256 ^ k := Int.pow_pos (by omega)

theorem num_fold (ys : List Int) : ∀ a : Int, ys.foldl (fun x z => x * 256 + z) a = a * 256 ^ ys.length + num ys := by
  unfold num
  induction ys with
  | nil => intro a; simp
  | cons y ys ih =>
    intro a
    simp only [List.foldl_cons, List.length_cons, Int.pow_succ]
    rw [ih (a * 256 + y), ih (0 * 256 + y)]
    generalize (256 : Int) ^ ys.length = P
    rw [Int.add_mul, Int.add_mul, Int.zero_mul, Int.zero_mul, Int.mul_assoc, Int.mul_comm 256 P]
    omega
theorem num_cons (y : Int) (ys : List Int) : num (y :: ys) = y * 256 ^ ys.length + num ys := by
  have := num_fold ys y
  rw [← this]; simp [num]
theorem num_lt (ys : List Int) (h : ∀ i, 0 ≤ ys.getD i 0 ∧ ys.getD i 0 ≤ 255) : 0 ≤ num ys ∧ num ys < 256 ^ ys.length := by
  have := num_bd ys h ys.length
  rwa [List.take_length] at this

theorem be_mod (k : Nat) : ∀ (a v : Int), be (a * 256 ^ k + v) k = be v k := by
  induction k with
  | zero => intro a v; rfl
  | succ k ih =>
    intro a v
    have e : a * 256 ^ (k + 1) + v = (a * 256) * 256 ^ k + v := by rw [Int.pow_succ, Int.mul_assoc, Int.mul_comm 256]
    simp only [be]
    rw [p256, e, ih (a * 256) v]
    congr 1
    rw [Int.add_comm, Int.add_mul_ediv_right _ _ (Int.ne_of_gt (p256_pos k))]
    omega

theorem be_num (ys : List Int) (h : ∀ i, 0 ≤ ys.getD i 0 ∧ ys.getD i 0 ≤ 255) : be (num ys) ys.length = ys := by
  induction ys with
  | nil => rfl
  | cons y ys ih =>
    have h' : ∀ i, 0 ≤ ys.getD i 0 ∧ ys.getD i 0 ≤ 255 := fun i => by simpa using h (i + 1)
    have hy : 0 ≤ y ∧ y ≤ 255 := by simpa using h 0
    have hb := num_lt ys h'
    rw [num_cons]
    simp only [List.length_cons, be]
    rw [p256, be_mod, ih h']
    congr 1
    rw [Int.add_comm, Int.add_mul_ediv_right _ _ (Int.ne_of_gt (p256_pos _)), Int.ediv_eq_zero_of_lt hb.1 hb.2]
    omega

theorem be_num_k (ys : List Int) (h : ∀ i, 0 ≤ ys.getD i 0 ∧ ys.getD i 0 ≤ 255) (k : Nat) (hk : ys.length = k) : be (num ys) k = ys := by subst hk; exact be_num ys h

theorem fits_take {xs : List Int} (h : ∀ i, 0 ≤ xs.getD i 0 ∧ xs.getD i 0 ≤ 255) (k : Nat) : ∀ i, 0 ≤ (xs.take k).getD i 0 ∧ (xs.take k).getD i 0 ≤ 255 := by
  intro i
  have := h i
  simp only [List.getD_eq_getElem?_getD, List.getElem?_take] at *
  split <;> simp_all
theorem fits_drop {xs : List Int} (h : ∀ i, 0 ≤ xs.getD i 0 ∧ xs.getD i 0 ≤ 255) (k : Nat) : ∀ i, 0 ≤ (xs.drop k).getD i 0 ∧ (xs.drop k).getD i 0 ≤ 255 := by
  intro i
  have := h (k + i)
  simpa [List.getD_eq_getElem?_getD, List.getElem?_drop] using this
end Go.Proofs.YthodjgaaojmihaaDoor.Eth
