/- Plain laws on numbers as bytes and on heads as bytes. No condition of the program. -/
import Derived.Test.YtfjhahofmmbleaaLives
namespace Go.Proofs.Ytfjhahofmmbleaa
open Go.RowKit

theorem p256 (k : Nat) : (2 : Int) ^ (8 * k) = 256 ^ k := by rw [Int.pow_mul]; rfl
theorem p256_pos (k : Nat) : (0 : Int) < 256 ^ k := Int.pow_pos (by omega)

theorem num_fold (ys : List Int) : ∀ a : Int, ys.foldl (fun x z => x * 256 + z) a = a * 256 ^ ys.length + num ys := by
  unfold num
  induction ys with
  | nil => intro a; simp
  | cons y ys ih =>
    intro a
    simp only [List.foldl_cons, List.length_cons, Int.pow_succ]
    rw [ih (a * 256 + y), ih (0 * 256 + y)]
    generalize (256 : Int) ^ ys.length = P
    rw [Int.add_mul, Int.add_mul, Int.zero_mul, Int.zero_mul, Int.mul_assoc, Int.mul_comm 256 P]
    omega
theorem num_cons (y : Int) (ys : List Int) : num (y :: ys) = y * 256 ^ ys.length + num ys := by
  have := num_fold ys y
  rw [← this]; simp [num]
theorem num_append (xs ys : List Int) : num (xs ++ ys) = num xs * 256 ^ ys.length + num ys := by
  rw [← num_fold ys (num xs)]; simp [num]

theorem num_lt (ys : List Int) (h : ∀ i, 0 ≤ ys.getD i 0 ∧ ys.getD i 0 ≤ 255) : 0 ≤ num ys ∧ num ys < 256 ^ ys.length := by
  have := num_bd ys h ys.length
  rwa [List.take_length] at this

theorem be_mod (k : Nat) : ∀ (a v : Int), be (a * 256 ^ k + v) k = be v k := by
  induction k with
  | zero => intro a v; rfl
  | succ k ih =>
    intro a v
    have e : a * 256 ^ (k + 1) + v = (a * 256) * 256 ^ k + v := by rw [Int.pow_succ, Int.mul_assoc, Int.mul_comm 256]
    simp only [be]
    rw [p256, e, ih (a * 256) v]
    congr 1
    rw [Int.add_comm, Int.add_mul_ediv_right _ _ (Int.ne_of_gt (p256_pos k))]
    omega

theorem be_num (ys : List Int) (h : ∀ i, 0 ≤ ys.getD i 0 ∧ ys.getD i 0 ≤ 255) : be (num ys) ys.length = ys := by
  induction ys with
  | nil => rfl
  | cons y ys ih =>
    have h' : ∀ i, 0 ≤ ys.getD i 0 ∧ ys.getD i 0 ≤ 255 := fun i => by simpa using h (i + 1)
    have hy : 0 ≤ y ∧ y ≤ 255 := by simpa using h 0
    have hb := num_lt ys h'
    rw [num_cons]
    simp only [List.length_cons, be]
    rw [p256, be_mod, ih h']
    congr 1
    rw [Int.add_comm, Int.add_mul_ediv_right _ _ (Int.ne_of_gt (p256_pos _)), Int.ediv_eq_zero_of_lt hb.1 hb.2]
    omega

theorem num_be (k : Nat) : ∀ (v : Int), 0 ≤ v → v < 256 ^ k → num (be v k) = v := by
  induction k with
  | zero => intro v h0 h1; simp [be, num]; simp at h1; omega
  | succ k ih =>
    intro v h0 h1
    simp only [be]
    rw [num_cons, be_len, p256]
    have hp := p256_pos k
    have hv : v = (v / 256 ^ k) * 256 ^ k + v % 256 ^ k := by rw [Int.mul_comm]; exact (Int.mul_ediv_add_emod v _).symm
    have hq : v / 256 ^ k < 256 := by
      apply Int.ediv_lt_of_lt_mul hp
      rw [Int.pow_succ, Int.mul_comm] at h1; exact h1
    have hq0 : 0 ≤ v / 256 ^ k := Int.ediv_nonneg h0 (Int.le_of_lt hp)
    have e : be v k = be (v % 256 ^ k) k := by
      conv => lhs; rw [hv]
      exact be_mod k _ _
    rw [e, ih _ (Int.emod_nonneg _ (Int.ne_of_gt hp)) (Int.emod_lt_of_pos _ hp), Int.emod_eq_of_lt hq0 hq]
    exact hv.symm

theorem num_be6 (v : Int) (h0 : 0 ≤ v) (h1 : v ≤ 281474976710655) : num (be v 6) = v := num_be 6 v h0 (by rw [show (256 : Int) ^ 6 = 281474976710656 from by decide]; omega)
theorem num_be4 (v : Int) (h0 : 0 ≤ v) (h1 : v ≤ 4294967295) : num (be v 4) = v := num_be 4 v h0 (by rw [show (256 : Int) ^ 4 = 4294967296 from by decide]; omega)
theorem num_be2 (v : Int) (h0 : 0 ≤ v) (h1 : v ≤ 65535) : num (be v 2) = v := num_be 2 v h0 (by rw [show (256 : Int) ^ 2 = 65536 from by decide]; omega)
theorem be_num_k (ys : List Int) (h : ∀ i, 0 ≤ ys.getD i 0 ∧ ys.getD i 0 ≤ 255) (k : Nat) (hk : ys.length = k) : be (num ys) k = ys := by subst hk; exact be_num ys h

theorem fits_take {xs : List Int} (h : ∀ i, 0 ≤ xs.getD i 0 ∧ xs.getD i 0 ≤ 255) (k : Nat) : ∀ i, 0 ≤ (xs.take k).getD i 0 ∧ (xs.take k).getD i 0 ≤ 255 := by
  intro i
  have := h i
  simp only [List.getD_eq_getElem?_getD, List.getElem?_take] at *
  split <;> simp_all
theorem fits_drop {xs : List Int} (h : ∀ i, 0 ≤ xs.getD i 0 ∧ xs.getD i 0 ≤ 255) (k : Nat) : ∀ i, 0 ≤ (xs.drop k).getD i 0 ∧ (xs.drop k).getD i 0 ≤ 255 := by
  intro i
  have := h (k + i)
  simpa [List.getD_eq_getElem?_getD, List.getElem?_drop] using this

theorem fitsB_mk {d s : Int} {tg : Bool} {tag ty : Int} (h1 : d ≤ 281474976710655) (h2 : s ≤ 281474976710655) (h3 : 0 ≤ tag ∧ tag ≤ 65535) (h4 : 0 ≤ ty ∧ ty ≤ 65535) (h5 : ty ≠ 33024) (h6 : tg = true ∨ tag = 0) : fitsB d s tg tag ty = true := by
  simp only [fitsB, wordB, h1, h2, h3, h4, Bool.and_eq_true, decide_eq_true_eq, and_self, true_and]
  refine ⟨by simp [h5], ?_⟩
  rcases h6 with rfl | rfl <;> simp

/-- What a head that is read is good for. -/
theorem head_cases (zs : List Int) (h : ∀ i, 0 ≤ zs.getD i 0 ∧ zs.getD i 0 ≤ 255) :
    (∃ e, (e = 3 ∨ e = 20 ∨ e = 21) ∧ headV zs = ethV 0 0 false 0 0 0 e) ∨
    ∃ d s tg tag ty, ∃ n : Nat, headV zs = ethV d s tg tag ty n 0 ∧ fitsB d s tg tag ty = true ∧ 0 ≤ d ∧ 0 ≤ s ∧ headBytes d s tg tag ty = zs.take n ∧ n ≤ zs.length := by
  unfold headV
  by_cases h1 : 9018 < zs.length
  · rw [if_pos h1]; exact .inl ⟨3, .inl rfl, rfl⟩
  rw [if_neg h1]
  by_cases h2 : zs.length < 14
  · rw [if_pos h2]; exact .inl ⟨20, .inr (.inl rfl), rfl⟩
  rw [if_neg h2]
  have n6 : ∀ l, l + 6 ≤ zs.length → 0 ≤ num ((zs.drop l).take 6) ∧ num ((zs.drop l).take 6) ≤ 281474976710655 := fun l hl => by
    have := num_lt _ (fits_take (fits_drop h l) 6)
    rw [show ((zs.drop l).take 6).length = 6 from by simp; omega, show (256 : Int) ^ 6 = 281474976710656 from by decide] at this
    omega
  have n2 : ∀ l, l + 2 ≤ zs.length → 0 ≤ num ((zs.drop l).take 2) ∧ num ((zs.drop l).take 2) ≤ 65535 := fun l hl => by
    have := num_lt _ (fits_take (fits_drop h l) 2)
    rw [show ((zs.drop l).take 2).length = 2 from by simp; omega, show (256 : Int) ^ 2 = 65536 from by decide] at this
    omega
  have b6 : ∀ l, l + 6 ≤ zs.length → be (num ((zs.drop l).take 6)) 6 = (zs.drop l).take 6 := fun l hl => be_num_k _ (fits_take (fits_drop h l) 6) 6 (by simp; omega)
  have b2 : ∀ l, l + 2 ≤ zs.length → be (num ((zs.drop l).take 2)) 2 = (zs.drop l).take 2 := fun l hl => be_num_k _ (fits_take (fits_drop h l) 2) 2 (by simp; omega)
  have d0 := n6 0 (by omega)
  have e0 := b6 0 (by omega)
  simp only [List.drop_zero] at d0 e0
  have d6 := n6 6 (by omega)
  have d12 := n2 12 (by omega)
  by_cases h3 : num ((zs.drop 12).take 2) ≠ 33024
  · rw [if_pos h3]
    refine .inr ⟨_, _, _, _, _, 14, rfl, fitsB_mk d0.2 d6.2 (by omega) d12 h3 (.inr rfl), d0.1, d6.1, ?_, by omega⟩
    simp only [headBytes, e0, b6 6 (by omega), b2 12 (by omega)]
    rw [show zs.take 14 = zs.take (6 + 6 + 2) from rfl, List.take_add, List.take_add]
    simp
  rw [if_neg h3]
  by_cases h4 : zs.length < 18
  · rw [if_pos h4]; exact .inl ⟨20, .inr (.inl rfl), rfl⟩
  rw [if_neg h4]
  by_cases h5 : num ((zs.drop 16).take 2) = 33024
  · rw [if_pos h5]; exact .inl ⟨21, .inr (.inr rfl), rfl⟩
  · rw [if_neg h5]
    have d14 := n2 14 (by omega)
    have d16 := n2 16 (by omega)
    have e12 : be 33024 2 = (zs.drop 12).take 2 := by rw [← b2 12 (by omega), Classical.not_not.1 h3]
    refine .inr ⟨_, _, _, _, _, 18, rfl, fitsB_mk d0.2 d6.2 d14 d16 h5 (.inl rfl), d0.1, d6.1, ?_, by omega⟩
    simp only [headBytes, e0, b6 6 (by omega), b2 14 (by omega), b2 16 (by omega), e12]
    rw [show zs.take 18 = zs.take (6 + 6 + 2 + 2 + 2) from rfl, List.take_add, List.take_add, List.take_add, List.take_add]
    simp

/-- A head's bytes, read again. -/
theorem head_back (d s : Int) (tg : Bool) (tag ty : Int) (behind : List Int) (hd : 0 ≤ d) (hs : 0 ≤ s) (hf : fitsB d s tg tag ty = true) (hl : behind.length ≤ 9000) :
    headV (headBytes d s tg tag ty ++ behind) = ethV d s tg tag ty (headBytes d s tg tag ty).length 0 := by
  have hfit := hf
  simp only [fitsB, Bool.and_eq_true, decide_eq_true_eq] at hfit
  obtain ⟨⟨⟨⟨⟨f1, f2⟩, f3⟩, f4⟩, f5⟩, f6⟩ := hfit
  have f3' := wordB_yes f3
  have f4' := wordB_yes f4
  have f5' : ty ≠ 33024 := by simpa using f5
  have l6 : ∀ v, (be v 6).length = 6 := fun v => be_len v 6
  have l2 : ∀ v, (be v 2).length = 2 := fun v => be_len v 2
  have z6 : ∀ v k, 6 ≤ k → (be v 6).drop k = [] := fun v k hk => List.drop_of_length_le (by rw [l6]; omega)
  have z2 : ∀ v k, 2 ≤ k → (be v 2).drop k = [] := fun v k hk => List.drop_of_length_le (by rw [l2]; omega)
  cases tg
  · have f6' : tag = 0 := by simpa using f6
    subst f6'
    have hlen : (headBytes d s false 0 ty).length = 14 := by simp [headBytes, be_len]
    have t0 : (headBytes d s false 0 ty ++ behind).take 6 = be d 6 := by simp [headBytes, l6]
    have t6 : ((headBytes d s false 0 ty ++ behind).drop 6).take 6 = be s 6 := by simp [headBytes, l6]
    have t12 : ((headBytes d s false 0 ty ++ behind).drop 12).take 2 = be ty 2 := by simp [headBytes, l6, l2, List.take_append, List.drop_append]
    unfold headV
    rw [List.length_append, hlen, if_neg (by omega), if_neg (by omega), t0, t6, t12, num_be6 d hd f1, num_be6 s hs f2, num_be2 ty f4'.1 f4'.2, if_pos f5']
    rfl
  · have hlen : (headBytes d s true tag ty).length = 18 := by simp [headBytes, be_len]
    have t0 : (headBytes d s true tag ty ++ behind).take 6 = be d 6 := by simp [headBytes, l6]
    have t6 : ((headBytes d s true tag ty ++ behind).drop 6).take 6 = be s 6 := by simp [headBytes, l6]
    have t12 : ((headBytes d s true tag ty ++ behind).drop 12).take 2 = be 33024 2 := by simp [headBytes, l6, l2, List.take_append, List.drop_append]
    have t14 : ((headBytes d s true tag ty ++ behind).drop 14).take 2 = be tag 2 := by simp [headBytes, l6, l2, List.drop_append, z6 _ 14 (by omega), z6 _ 8 (by omega)]
    have t16 : ((headBytes d s true tag ty ++ behind).drop 16).take 2 = be ty 2 := by simp [headBytes, l6, l2, List.drop_append, z6 _ 16 (by omega), z6 _ 10 (by omega), z2 _ 4 (by omega)]
    unfold headV
    rw [List.length_append, hlen, if_neg (by omega), if_neg (by omega), t0, t6, t12, t14, t16, num_be6 d hd f1, num_be6 s hs f2, num_be2 ty f4'.1 f4'.2, num_be2 tag f3'.1 f3'.2, num_be2 33024 (by omega) (by omega), if_neg (by simp), if_neg (by omega), if_neg f5']
    rfl
end Go.Proofs.Ytfjhahofmmbleaa
