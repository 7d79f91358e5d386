/- What was set is read: pure facts on bits. No condition. -/
import Derived.Test.YtbodenmdcbfflaaDoorFL
namespace Go.Proofs.YtbodenmdcbfflaaDoor
open Go.RowKit

theorem two_pow_bound (k : Nat) (hk : k ≤ 48) : (0 : Int) ≤ 2 ^ k - 1 ∧ (2 : Int) ^ k - 1 ≤ 18446744073709551615 := by
  have h : ∀ k, k ≤ 48 → (0 : Int) ≤ 2 ^ k - 1 ∧ (2 : Int) ^ k - 1 ≤ 18446744073709551615 := by decide +kernel
  exact h k hk
theorem bits_ones (x : Int) (h0 : 0 ≤ x) (h1 : x ≤ 18446744073709551615) (k : Nat) (hk : k ≤ 48) : bits BinOp.and IntKind.u64 x (2 ^ k - 1) = x % 2 ^ k := by
  obtain ⟨n, rfl⟩ := Int.eq_ofNat_of_zero_le h0
  rw [bits_and, BitVec.toNat_and]
  have e1 : (bv (n : Int)).toNat = n := by have := toNat_bv h0 h1; omega
  have e2 : (bv (2 ^ k - 1)).toNat = 2 ^ k - 1 := by
    have := toNat_bv (two_pow_bound k hk).1 (two_pow_bound k hk).2
    have hc : ((2 ^ k - 1 : Nat) : Int) = (2 : Int) ^ k - 1 := by
      have hp : 1 ≤ 2 ^ k := Nat.one_le_two_pow
      rw [Int.natCast_sub hp]
      simp
    omega
  rw [e1, e2, Nat.and_two_pow_sub_one_eq_mod]
  simp
theorem bit16 (x : Int) (h0 : 0 ≤ x) (h1 : x ≤ 18446744073709551615) : (bits BinOp.and IntKind.u64 x 65536 != 0) = decide (65536 ≤ x % 131072) := by
  obtain ⟨n, rfl⟩ := Int.eq_ofNat_of_zero_le h0
  rw [bits_and, BitVec.toNat_and]
  have e1 : (bv (n : Int)).toNat = n := by have := toNat_bv h0 h1; omega
  have e2 : (bv 65536).toNat = 2 ^ 16 := by decide +kernel
  rw [e1, e2]
  have e3 : n.testBit 16 = decide (n / 2 ^ 16 % 2 = 1) := Nat.testBit_eq_decide_div_mod_eq
  have e4 : (n / 2 ^ 16 % 2 = 1) ↔ (65536 ≤ (n : Int) % 131072) := by omega
  by_cases h : n / 2 ^ 16 % 2 = 1
  · have h' := e4.1 h
    have hn : n &&& 2 ^ 16 ≠ 0 := fun hz => by
      have := congrArg (fun k => k.testBit 16) hz
      simp only [Nat.testBit_and, Nat.testBit_two_pow, e3, h, Nat.zero_testBit] at this
      simp at this
    simp only [h', decide_true, bne_iff_ne, ne_eq]
    omega
  · have h' : ¬ (65536 ≤ (n : Int) % 131072) := fun c => h (e4.2 c)
    have hn : n &&& 2 ^ 16 = 0 := by
      apply Nat.eq_of_testBit_eq
      intro i
      simp only [Nat.testBit_and, Nat.testBit_two_pow, Nat.zero_testBit]
      by_cases hi : 16 = i
      · subst hi; simp [e3, h]
      · simp [hi]
    simp only [h', decide_false, hn]
    rfl
theorem over_zero {f : Nat} {v m : Int} (h : overB f v m = false) : (bv v ||| bv m) &&& ~~~ bv (2 ^ fBits f - 1) = 0#64 := by
  unfold overB at h
  rw [bits_andNot, bits_or, bv_nat] at h
  have : ((bv v ||| bv m) &&& ~~~ bv (2 ^ fBits f - 1)).toNat = 0 := by
    simp only [bne_eq_false_iff_eq] at h
    omega
  exact BitVec.eq_of_toNat_eq (by simpa using this)
theorem mix_ones {f : Nat} {cs : Array Value} {v m : Int} (h : overB f v m = false) :
    bits BinOp.and IntKind.u64 (mixV f cs v m) (2 ^ fBits f - 1) = bits BinOp.or IntKind.u64 (bits BinOp.andNot IntKind.u64 (bits BinOp.and IntKind.u64 (rdF f cs) (2 ^ fBits f - 1)) m) (bits BinOp.and IntKind.u64 v m) := by
  have hz := over_zero h
  unfold mixV
  rw [bits_or, bits_andNot, bits_and v m, bv_nat, bv_nat, bits_and _ (2 ^ fBits f - 1), bv_nat, bits_or, bits_andNot, bits_and (rdF f cs), bv_nat, bv_nat, bv_nat]
  generalize bv (rdF f cs) = R
  generalize bv (2 ^ fBits f - 1) = O at hz ⊢
  generalize bv v = V at hz ⊢
  generalize bv m = M at hz ⊢
  have : (R &&& ~~~ M ||| V &&& M) &&& O = R &&& O &&& ~~~ M ||| V &&& M := by
    apply BitVec.eq_of_getLsbD_eq
    intro i hi
    have hzi := congrArg (fun b => b.getLsbD i) hz
    simp only [BitVec.getLsbD_and, BitVec.getLsbD_or, BitVec.getLsbD_not, BitVec.getLsbD_zero, hi, decide_true, Bool.true_and] at hzi ⊢
    generalize R.getLsbD i = r at hzi ⊢
    generalize O.getLsbD i = o at hzi ⊢
    generalize V.getLsbD i = v at hzi ⊢
    generalize M.getLsbD i = m at hzi ⊢
    revert hzi
    revert r o v m
    decide
  rw [this]
theorem wrapU_mod (x : Int) : IntKind.u64.wrap x = x % 18446744073709551616 := by
  simp [IntKind.wrap, IntKind.bits, IntKind.signed]
theorem kind_bits : ∀ f, f < 29 → 1 ≤ f → fKind f = .u32 → fBits f = 32 := by decide +kernel
theorem kind_any : ∀ f, f < 29 → (fKind f = .u32 ∨ fKind f = .u64 ∨ fKind f = .i64) := by decide +kernel
/-- What a field that has a place of its own reads once it is set. -/
theorem rd_set {f : Nat} (hf : 1 ≤ f) (hf2 : f < 29) (h4 : f ≠ 4) {cs : Array Value} (hs : cs.size = 49) (x : Int) (h0 : 0 ≤ x) (h1 : x ≤ 18446744073709551615) :
    bits BinOp.and IntKind.u64 (rdF f (wrF f cs x)) (2 ^ fBits f - 1) = bits BinOp.and IntKind.u64 x (2 ^ fBits f - 1) := by
  have e : rdF f (wrF f cs x) = IntKind.u64.wrap (wrapK (fKind f) x) := by
    unfold rdF
    rw [if_neg h4]
    have g := wr_get hf2 hs x (fIdx f)
    rw [pos_idx f h4, if_pos rfl] at g
    unfold patch at g
    rw [if_neg h4] at g
    rw [numAt_of g]
  rw [e, wrapU_mod]
  rcases kind_any f hf2 with hk | hk | hk
  · have hb := kind_bits f hf2 hf hk
    rw [hk, hb]
    rw [bits_ones _ (by omega) (by omega) 32 (by omega), bits_ones x h0 h1 32 (by omega)]
    simp only [wrapK]
    omega
  · rw [hk]
    simp only [wrapK]
    rw [show x % 18446744073709551616 = x from by omega]
  · rw [hk]
    simp only [wrapK, wrap64]
    rw [show (((x + 9223372036854775808) % 18446744073709551616 - 9223372036854775808) % 18446744073709551616) = x from by omega]
theorem back_plain {f : Nat} (hf : 1 ≤ f) (hf2 : f < 29) (h4 : f ≠ 4) {cs : Array Value} (hs : cs.size = 49) {v m : Int} (h : overB f v m = false) :
    bits BinOp.and IntKind.u64 (rdF f (wrF f cs (mixV f cs v m))) (2 ^ fBits f - 1) = bits BinOp.or IntKind.u64 (bits BinOp.andNot IntKind.u64 (bits BinOp.and IntKind.u64 (rdF f cs) (2 ^ fBits f - 1)) m) (bits BinOp.and IntKind.u64 v m) := by
  rw [rd_set hf hf2 h4 hs _ (mix_in _ _ _ _).1 (mix_in _ _ _ _).2, mix_ones h]
theorem back_tag {cs : Array Value} (hs : cs.size = 49) {v m : Int} (h : overB 4 v m = false) (W : Int) (hW : bits BinOp.or IntKind.u64 (bits BinOp.andNot IntKind.u64 (bits BinOp.and IntKind.u64 (rdF 4 cs) (2 ^ fBits 4 - 1)) m) (bits BinOp.and IntKind.u64 v m) = W) :
    bits BinOp.and IntKind.u64 (rdF 4 (wrF 4 cs (mixV 4 cs v m))) (2 ^ fBits 4 - 1) = if W < 65536 then 0 else W := by
  have hx := mix_in 4 cs v m
  have e := mix_ones (cs := cs) h
  rw [hW] at e
  generalize mixV 4 cs v m = x at e hx ⊢
  rw [show fBits 4 = 17 from rfl] at *
  rw [bits_ones x hx.1 hx.2 17 (by omega)] at e
  have g2 := wr_get (f := 4) (by omega) hs x 2
  have g3 := wr_get (f := 4) (by omega) hs x 3
  rw [show posB 4 2 = true from rfl, if_pos rfl] at g2
  rw [show posB 4 3 = true from rfl, if_pos rfl] at g3
  have p2 : patch 4 x 2 = .bool (bits BinOp.and IntKind.u64 x 65536 != 0) := by unfold patch; rw [if_pos rfl, if_pos rfl]
  rw [p2, bit16 x hx.1 hx.2] at g2
  have p3 : patch 4 x 3 = if (bits BinOp.and IntKind.u64 x 65536 != 0) then .int .i64 (wrap64 (IntKind.u64.wrap (x - 65536))) else .int .i64 0 := by unfold patch; rw [if_pos rfl, if_neg (by omega)]
  rw [p3, bit16 x hx.1 hx.2] at g3
  have r : rdF 4 (wrF 4 cs x) = if boolAt (wrF 4 cs x) 2 then IntKind.u64.wrap (IntKind.u64.wrap (numAt (wrF 4 cs x) 3) + 65536) else 0 := by unfold rdF; rw [if_pos rfl]
  rw [r, boolAt_of g2]
  by_cases hb : 65536 ≤ x % 131072
  · simp only [hb, decide_true, if_true] at g3 ⊢
    rw [numAt_of g3, wrapU_mod, wrapU_mod, wrapU_mod]
    simp only [wrap64]
    rw [show (((((x - 65536) % 18446744073709551616 + 9223372036854775808) % 18446744073709551616 - 9223372036854775808) % 18446744073709551616 + 65536) % 18446744073709551616) = x from by omega]
    rw [bits_ones x hx.1 hx.2 17 (by omega)]
    rw [if_neg (by omega)]
    omega
  · simp only [hb, decide_false, Bool.false_eq_true, if_false]
    rw [bits_ones 0 (by omega) (by omega) 17 (by omega), if_pos (by omega)]
    simp
end Go.Proofs.YtbodenmdcbfflaaDoor
