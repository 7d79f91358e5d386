/- The reference's tuple of any packet; CtTuples. Conditions: the packet's cells are of their kinds. -/
import Derived.Test.YtjjehncnjcepkaaCV
namespace Go.Proofs.Ytjjehncnjcepkaa
open Go.RowKit
theorem and_split (x : BitVec 64) : (x &&& 16383#64 = 0#64) ↔ (x &&& 8191#64 = 0#64 ∧ x &&& 8192#64 = 0#64) := by
  have h : x &&& 16383#64 = (x &&& 8191#64) ||| (x &&& 8192#64) := by
    rw [← BitVec.and_or_distrib_left]; rfl
  rw [h, BitVec.or_eq_zero_iff]
theorem bits_zero (fr m : Int) (hm : 0 ≤ m ∧ m ≤ 65535) : (bits BinOp.and IntKind.i64 fr m == 0) = decide (BitVec.ofInt 64 fr &&& BitVec.ofInt 64 m = 0#64) := by
  have hb : (BitVec.ofInt 64 fr &&& BitVec.ofInt 64 m).toNat ≤ m.toNat := by
    rw [BitVec.toNat_and]
    refine Nat.le_trans Nat.and_le_right ?_
    simp [BitVec.toNat_ofInt]
    omega
  have e : bits BinOp.and IntKind.i64 fr m = ((BitVec.ofInt 64 fr &&& BitVec.ofInt 64 m).toNat : Int) := by
    show IntKind.i64.wrap ((BitVec.ofInt 64 fr &&& BitVec.ofInt 64 m).toNat : Int) = _
    rw [IntKind.wrap_i64]; omega
  rw [e, Bool.eq_iff_iff]
  simp only [beq_iff_eq, decide_eq_true_eq]
  constructor
  · intro h
    apply BitVec.eq_of_toNat_eq
    simpa using h
  · intro h
    rw [h]; rfl
theorem whole_split (fr : Int) : (bits BinOp.and IntKind.i64 fr 16383 == 0) = (firstB fr && moreB fr) := by
  unfold firstB moreB
  rw [bits_zero fr 16383 (by omega), bits_zero fr 8191 (by omega), bits_zero fr 8192 (by omega), Bool.eq_iff_iff]
  simp only [Bool.and_eq_true, decide_eq_true_eq]
  exact and_split _
theorem tup_built (a b c d e : Int) : Try.prog.built 44 [(0, .int .i64 a), (1, .int .u32 b), (2, .int .u32 c), (3, .int .i64 d), (4, .int .i64 e)] = some (tupC a b c d e) := by kernel_rfl
end Go.Proofs.Ytjjehncnjcepkaa
