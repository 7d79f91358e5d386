/- Whole of both; packets that ask for an echo; Echo of both. No condition. -/
import Derived.Test.YtgonckbdkgiddaaQI
namespace Go.Proofs.Ytgonckbdkgiddaa.Ip
open Go.RowKit
theorem andNat (n m : Int) (M : Nat) (hM : (BitVec.ofInt 64 m).toNat = M) (hs : M < 4611686018427387904) : bits .and .i64 n m = (((BitVec.ofInt 64 n).toNat &&& M : Nat) : Int) := by
  show IntKind.i64.wrap ((BitVec.ofInt 64 n &&& BitVec.ofInt 64 m).toNat : Nat) = _
  have h := Nat.and_le_right (n := (BitVec.ofInt 64 n).toNat) (m := M)
  rw [BitVec.toNat_and, hM, IntKind.wrap_i64]
  omega
theorem whole_same (n : Int) : ((bits .and .i64 n 8191 == 0) && (bits .and .i64 n 8192 == 0)) = (bits .and .i64 n 16383 == 0) := by
  rw [andNat n 8191 8191 (by decide) (by omega), andNat n 8192 8192 (by decide) (by omega), andNat n 16383 16383 (by decide) (by omega), show (16383 : Nat) = 8191 ||| 8192 from by decide, Nat.and_or_distrib_left]
  generalize (BitVec.ofInt 64 n).toNat &&& 8191 = x
  generalize (BitVec.ofInt 64 n).toNat &&& 8192 = y
  have := Nat.or_eq_zero_iff (n := x) (m := y)
  rw [Bool.eq_iff_iff]
  simp only [Bool.and_eq_true, beq_iff_eq, Int.natCast_eq_zero]
  exact this.symm
end Go.Proofs.Ytgonckbdkgiddaa.Ip
namespace Go.Proofs.Ytgonckbdkgiddaa
open Go.RowKit
def askedB (k ty co : Int) : Bool := k == 1 && (ty == 8 && co == 0)
def wholeB (fr : Int) : Bool := bits .and .i64 fr 16383 == 0
/-- A packet's cells. -/
def pk (d s tag et op sha spa tha tpa tos id fr ttl pr src dst k ty co re sp dp sq ak fl wi ur : Int) (tg ia ii ns : Bool) (io lo ds bd pd : List Int) : Array Value := #[.int .u64 d, .int .u64 s, .bool tg, .int .i64 tag, .int .i64 et, .bool ia, .int .i64 op, .int .u64 sha, .int .u32 spa, .int .u64 tha, .int .u32 tpa, .bool ii, .int .i64 tos, .int .i64 id, .int .i64 fr, .int .i64 ttl, .int .i64 pr, .int .u32 src, .int .u32 dst, .string (strOfNums io), .int .i64 k, .int .i64 ty, .int .i64 co, .int .u32 re, .int .i64 sp, .int .i64 dp, .bool ns, .int .u32 sq, .int .u32 ak, .int .i64 fl, .int .i64 wi, .int .i64 ur, .string (strOfNums lo), .string (strOfNums ds), .string (strOfNums bd), .string (strOfNums pd)]
def zeroPk : Array Value := #[.int .u64 0, .int .u64 0, .bool false, .int .i64 0, .int .i64 0, .bool false, .int .i64 0, .int .u64 0, .int .u32 0, .int .u64 0, .int .u32 0, .bool false, .int .i64 0, .int .i64 0, .int .i64 0, .int .i64 0, .int .i64 0, .int .u32 0, .int .u32 0, .string ⟨#[]⟩, .int .i64 0, .int .i64 0, .int .i64 0, .int .u32 0, .int .i64 0, .int .i64 0, .bool false, .int .u32 0, .int .u32 0, .int .i64 0, .int .i64 0, .int .i64 0, .string ⟨#[]⟩, .string ⟨#[]⟩, .string ⟨#[]⟩, .string ⟨#[]⟩]
end Go.Proofs.Ytgonckbdkgiddaa
