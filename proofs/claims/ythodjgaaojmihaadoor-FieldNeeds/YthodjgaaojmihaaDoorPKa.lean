/- Whole of both; packets that ask for an echo; Echo of both. No condition. -/
import Derived.Test.YthodjgaaojmihaaDoorIH
namespace Go.Proofs.YthodjgaaojmihaaDoor.Ip
open Go.RowKit
theorem ip_First_any (tos id frag ttl pr src dst : Int) (os : List Int) (w : World) : Calls Tryd.prog 27 #[ipV tos id frag ttl pr src dst os] w fun e w' => e = .returned (.bool (bits .and .i64 frag 8191 == 0)) ∧ Below w.heap.size w w' := by
  unfold ipV
  go_enter Tryd.func27, Tryd.ntmps27
  go_wp2
  go_ret
  exact ⟨rfl, below1 w _⟩
theorem ip_Whole_any (tos id frag ttl pr src dst : Int) (os : List Int) (w : World) : Calls Tryd.prog 12 #[ipV tos id frag ttl pr src dst os] w fun e w' => e = .returned (.bool ((bits .and .i64 frag 8191 == 0) && (bits .and .i64 frag 8192 == 0))) ∧ Below w.heap.size w w' := by
  have hun : ipV tos id frag ttl pr src dst os = .agg #[.int .i64 tos, .int .i64 id, .int .i64 frag, .int .i64 ttl, .int .i64 pr, .int .u32 src, .int .u32 dst, .string (strOfNums os)] := rfl
  rw [hun]
  cases c : (bits .and .i64 frag 8191 == 0)
  all_goals
    go_enter Tryd.func12, Tryd.ntmps12
    go_wp2_with fail
    rw [← hun]
    refine (ip_First_any tos id frag ttl pr src dst os _).mono ?_
    rintro e w1 ⟨rfl, hb⟩
    rw [c]
    obtain ⟨x0, x1, x2, x3, x4, x5, x6, x7⟩ := AtB.eight (AtB.below (atB_new w #[.int .i64 tos, .int .i64 id, .int .i64 frag, .int .i64 ttl, .int .i64 pr, .int .u32 src, .int .u32 dst, .string (strOfNums os)] 30 _ rfl) hb)
    go_wp2
    go_ret
    exact ⟨rfl, (below1 w _).trans (hb.mono (by simp))⟩

theorem andNat (n m : Int) (M : Nat) (hM : (BitVec.ofInt 64 m).toNat = M) (hs : M < 4611686018427387904) : bits .and .i64 n m = (((BitVec.ofInt 64 n).toNat &&& M : Nat) : Int) := by
  show IntKind.i64.wrap ((BitVec.ofInt 64 n &&& BitVec.ofInt 64 m).toNat : Nat) = _
  have h := Nat.and_le_right (n := (BitVec.ofInt 64 n).toNat) (m := M)
  rw [BitVec.toNat_and, hM, IntKind.wrap_i64]
  omega
theorem whole_same (n : Int) : ((bits .and .i64 n 8191 == 0) && (bits .and .i64 n 8192 == 0)) = (bits .and .i64 n 16383 == 0) := by
  rw [andNat n 8191 8191 (by decide) (by omega), andNat n 8192 8192 (by decide) (by omega), andNat n 16383 16383 (by decide) (by omega), show (16383 : Nat) = 8191 ||| 8192 from by decide, Nat.and_or_distrib_left]
  generalize (BitVec.ofInt 64 n).toNat &&& 8191 = x
  generalize (BitVec.ofInt 64 n).toNat &&& 8192 = y
  have := Nat.or_eq_zero_iff (n := x) (m := y)
  rw [Bool.eq_iff_iff]
  simp only [Bool.and_eq_true, beq_iff_eq, Int.natCast_eq_zero]
  exact this.symm
end Go.Proofs.YthodjgaaojmihaaDoor.Ip
namespace Go.Proofs.YthodjgaaojmihaaDoor
open Go.RowKit
def wholeB (fr : Int) : Bool := bits .and .i64 fr 16383 == 0
theorem ipwhole_any (tos id fr ttl pr src dst : Int) (io : List Int) (w : World) : Calls Tryd.prog 12 #[.agg #[.int .i64 tos, .int .i64 id, .int .i64 fr, .int .i64 ttl, .int .i64 pr, .int .u32 src, .int .u32 dst, .string (strOfNums io)]] w fun e w' => e = .returned (.bool (wholeB fr)) ∧ Below w.heap.size w w' := by
  have := Ip.ip_Whole_any tos id fr ttl pr src dst io w
  rw [Ip.whole_same] at this
  exact this
def zeroPk : Array Value := #[.int .u64 0, .int .u64 0, .bool false, .int .i64 0, .int .i64 0, .bool false, .int .i64 0, .int .u64 0, .int .u32 0, .int .u64 0, .int .u32 0, .bool false, .int .i64 0, .int .i64 0, .int .i64 0, .int .i64 0, .int .i64 0, .int .u32 0, .int .u32 0, .string ⟨#[]⟩, .int .i64 0, .int .i64 0, .int .i64 0, .int .u32 0, .int .i64 0, .int .i64 0, .bool false, .int .u32 0, .int .u32 0, .int .i64 0, .int .i64 0, .int .i64 0, .string ⟨#[]⟩, .string ⟨#[]⟩, .string ⟨#[]⟩, .string ⟨#[]⟩]
end Go.Proofs.YthodjgaaojmihaaDoor
