/- Same of the laws of geneve is true of the same tunnel. Conditions: the options can be read. -/
import Derived.Test.YtgonckbdkgiddaaQH
import Derived.Deep.QuietTactic
namespace Go.Proofs.Ytgonckbdkgiddaa
open Go.RowKit
set_option maxRecDepth 20000
set_option linter.unusedSimpArgs false
set_option maxHeartbeats 4000000 in
theorem same_any (src dst sp vni : Int) (oam : Bool) (s : ByteArray) (a1 a2 : Option Addr) (n c1 c2 : Nat) (os : List Opt) (w : World) (h1 : OS w a1 n os) (h2 : OS w a2 n os) :
    Calls Try.prog 11 #[.agg #[.int .u32 src, .int .u32 dst, .int .i64 sp, .int .i64 vni, .bool oam, .slice a1 n c1, .string s], .agg #[.int .u32 src, .int .u32 dst, .int .i64 sp, .int .i64 vni, .bool oam, .slice a2 n c2, .string s]] w fun e w' => e = .returned (.bool true) ∧ Below w.heap.size w w' := by
  have H1 : Hid _ := h1
  have H2 : Hid _ := h2
  have hr := h1.room
  have e1 : (src != src) = false := by simp
  have e2 : (dst != dst) = false := by simp
  have e3 : (sp != sp) = false := by simp
  have e4 : (vni != vni) = false := by simp
  have e5 : (oam != oam) = false := by simp
  have e6 : (s.toList == s.toList) = true := by simp
  have B0 : Hid (Below w.heap.size w ((w.alloc (.cells #[.int .u32 src, .int .u32 dst, .int .i64 sp, .int .i64 vni, .bool oam, .slice a1 n c1, .string s] 25)).alloc (.cells #[.int .u32 src, .int .u32 dst, .int .i64 sp, .int .i64 vni, .bool oam, .slice a2 n c2, .string s] 25))) := below2 w _ _
  clear h1 h2
  go_enter Try.func11, Try.ntmps11
  go_wp2_with fail
  go_loopw [5] (fun i wr => ∃ k nq : Nat, k ≤ n ∧ i = .int .i64 k ∧ wr = World.drewN ((w.alloc (.cells #[.int .u32 src, .int .u32 dst, .int .i64 sp, .int .i64 vni, .bool oam, .slice a1 n c1, .string s] 25)).alloc (.cells #[.int .u32 src, .int .u32 dst, .int .i64 sp, .int .i64 vni, .bool oam, .slice a2 n c2, .string s] 25)) nq) (fun i _ => n - (intOf i).toNat)
  case atStart => exact ⟨0, 0, by omega, rfl, rfl⟩
  case round =>
    obtain ⟨k, nq, hk, rfl, rfl⟩ := hrel
    by_cases hlt : k = n
    · have e0 : ¬ (k : Int) < (n : Int) := by omega
      clear hlt
      go_wp2
      go_ret
      exact ⟨rfl, below_drewN B0.out _⟩
    · have hkI : (k : Int) < (n : Int) := by omega
      obtain ⟨o, b1, o1, ho, rfl, c0, c1', c2', hbl1, _⟩ := os_cell (H1.out.below B0.out) (show k < n by omega)
      obtain ⟨o', b2, o2, ho2, rfl, d0, d1, d2, hbl2, _⟩ := os_cell (H2.out.below B0.out) (show k < n by omega)
      obtain rfl : o = o' := by rw [ho] at ho2; exact Option.some.inj ho2
      generalize o.cls = oc at *
      generalize o.code = od at *
      generalize strOfNums o.data = ds at *
      have hneq : ∀ W, (binOp .neq 38 (.agg #[.int .i64 oc, .int .i64 od, .string ds]) (.agg #[.int .i64 oc, .int .i64 od, .string ds])).run Try.prog W = .ok (.bool false) W := fun W => by simp [go_sem]
      clear ho ho2
      go_wp2_with fail
      go_quiet (fail)
      go_wp2
      go_roundw
      case rel => exact ⟨k + 1, _, by omega, by go_num, rfl⟩
      case measure => simp [intOf]; omega
end Go.Proofs.Ytgonckbdkgiddaa
