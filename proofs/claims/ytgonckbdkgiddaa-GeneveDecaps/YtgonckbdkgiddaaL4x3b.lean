/- Check of package l4 of packets of kind 3. Conditions: options and data of at most 2^47 bytes. -/
import Derived.Test.YtgonckbdkgiddaaL4x3p
namespace Go.Proofs.Ytgonckbdkgiddaa
open Go.RowKit
attribute [local go_sem ↓] Go.wp_at_zero Go.wp_at_succ
set_option maxHeartbeats 2000000 in
set_option maxRecDepth 20000 in
theorem check3_b (ty co re sp dp : Int) (ns : Bool) (sq ak fl wi ur : Int) (os ds : List Int) (w : World) (hq : ∀ W, (binOp .neq 48 (.agg #[.int .i64 3, .int .i64 ty, .int .i64 co, .int .u32 re, .int .i64 sp, .int .i64 dp, .bool ns, .int .u32 sq, .int .u32 ak, .int .i64 fl, .int .i64 wi, .int .i64 ur, .string (strOfNums os), .string (strOfNums ds)]) (.agg #[.int .i64 3, .int .i64 0, .int .i64 0, .int .u32 0, .int .i64 sp, .int .i64 dp, .bool false, .int .u32 sq, .int .u32 ak, .int .i64 fl, .int .i64 wi, .int .i64 ur, .string (strOfNums os), .string (strOfNums ds)])).run Try.prog W = .ok (.bool false) W) (hn : numsOk ty co sp dp fl wi ur = false) :
    Calls Try.prog 38 #[l4V 3 ty co re sp dp ns sq ak fl wi ur os ds] w fun e w' => e = .returned (.int .i64 1) ∧ Below w.heap.size w w' := by
  rw [l4v_3]
  obtain ⟨hB0, hA0⟩ := below_3 ty co re sp dp ns sq ak fl wi ur os ds w
  have HB0 : Hid _ := hB0
  have HA0 : Hid _ := hA0
  clear hB0 hA0
  go_enter Try.func38, Try.ntmps38
  go_wp2_with fail
  refine scope_from ?_
  go_wp2_with fail
  go_region
  go_wp2_with fail
  go_region
  go_wp2_with fail
  rw [← l4v_3]
  refine (nums_any _ _ _ _ _ _ _ _ _ _ _ _ _ _ _).mono ?_
  rw [hn, l4v_3]
  rintro e W2 ⟨rfl, hb2⟩
  have HA2 : Hid _ := AtB.below HA0.out hb2
  have HB2 : Hid (Below w.heap.size w W2) := HB0.out.trans (hb2.mono HB0.out.size)
  obtain ⟨x0, x1, x2, x3, x4, x5, x6, x7, x8, x9, x10, x11, x12, x13⟩ := AtB.cells14 HA2.out
  clear hb2
  go_wp2_with fail
  go_step3
  show FromLabel _ _ _ _ _ _
  refine from_label rfl ?_
  go_wp2_with fail
  simp only [Exit.jumpTo]
  go_ret
  exact ⟨rfl, HB2.out⟩


end Go.Proofs.Ytgonckbdkgiddaa
