/- Check of package l4 of every packet. Conditions: options and data of at most 2^47 bytes. -/
import Derived.Test.YtgonckbdkgiddaaL4x0
import Derived.Test.YtgonckbdkgiddaaL4x1
import Derived.Test.YtgonckbdkgiddaaL4x2
import Derived.Test.YtgonckbdkgiddaaL4x3a
import Derived.Test.YtgonckbdkgiddaaL4x3b
import Derived.Test.YtgonckbdkgiddaaL4x3c
import Derived.Test.YtgonckbdkgiddaaL4x3d
import Derived.Test.YtgonckbdkgiddaaL4x3e
import Derived.Test.YtgonckbdkgiddaaL4x3f
namespace Go.Proofs.Ytgonckbdkgiddaa
open Go.RowKit
attribute [local go_sem ↓] Go.wp_at_zero Go.wp_at_succ
set_option maxHeartbeats 2000000 in
set_option maxRecDepth 20000 in
theorem check_none (k ty co re sp dp : Int) (ns : Bool) (sq ak fl wi ur : Int) (os ds : List Int) (w : World) (h0 : (k == 0) = false) (h1 : (k == 1) = false) (h2 : (k == 2) = false) (h3 : (k == 3) = false) :
    Calls Try.prog 38 #[l4V k ty co re sp dp ns sq ak fl wi ur os ds] w fun e w' => e = .returned (.int .i64 1) ∧ Below w.heap.size w w' := by
  unfold l4V
  go_enter Try.func38, Try.ntmps38
  go_wp2_with fail
  refine scope_from ?_
  go_wp2_with fail
  go_step3
  show FromLabel _ _ _ _ _ _
  refine from_label rfl ?_
  go_wp2_with fail
  simp only [Exit.jumpTo]
  go_ret
  exact ⟨rfl, below2 w _ _⟩
theorem l4check_any (k ty co re sp dp : Int) (ns : Bool) (sq ak fl wi ur : Int) (os ds : List Int) (w : World) (hd : ds.length ≤ 140737488355328) :
    Calls Try.prog 38 #[l4V k ty co re sp dp ns sq ak fl wi ur os ds] w fun e w' => e = .returned (.int .i64 (if l4Ok k ty co re sp dp ns sq ak fl wi ur (strOfNums os) (strOfNums ds) = true then 0 else 1)) ∧ Below w.heap.size w w' := by
  have s1 := strOfNums_size os
  have s2 := strOfNums_size ds
  by_cases e0 : k = 0
  · subst e0
    have hq : ∀ W, (binOp .neq 48 (.agg #[.int .i64 0, .int .i64 ty, .int .i64 co, .int .u32 re, .int .i64 sp, .int .i64 dp, .bool ns, .int .u32 sq, .int .u32 ak, .int .i64 fl, .int .i64 wi, .int .i64 ur, .string (strOfNums os), .string (strOfNums ds)]) (.agg #[.int .i64 0, .int .i64 0, .int .i64 0, .int .u32 0, .int .i64 0, .int .i64 0, .bool false, .int .u32 0, .int .u32 0, .int .i64 0, .int .i64 0, .int .i64 0, .string ⟨#[]⟩, .string (strOfNums ds)])).run Try.prog W = .ok (.bool (!ownOk 0 ty co re sp dp ns sq ak fl wi ur (strOfNums os))) W := fun W => by
      rw [neq14]
      congr 3
      simp [ownOk]
    unfold l4Ok
    cases ho : ownOk 0 ty co re sp dp ns sq ak fl wi ur (strOfNums os)
    · rw [ho] at hq
      exact check0_a ty co re sp dp ns sq ak fl wi ur os ds w hq
    rw [ho] at hq
    cases hn : numsOk ty co sp dp fl wi ur
    · exact check0_b ty co re sp dp ns sq ak fl wi ur os ds w hq hn
    by_cases h40 : 40 < os.length
    · rw [decide_eq_true (by omega)]
      exact check0_c ty co re sp dp ns sq ak fl wi ur os ds w hq hn h40
    rw [decide_eq_false (by omega : ¬ 40 < (strOfNums os).size), s1, s2]
    cases hr : ((os.length : Int) % 4 != 0)
    · by_cases ht : 65515 < fixV 0 + os.length + ds.length
      · rw [decide_eq_true ht]
        exact check0_e ty co re sp dp ns sq ak fl wi ur os ds w hq hn (by omega) hr hd ht
      · rw [decide_eq_false ht]
        exact check0_f ty co re sp dp ns sq ak fl wi ur os ds w hq hn (by omega) hr hd ht
    · exact check0_d ty co re sp dp ns sq ak fl wi ur os ds w hq hn (by omega) hr
  by_cases e1 : k = 1
  · subst e1
    have hq : ∀ W, (binOp .neq 48 (.agg #[.int .i64 1, .int .i64 ty, .int .i64 co, .int .u32 re, .int .i64 sp, .int .i64 dp, .bool ns, .int .u32 sq, .int .u32 ak, .int .i64 fl, .int .i64 wi, .int .i64 ur, .string (strOfNums os), .string (strOfNums ds)]) (.agg #[.int .i64 1, .int .i64 ty, .int .i64 co, .int .u32 re, .int .i64 0, .int .i64 0, .bool false, .int .u32 0, .int .u32 0, .int .i64 0, .int .i64 0, .int .i64 0, .string ⟨#[]⟩, .string (strOfNums ds)])).run Try.prog W = .ok (.bool (!ownOk 1 ty co re sp dp ns sq ak fl wi ur (strOfNums os))) W := fun W => by
      rw [neq14]
      congr 3
      simp [ownOk]
    unfold l4Ok
    cases ho : ownOk 1 ty co re sp dp ns sq ak fl wi ur (strOfNums os)
    · rw [ho] at hq
      exact check1_a ty co re sp dp ns sq ak fl wi ur os ds w hq
    rw [ho] at hq
    cases hn : numsOk ty co sp dp fl wi ur
    · exact check1_b ty co re sp dp ns sq ak fl wi ur os ds w hq hn
    by_cases h40 : 40 < os.length
    · rw [decide_eq_true (by omega)]
      exact check1_c ty co re sp dp ns sq ak fl wi ur os ds w hq hn h40
    rw [decide_eq_false (by omega : ¬ 40 < (strOfNums os).size), s1, s2]
    cases hr : ((os.length : Int) % 4 != 0)
    · by_cases ht : 65515 < fixV 1 + os.length + ds.length
      · rw [decide_eq_true ht]
        exact check1_e ty co re sp dp ns sq ak fl wi ur os ds w hq hn (by omega) hr hd ht
      · rw [decide_eq_false ht]
        exact check1_f ty co re sp dp ns sq ak fl wi ur os ds w hq hn (by omega) hr hd ht
    · exact check1_d ty co re sp dp ns sq ak fl wi ur os ds w hq hn (by omega) hr
  by_cases e2 : k = 2
  · subst e2
    have hq : ∀ W, (binOp .neq 48 (.agg #[.int .i64 2, .int .i64 ty, .int .i64 co, .int .u32 re, .int .i64 sp, .int .i64 dp, .bool ns, .int .u32 sq, .int .u32 ak, .int .i64 fl, .int .i64 wi, .int .i64 ur, .string (strOfNums os), .string (strOfNums ds)]) (.agg #[.int .i64 2, .int .i64 0, .int .i64 0, .int .u32 0, .int .i64 sp, .int .i64 dp, .bool ns, .int .u32 0, .int .u32 0, .int .i64 0, .int .i64 0, .int .i64 0, .string ⟨#[]⟩, .string (strOfNums ds)])).run Try.prog W = .ok (.bool (!ownOk 2 ty co re sp dp ns sq ak fl wi ur (strOfNums os))) W := fun W => by
      rw [neq14]
      congr 3
      simp [ownOk]
    unfold l4Ok
    cases ho : ownOk 2 ty co re sp dp ns sq ak fl wi ur (strOfNums os)
    · rw [ho] at hq
      exact check2_a ty co re sp dp ns sq ak fl wi ur os ds w hq
    rw [ho] at hq
    cases hn : numsOk ty co sp dp fl wi ur
    · exact check2_b ty co re sp dp ns sq ak fl wi ur os ds w hq hn
    by_cases h40 : 40 < os.length
    · rw [decide_eq_true (by omega)]
      exact check2_c ty co re sp dp ns sq ak fl wi ur os ds w hq hn h40
    rw [decide_eq_false (by omega : ¬ 40 < (strOfNums os).size), s1, s2]
    cases hr : ((os.length : Int) % 4 != 0)
    · by_cases ht : 65515 < fixV 2 + os.length + ds.length
      · rw [decide_eq_true ht]
        exact check2_e ty co re sp dp ns sq ak fl wi ur os ds w hq hn (by omega) hr hd ht
      · rw [decide_eq_false ht]
        exact check2_f ty co re sp dp ns sq ak fl wi ur os ds w hq hn (by omega) hr hd ht
    · exact check2_d ty co re sp dp ns sq ak fl wi ur os ds w hq hn (by omega) hr
  by_cases e3 : k = 3
  · subst e3
    have hq : ∀ W, (binOp .neq 48 (.agg #[.int .i64 3, .int .i64 ty, .int .i64 co, .int .u32 re, .int .i64 sp, .int .i64 dp, .bool ns, .int .u32 sq, .int .u32 ak, .int .i64 fl, .int .i64 wi, .int .i64 ur, .string (strOfNums os), .string (strOfNums ds)]) (.agg #[.int .i64 3, .int .i64 0, .int .i64 0, .int .u32 0, .int .i64 sp, .int .i64 dp, .bool false, .int .u32 sq, .int .u32 ak, .int .i64 fl, .int .i64 wi, .int .i64 ur, .string (strOfNums os), .string (strOfNums ds)])).run Try.prog W = .ok (.bool (!ownOk 3 ty co re sp dp ns sq ak fl wi ur (strOfNums os))) W := fun W => by
      rw [neq14]
      congr 3
      simp [ownOk]
    unfold l4Ok
    cases ho : ownOk 3 ty co re sp dp ns sq ak fl wi ur (strOfNums os)
    · rw [ho] at hq
      exact check3_a ty co re sp dp ns sq ak fl wi ur os ds w hq
    rw [ho] at hq
    cases hn : numsOk ty co sp dp fl wi ur
    · exact check3_b ty co re sp dp ns sq ak fl wi ur os ds w hq hn
    by_cases h40 : 40 < os.length
    · rw [decide_eq_true (by omega)]
      exact check3_c ty co re sp dp ns sq ak fl wi ur os ds w hq hn h40
    rw [decide_eq_false (by omega : ¬ 40 < (strOfNums os).size), s1, s2]
    cases hr : ((os.length : Int) % 4 != 0)
    · by_cases ht : 65515 < fixV 3 + os.length + ds.length
      · rw [decide_eq_true ht]
        exact check3_e ty co re sp dp ns sq ak fl wi ur os ds w hq hn (by omega) hr hd ht
      · rw [decide_eq_false ht]
        exact check3_f ty co re sp dp ns sq ak fl wi ur os ds w hq hn (by omega) hr hd ht
    · exact check3_d ty co re sp dp ns sq ak fl wi ur os ds w hq hn (by omega) hr
  · have hn : l4Ok k ty co re sp dp ns sq ak fl wi ur (strOfNums os) (strOfNums ds) = false := by
      simp [l4Ok, ownOk, e0, e1, e2, e3]
    rw [hn]
    exact check_none k ty co re sp dp ns sq ak fl wi ur os ds w (by simp [e0]) (by simp [e1]) (by simp [e2]) (by simp [e3])
end Go.Proofs.Ytgonckbdkgiddaa
