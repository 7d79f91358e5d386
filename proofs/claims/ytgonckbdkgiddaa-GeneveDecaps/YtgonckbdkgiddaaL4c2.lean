/- The document's Check of packets of kind 2. Conditions: options and data of at most 2^47 bytes. -/
import Derived.Test.YtgonckbdkgiddaaL4ca
namespace Go.Proofs.Ytgonckbdkgiddaa
open Go.RowKit
set_option linter.unusedSimpArgs false
set_option maxRecDepth 20000 in
set_option maxHeartbeats 8000000 in
theorem rcheck2_a (ty co re sp dp : Int) (ns : Bool) (sq ak fl wi ur : Int) (os ds : List Int) (w : World) (hd : ds.length ≤ 140737488355328) (ho : os.length ≤ 140737488355328) (hq : ∀ W, (binOp .neq 48 (.agg #[.int .i64 2, .int .i64 ty, .int .i64 co, .int .u32 re, .int .i64 sp, .int .i64 dp, .bool ns, .int .u32 sq, .int .u32 ak, .int .i64 fl, .int .i64 wi, .int .i64 ur, .string (strOfNums os), .string (strOfNums ds)]) (.agg #[.int .i64 2, .int .i64 0, .int .i64 0, .int .u32 0, .int .i64 sp, .int .i64 dp, .bool ns, .int .u32 0, .int .u32 0, .int .i64 0, .int .i64 0, .int .i64 0, .string ⟨#[]⟩, .string (strOfNums ds)])).run Try.prog W = .ok (.bool true) W) :
    Calls Try.prog 47 #[.agg #[.int .i64 2, .int .i64 ty, .int .i64 co, .int .u32 re, .int .i64 sp, .int .i64 dp, .bool ns, .int .u32 sq, .int .u32 ak, .int .i64 fl, .int .i64 wi, .int .i64 ur, .string (strOfNums os), .string (strOfNums ds)]] w fun e w' => e = .returned (.int .i64 (1)) ∧ Below w.heap.size w w' := by
  have hs1 := strOfNums_size os
  have hs2 := strOfNums_size ds
  have hI1 : (os.length : Int) ≤ 140737488355328 := by omega
  have hI2 : (ds.length : Int) ≤ 140737488355328 := by omega
  go_enter Try.func47, Try.ntmps47
  go_wp2_with fail
  go_region
  go_wp2_with fail
  go_ret
  exact ⟨rfl, (below2 w _ _).drew⟩
set_option maxRecDepth 20000 in
set_option maxHeartbeats 8000000 in
theorem rcheck2_b (ty co re sp dp : Int) (ns : Bool) (sq ak fl wi ur : Int) (os ds : List Int) (w : World) (hd : ds.length ≤ 140737488355328) (ho : os.length ≤ 140737488355328) (hq : ∀ W, (binOp .neq 48 (.agg #[.int .i64 2, .int .i64 ty, .int .i64 co, .int .u32 re, .int .i64 sp, .int .i64 dp, .bool ns, .int .u32 sq, .int .u32 ak, .int .i64 fl, .int .i64 wi, .int .i64 ur, .string (strOfNums os), .string (strOfNums ds)]) (.agg #[.int .i64 2, .int .i64 0, .int .i64 0, .int .u32 0, .int .i64 sp, .int .i64 dp, .bool ns, .int .u32 0, .int .u32 0, .int .i64 0, .int .i64 0, .int .i64 0, .string ⟨#[]⟩, .string (strOfNums ds)])).run Try.prog W = .ok (.bool false) W) :
    Calls Try.prog 47 #[.agg #[.int .i64 2, .int .i64 ty, .int .i64 co, .int .u32 re, .int .i64 sp, .int .i64 dp, .bool ns, .int .u32 sq, .int .u32 ak, .int .i64 fl, .int .i64 wi, .int .i64 ur, .string (strOfNums os), .string (strOfNums ds)]] w fun e w' => e = .returned (.int .i64 (if rOk (toB ty 255) (toB co 255) (toB sp 65535) (toB dp 65535) (toB wi 65535) (toB ur 65535) (toB fl 4095) os.length ds.length 8 then (0 : Int) else 1)) ∧ Below w.heap.size w w' := by
  have hs1 := strOfNums_size os
  have hs2 := strOfNums_size ds
  have hI1 : (os.length : Int) ≤ 140737488355328 := by omega
  have hI2 : (ds.length : Int) ≤ 140737488355328 := by omega
  obtain ⟨t0, ht0⟩ : ∃ t, toB ty 255 = t := ⟨_, rfl⟩
  obtain ⟨t1, ht1⟩ : ∃ t, toB co 255 = t := ⟨_, rfl⟩
  obtain ⟨t2, ht2⟩ : ∃ t, toB sp 65535 = t := ⟨_, rfl⟩
  obtain ⟨t3, ht3⟩ : ∃ t, toB dp 65535 = t := ⟨_, rfl⟩
  obtain ⟨t4, ht4⟩ : ∃ t, toB wi 65535 = t := ⟨_, rfl⟩
  obtain ⟨t5, ht5⟩ : ∃ t, toB ur 65535 = t := ⟨_, rfl⟩
  obtain ⟨t6, ht6⟩ : ∃ t, toB fl 4095 = t := ⟨_, rfl⟩
  rw [ht0, ht1, ht2, ht3, ht4, ht5, ht6]
  obtain ⟨R, hR⟩ : ∃ R : Int, (if rOk t0 t1 t2 t3 t4 t5 t6 os.length ds.length 8 then (0 : Int) else 1) = R := ⟨_, rfl⟩
  rw [hR]
  have HR : Hid _ := hR
  clear hR
  go_enter Try.func47, Try.ntmps47
  go_wp2_with fail
  go_region
  go_wp2_with fail
  refine (to_any _ _ _).mono ?_
  rintro e w' ⟨rfl, hw'⟩
  rw [hw', ht0]
  clear hw'
  cases t0
  · go_wp2
    go_ret
    exact ⟨by rw [← HR.out]; rfl, (below2 w _ _).drew⟩
  go_wp2_with fail
  refine (to_any _ _ _).mono ?_
  rintro e w' ⟨rfl, hw'⟩
  rw [hw', ht1]
  clear hw'
  cases t1
  · go_wp2
    go_ret
    exact ⟨by rw [← HR.out]; rfl, (below2 w _ _).drew⟩
  go_wp2_with fail
  refine (to_any _ _ _).mono ?_
  rintro e w' ⟨rfl, hw'⟩
  rw [hw', ht2]
  clear hw'
  cases t2
  · go_wp2
    go_ret
    exact ⟨by rw [← HR.out]; rfl, (below2 w _ _).drew⟩
  go_wp2_with fail
  refine (to_any _ _ _).mono ?_
  rintro e w' ⟨rfl, hw'⟩
  rw [hw', ht3]
  clear hw'
  cases t3
  · go_wp2
    go_ret
    exact ⟨by rw [← HR.out]; rfl, (below2 w _ _).drew⟩
  go_wp2_with fail
  refine (to_any _ _ _).mono ?_
  rintro e w' ⟨rfl, hw'⟩
  rw [hw', ht4]
  clear hw'
  cases t4
  · go_wp2
    go_ret
    exact ⟨by rw [← HR.out]; rfl, (below2 w _ _).drew⟩
  go_wp2_with fail
  refine (to_any _ _ _).mono ?_
  rintro e w' ⟨rfl, hw'⟩
  rw [hw', ht5]
  clear hw'
  cases t5
  · go_wp2
    go_ret
    exact ⟨by rw [← HR.out]; rfl, (below2 w _ _).drew⟩
  go_wp2_with fail
  refine (to_any _ _ _).mono ?_
  rintro e w' ⟨rfl, hw'⟩
  rw [hw', ht6]
  clear hw'
  cases t6
  · go_wp2
    go_ret
    exact ⟨by rw [← HR.out]; rfl, (below2 w _ _).drew⟩
  by_cases h40 : 40 < os.length
  · have HR1 : Hid (R = 1) := by show R = 1; rw [← HR.out]; simp [rOk, h40]
    have h41 : (40 : Int) < os.length := by omega
    go_wp2
    go_ret
    exact ⟨by rw [HR1.out]; rfl, (below2 w _ _).drew⟩
  by_cases hr : (os.length : Int) % 4 = 0
  · by_cases hz : 65515 - 8 < (ds.length : Int)
    · have HR1 : Hid (R = 1) := by show R = 1; rw [← HR.out]; unfold rOk; rw [decide_eq_true hz]; simp
      have hr2 : ((os.length : Int).tmod 4 != 0) = false := by rw [Int.tmod_eq_emod_of_nonneg (by omega)]; simp [hr]
      have h41 : ¬ (40 : Int) < os.length := by omega
      go_wp2
      go_ret
      exact ⟨by rw [HR1.out]; rfl, (below2 w _ _).drew⟩
    · have HR1 : Hid (R = 0) := by show R = 0; rw [← HR.out]; unfold rOk; rw [decide_eq_false hz, decide_eq_false h40, hr]; rfl
      have hr2 : ((os.length : Int).tmod 4 != 0) = false := by rw [Int.tmod_eq_emod_of_nonneg (by omega)]; simp [hr]
      have h41 : ¬ (40 : Int) < os.length := by omega
      go_wp2
      go_ret
      exact ⟨by rw [HR1.out]; rfl, (below2 w _ _).drew⟩
  · have HR1 : Hid (R = 1) := by show R = 1; rw [← HR.out]; simp [rOk, hr]
    have hr2 : ((os.length : Int).tmod 4 != 0) = true := by rw [Int.tmod_eq_emod_of_nonneg (by omega)]; simp [hr]
    have h41 : ¬ (40 : Int) < os.length := by omega
    go_wp2
    go_ret
    exact ⟨by rw [HR1.out]; rfl, (below2 w _ _).drew⟩
end Go.Proofs.Ytgonckbdkgiddaa
