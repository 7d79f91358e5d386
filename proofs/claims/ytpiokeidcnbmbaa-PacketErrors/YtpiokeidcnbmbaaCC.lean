/- Parts of the proof, in one text. -/
import Derived.Test.YtpiokeidcnbmbaaL4ca
import Derived.BigRegion
namespace Go.Proofs.Ytpiokeidcnbmbaa
open Go.RowKit
set_option linter.unusedSimpArgs false
set_option maxRecDepth 20000 in
set_option maxHeartbeats 8000000 in
theorem rcheck2_a (ty co re sp dp : Int) (ns : Bool) (sq ak fl wi ur : Int) (os ds : List Int) (w : World) (hd : ds.length ≤ 140737488355328) (ho : os.length ≤ 140737488355328) (hq : ∀ W, (binOp .neq 32 (.agg #[.int .i64 2, .int .i64 ty, .int .i64 co, .int .u32 re, .int .i64 sp, .int .i64 dp, .bool ns, .int .u32 sq, .int .u32 ak, .int .i64 fl, .int .i64 wi, .int .i64 ur, .string (strOfNums os), .string (strOfNums ds)]) (.agg #[.int .i64 2, .int .i64 0, .int .i64 0, .int .u32 0, .int .i64 sp, .int .i64 dp, .bool ns, .int .u32 0, .int .u32 0, .int .i64 0, .int .i64 0, .int .i64 0, .string ⟨#[]⟩, .string (strOfNums ds)])).run Try.prog W = .ok (.bool true) W) :
    Calls Try.prog 66 #[.agg #[.int .i64 2, .int .i64 ty, .int .i64 co, .int .u32 re, .int .i64 sp, .int .i64 dp, .bool ns, .int .u32 sq, .int .u32 ak, .int .i64 fl, .int .i64 wi, .int .i64 ur, .string (strOfNums os), .string (strOfNums ds)]] w fun e w' => e = .returned (.int .i64 (1)) ∧ Below w.heap.size w w' := by
  have hs1 := strOfNums_size os
  have hs2 := strOfNums_size ds
  have hI1 : (os.length : Int) ≤ 140737488355328 := by omega
  have hI2 : (ds.length : Int) ≤ 140737488355328 := by omega
  go_enter Try.func66, Try.ntmps66
  go_wp2_with fail
  go_region
  go_wp2_with fail
  go_ret
  exact ⟨rfl, (below2 w _ _).drew⟩
set_option maxRecDepth 20000 in
set_option maxHeartbeats 8000000 in
theorem rcheck2_b (ty co re sp dp : Int) (ns : Bool) (sq ak fl wi ur : Int) (os ds : List Int) (w : World) (hd : ds.length ≤ 140737488355328) (ho : os.length ≤ 140737488355328) (hq : ∀ W, (binOp .neq 32 (.agg #[.int .i64 2, .int .i64 ty, .int .i64 co, .int .u32 re, .int .i64 sp, .int .i64 dp, .bool ns, .int .u32 sq, .int .u32 ak, .int .i64 fl, .int .i64 wi, .int .i64 ur, .string (strOfNums os), .string (strOfNums ds)]) (.agg #[.int .i64 2, .int .i64 0, .int .i64 0, .int .u32 0, .int .i64 sp, .int .i64 dp, .bool ns, .int .u32 0, .int .u32 0, .int .i64 0, .int .i64 0, .int .i64 0, .string ⟨#[]⟩, .string (strOfNums ds)])).run Try.prog W = .ok (.bool false) W) :
    Calls Try.prog 66 #[.agg #[.int .i64 2, .int .i64 ty, .int .i64 co, .int .u32 re, .int .i64 sp, .int .i64 dp, .bool ns, .int .u32 sq, .int .u32 ak, .int .i64 fl, .int .i64 wi, .int .i64 ur, .string (strOfNums os), .string (strOfNums ds)]] w fun e w' => e = .returned (.int .i64 (if rOk (toB ty 255) (toB co 255) (toB sp 65535) (toB dp 65535) (toB wi 65535) (toB ur 65535) (toB fl 4095) os.length ds.length 8 then (0 : Int) else 1)) ∧ Below w.heap.size w w' := by
  have hs1 := strOfNums_size os
  have hs2 := strOfNums_size ds
  have hI1 : (os.length : Int) ≤ 140737488355328 := by omega
  have hI2 : (ds.length : Int) ≤ 140737488355328 := by omega
  obtain ⟨t0, ht0⟩ : ∃ t, toB ty 255 = t := ⟨_, rfl⟩
  obtain ⟨t1, ht1⟩ : ∃ t, toB co 255 = t := ⟨_, rfl⟩
  obtain ⟨t2, ht2⟩ : ∃ t, toB sp 65535 = t := ⟨_, rfl⟩
  obtain ⟨t3, ht3⟩ : ∃ t, toB dp 65535 = t := ⟨_, rfl⟩
  obtain ⟨t4, ht4⟩ : ∃ t, toB wi 65535 = t := ⟨_, rfl⟩
  obtain ⟨t5, ht5⟩ : ∃ t, toB ur 65535 = t := ⟨_, rfl⟩
  obtain ⟨t6, ht6⟩ : ∃ t, toB fl 4095 = t := ⟨_, rfl⟩
  rw [ht0, ht1, ht2, ht3, ht4, ht5, ht6]
  obtain ⟨R, hR⟩ : ∃ R : Int, (if rOk t0 t1 t2 t3 t4 t5 t6 os.length ds.length 8 then (0 : Int) else 1) = R := ⟨_, rfl⟩
  rw [hR]
  have HR : Hid _ := hR
  clear hR
  go_enter Try.func66, Try.ntmps66
  go_wp2_with fail
  go_region
  go_wp2_with fail
  refine (to_any _ _ _).mono ?_
  rintro e w' ⟨rfl, hw'⟩
  rw [hw', ht0]
  clear hw'
  cases t0
  · go_wp2
    go_ret
    exact ⟨by rw [← HR.out]; rfl, (below2 w _ _).drew⟩
  go_wp2_with fail
  refine (to_any _ _ _).mono ?_
  rintro e w' ⟨rfl, hw'⟩
  rw [hw', ht1]
  clear hw'
  cases t1
  · go_wp2
    go_ret
    exact ⟨by rw [← HR.out]; rfl, (below2 w _ _).drew⟩
  go_wp2_with fail
  refine (to_any _ _ _).mono ?_
  rintro e w' ⟨rfl, hw'⟩
  rw [hw', ht2]
  clear hw'
  cases t2
  · go_wp2
    go_ret
    exact ⟨by rw [← HR.out]; rfl, (below2 w _ _).drew⟩
  go_wp2_with fail
  refine (to_any _ _ _).mono ?_
  rintro e w' ⟨rfl, hw'⟩
  rw [hw', ht3]
  clear hw'
  cases t3
  · go_wp2
    go_ret
    exact ⟨by rw [← HR.out]; rfl, (below2 w _ _).drew⟩
  go_wp2_with fail
  refine (to_any _ _ _).mono ?_
  rintro e w' ⟨rfl, hw'⟩
  rw [hw', ht4]
  clear hw'
  cases t4
  · go_wp2
    go_ret
    exact ⟨by rw [← HR.out]; rfl, (below2 w _ _).drew⟩
  go_wp2_with fail
  refine (to_any _ _ _).mono ?_
  rintro e w' ⟨rfl, hw'⟩
  rw [hw', ht5]
  clear hw'
  cases t5
  · go_wp2
    go_ret
    exact ⟨by rw [← HR.out]; rfl, (below2 w _ _).drew⟩
  go_wp2_with fail
  refine (to_any _ _ _).mono ?_
  rintro e w' ⟨rfl, hw'⟩
  rw [hw', ht6]
  clear hw'
  cases t6
  · go_wp2
    go_ret
    exact ⟨by rw [← HR.out]; rfl, (below2 w _ _).drew⟩
  by_cases h40 : 40 < os.length
  · have HR1 : Hid (R = 1) := by show R = 1; rw [← HR.out]; simp [rOk, h40]
    have h41 : (40 : Int) < os.length := by omega
    go_wp2
    go_ret
    exact ⟨by rw [HR1.out]; rfl, (below2 w _ _).drew⟩
  by_cases hr : (os.length : Int) % 4 = 0
  · by_cases hz : 65515 - 8 < (ds.length : Int)
    · have HR1 : Hid (R = 1) := by show R = 1; rw [← HR.out]; unfold rOk; rw [decide_eq_true hz]; simp
      have hr2 : ((os.length : Int).tmod 4 != 0) = false := by rw [Int.tmod_eq_emod_of_nonneg (by omega)]; simp [hr]
      have h41 : ¬ (40 : Int) < os.length := by omega
      go_wp2
      go_ret
      exact ⟨by rw [HR1.out]; rfl, (below2 w _ _).drew⟩
    · have HR1 : Hid (R = 0) := by show R = 0; rw [← HR.out]; unfold rOk; rw [decide_eq_false hz, decide_eq_false h40, hr]; rfl
      have hr2 : ((os.length : Int).tmod 4 != 0) = false := by rw [Int.tmod_eq_emod_of_nonneg (by omega)]; simp [hr]
      have h41 : ¬ (40 : Int) < os.length := by omega
      go_wp2
      go_ret
      exact ⟨by rw [HR1.out]; rfl, (below2 w _ _).drew⟩
  · have HR1 : Hid (R = 1) := by show R = 1; rw [← HR.out]; simp [rOk, hr]
    have hr2 : ((os.length : Int).tmod 4 != 0) = true := by rw [Int.tmod_eq_emod_of_nonneg (by omega)]; simp [hr]
    have h41 : ¬ (40 : Int) < os.length := by omega
    go_wp2
    go_ret
    exact ⟨by rw [HR1.out]; rfl, (below2 w _ _).drew⟩
end Go.Proofs.Ytpiokeidcnbmbaa

namespace Go.Proofs.Ytpiokeidcnbmbaa
open Go.RowKit
set_option linter.unusedSimpArgs false
set_option maxRecDepth 20000 in
set_option maxHeartbeats 8000000 in
theorem rcheck3_b (ty co re sp dp : Int) (ns : Bool) (sq ak fl wi ur : Int) (os ds : List Int) (w : World) (hd : ds.length ≤ 140737488355328) (ho : os.length ≤ 140737488355328) (hq : ∀ W, (binOp .neq 32 (.agg #[.int .i64 3, .int .i64 ty, .int .i64 co, .int .u32 re, .int .i64 sp, .int .i64 dp, .bool ns, .int .u32 sq, .int .u32 ak, .int .i64 fl, .int .i64 wi, .int .i64 ur, .string (strOfNums os), .string (strOfNums ds)]) (.agg #[.int .i64 3, .int .i64 0, .int .i64 0, .int .u32 0, .int .i64 sp, .int .i64 dp, .bool false, .int .u32 sq, .int .u32 ak, .int .i64 fl, .int .i64 wi, .int .i64 ur, .string (strOfNums os), .string (strOfNums ds)])).run Try.prog W = .ok (.bool false) W) :
    Calls Try.prog 66 #[.agg #[.int .i64 3, .int .i64 ty, .int .i64 co, .int .u32 re, .int .i64 sp, .int .i64 dp, .bool ns, .int .u32 sq, .int .u32 ak, .int .i64 fl, .int .i64 wi, .int .i64 ur, .string (strOfNums os), .string (strOfNums ds)]] w fun e w' => e = .returned (.int .i64 (if rOk (toB ty 255) (toB co 255) (toB sp 65535) (toB dp 65535) (toB wi 65535) (toB ur 65535) (toB fl 4095) os.length ds.length (20 + (os.length : Int)) then (0 : Int) else 1)) ∧ Below w.heap.size w w' := by
  have hs1 := strOfNums_size os
  have hs2 := strOfNums_size ds
  have hI1 : (os.length : Int) ≤ 140737488355328 := by omega
  have hI2 : (ds.length : Int) ≤ 140737488355328 := by omega
  obtain ⟨t0, ht0⟩ : ∃ t, toB ty 255 = t := ⟨_, rfl⟩
  obtain ⟨t1, ht1⟩ : ∃ t, toB co 255 = t := ⟨_, rfl⟩
  obtain ⟨t2, ht2⟩ : ∃ t, toB sp 65535 = t := ⟨_, rfl⟩
  obtain ⟨t3, ht3⟩ : ∃ t, toB dp 65535 = t := ⟨_, rfl⟩
  obtain ⟨t4, ht4⟩ : ∃ t, toB wi 65535 = t := ⟨_, rfl⟩
  obtain ⟨t5, ht5⟩ : ∃ t, toB ur 65535 = t := ⟨_, rfl⟩
  obtain ⟨t6, ht6⟩ : ∃ t, toB fl 4095 = t := ⟨_, rfl⟩
  rw [ht0, ht1, ht2, ht3, ht4, ht5, ht6]
  obtain ⟨R, hR⟩ : ∃ R : Int, (if rOk t0 t1 t2 t3 t4 t5 t6 os.length ds.length (20 + (os.length : Int)) then (0 : Int) else 1) = R := ⟨_, rfl⟩
  rw [hR]
  have HR : Hid _ := hR
  clear hR
  go_enter Try.func66, Try.ntmps66
  go_wp2_with fail
  have hSp : ∀ O, AtB (((w.alloc (.cells #[.int .i64 3, .int .i64 ty, .int .i64 co, .int .u32 re, .int .i64 sp, .int .i64 dp, .bool ns, .int .u32 sq, .int .u32 ak, .int .i64 fl, .int .i64 wi, .int .i64 ur, .string (strOfNums os), .string (strOfNums ds)] 32)).alloc (.cells O 32)).drew) w.heap.size #[.int .i64 3, .int .i64 ty, .int .i64 co, .int .u32 re, .int .i64 sp, .int .i64 dp, .bool ns, .int .u32 sq, .int .u32 ak, .int .i64 fl, .int .i64 wi, .int .i64 ur, .string (strOfNums os), .string (strOfNums ds)] := fun O => AtB.below (atB_new w #[.int .i64 3, .int .i64 ty, .int .i64 co, .int .u32 re, .int .i64 sp, .int .i64 dp, .bool ns, .int .u32 sq, .int .u32 ak, .int .i64 fl, .int .i64 wi, .int .i64 ur, .string (strOfNums os), .string (strOfNums ds)] 32 _ rfl) ((below1 _ _).drew)
  refine wp_region_held_drew (S := (fun W => AtB W w.heap.size #[.int .i64 3, .int .i64 ty, .int .i64 co, .int .u32 re, .int .i64 sp, .int .i64 dp, .bool ns, .int .u32 sq, .int .u32 ak, .int .i64 fl, .int .i64 wi, .int .i64 ur, .string (strOfNums os), .string (strOfNums ds)])) (by kernel_rfl) (hSp _) (fun hHeld => ?_)
  refine wpAnyH_take (i := 0) (v := ?_) rfl (by kernel_rfl) (by kernel_rfl) (by kernel_rfl) (fun _ _ _ h => h) (Or.inl ⟨by rfl, ?_⟩) (by assumption) ?_
  rotate_left
  · (intro w hSw; (try dsimp only at hSw); go_simp; try with_reducible rfl)
  try simp only [List.getElem_toArray, List.getElem_cons_zero, List.getElem_cons_succ, Act.put, List.setIfInBounds_toArray, List.set_cons_zero, List.set_cons_succ]
  refine wpAnyH_take (i := 1) (v := .int .i64 sp) rfl (by kernel_rfl) (by kernel_rfl) (by kernel_rfl) (fun _ _ _ h => h) (Or.inl ⟨by rfl, fun W hW => by obtain ⟨x0, x1, x2, x3, x4, x5, x6, x7, x8, x9, x10, x11, x12, x13⟩ := AtB.cells14 hW; go_simp⟩) (by assumption) ?_
  try simp only [List.getElem_toArray, List.getElem_cons_zero, List.getElem_cons_succ, Act.put, List.setIfInBounds_toArray, List.set_cons_zero, List.set_cons_succ]
  refine wpAnyH_take (i := 2) (v := ?_) rfl (by kernel_rfl) (by kernel_rfl) (by kernel_rfl) (fun _ _ _ h => h) (Or.inl ⟨by rfl, ?_⟩) (by assumption) ?_
  rotate_left
  · (intro w hSw; (try dsimp only at hSw); go_simp; try with_reducible rfl)
  try simp only [List.getElem_toArray, List.getElem_cons_zero, List.getElem_cons_succ, Act.put, List.setIfInBounds_toArray, List.set_cons_zero, List.set_cons_succ]
  refine wpAnyH_take (i := 3) (v := .int .i64 dp) rfl (by kernel_rfl) (by kernel_rfl) (by kernel_rfl) (fun _ _ _ h => h) (Or.inl ⟨by rfl, fun W hW => by obtain ⟨x0, x1, x2, x3, x4, x5, x6, x7, x8, x9, x10, x11, x12, x13⟩ := AtB.cells14 hW; go_simp⟩) (by assumption) ?_
  try simp only [List.getElem_toArray, List.getElem_cons_zero, List.getElem_cons_succ, Act.put, List.setIfInBounds_toArray, List.set_cons_zero, List.set_cons_succ]
  refine wpAnyH_take (i := 4) (v := ?_) rfl (by kernel_rfl) (by kernel_rfl) (by kernel_rfl) (fun _ _ _ h => h) (Or.inl ⟨by rfl, ?_⟩) (by assumption) ?_
  rotate_left
  · (intro w hSw; (try dsimp only at hSw); go_simp; try with_reducible rfl)
  try simp only [List.getElem_toArray, List.getElem_cons_zero, List.getElem_cons_succ, Act.put, List.setIfInBounds_toArray, List.set_cons_zero, List.set_cons_succ]
  refine wpAnyH_take (i := 5) (v := .int .u32 sq) rfl (by kernel_rfl) (by kernel_rfl) (by kernel_rfl) (fun _ _ _ h => h) (Or.inl ⟨by rfl, fun W hW => by obtain ⟨x0, x1, x2, x3, x4, x5, x6, x7, x8, x9, x10, x11, x12, x13⟩ := AtB.cells14 hW; go_simp⟩) (by assumption) ?_
  try simp only [List.getElem_toArray, List.getElem_cons_zero, List.getElem_cons_succ, Act.put, List.setIfInBounds_toArray, List.set_cons_zero, List.set_cons_succ]
  refine wpAnyH_take (i := 6) (v := ?_) rfl (by kernel_rfl) (by kernel_rfl) (by kernel_rfl) (fun _ _ _ h => h) (Or.inl ⟨by rfl, ?_⟩) (by assumption) ?_
  rotate_left
  · (intro w hSw; (try dsimp only at hSw); go_simp; try with_reducible rfl)
  try simp only [List.getElem_toArray, List.getElem_cons_zero, List.getElem_cons_succ, Act.put, List.setIfInBounds_toArray, List.set_cons_zero, List.set_cons_succ]
  refine wpAnyH_take (i := 7) (v := .int .u32 ak) rfl (by kernel_rfl) (by kernel_rfl) (by kernel_rfl) (fun _ _ _ h => h) (Or.inl ⟨by rfl, fun W hW => by obtain ⟨x0, x1, x2, x3, x4, x5, x6, x7, x8, x9, x10, x11, x12, x13⟩ := AtB.cells14 hW; go_simp⟩) (by assumption) ?_
  try simp only [List.getElem_toArray, List.getElem_cons_zero, List.getElem_cons_succ, Act.put, List.setIfInBounds_toArray, List.set_cons_zero, List.set_cons_succ]
  refine wpAnyH_take (i := 8) (v := ?_) rfl (by kernel_rfl) (by kernel_rfl) (by kernel_rfl) (fun _ _ _ h => h) (Or.inl ⟨by rfl, ?_⟩) (by assumption) ?_
  rotate_left
  · (intro w hSw; (try dsimp only at hSw); go_simp; try with_reducible rfl)
  try simp only [List.getElem_toArray, List.getElem_cons_zero, List.getElem_cons_succ, Act.put, List.setIfInBounds_toArray, List.set_cons_zero, List.set_cons_succ]
  refine wpAnyH_take (i := 9) (v := .int .i64 fl) rfl (by kernel_rfl) (by kernel_rfl) (by kernel_rfl) (fun _ _ _ h => h) (Or.inl ⟨by rfl, fun W hW => by obtain ⟨x0, x1, x2, x3, x4, x5, x6, x7, x8, x9, x10, x11, x12, x13⟩ := AtB.cells14 hW; go_simp⟩) (by assumption) ?_
  try simp only [List.getElem_toArray, List.getElem_cons_zero, List.getElem_cons_succ, Act.put, List.setIfInBounds_toArray, List.set_cons_zero, List.set_cons_succ]
  refine wpAnyH_take (i := 10) (v := ?_) rfl (by kernel_rfl) (by kernel_rfl) (by kernel_rfl) (fun _ _ _ h => h) (Or.inl ⟨by rfl, ?_⟩) (by assumption) ?_
  rotate_left
  · (intro w hSw; (try dsimp only at hSw); go_simp; try with_reducible rfl)
  try simp only [List.getElem_toArray, List.getElem_cons_zero, List.getElem_cons_succ, Act.put, List.setIfInBounds_toArray, List.set_cons_zero, List.set_cons_succ]
  refine wpAnyH_take (i := 11) (v := .int .i64 wi) rfl (by kernel_rfl) (by kernel_rfl) (by kernel_rfl) (fun _ _ _ h => h) (Or.inl ⟨by rfl, fun W hW => by obtain ⟨x0, x1, x2, x3, x4, x5, x6, x7, x8, x9, x10, x11, x12, x13⟩ := AtB.cells14 hW; go_simp⟩) (by assumption) ?_
  try simp only [List.getElem_toArray, List.getElem_cons_zero, List.getElem_cons_succ, Act.put, List.setIfInBounds_toArray, List.set_cons_zero, List.set_cons_succ]
  refine wpAnyH_take (i := 12) (v := ?_) rfl (by kernel_rfl) (by kernel_rfl) (by kernel_rfl) (fun _ _ _ h => h) (Or.inl ⟨by rfl, ?_⟩) (by assumption) ?_
  rotate_left
  · (intro w hSw; (try dsimp only at hSw); go_simp; try with_reducible rfl)
  try simp only [List.getElem_toArray, List.getElem_cons_zero, List.getElem_cons_succ, Act.put, List.setIfInBounds_toArray, List.set_cons_zero, List.set_cons_succ]
  refine wpAnyH_take (i := 13) (v := .int .i64 ur) rfl (by kernel_rfl) (by kernel_rfl) (by kernel_rfl) (fun _ _ _ h => h) (Or.inl ⟨by rfl, fun W hW => by obtain ⟨x0, x1, x2, x3, x4, x5, x6, x7, x8, x9, x10, x11, x12, x13⟩ := AtB.cells14 hW; go_simp⟩) (by assumption) ?_
  try simp only [List.getElem_toArray, List.getElem_cons_zero, List.getElem_cons_succ, Act.put, List.setIfInBounds_toArray, List.set_cons_zero, List.set_cons_succ]
  refine wpAnyH_take (i := 14) (v := ?_) rfl (by kernel_rfl) (by kernel_rfl) (by kernel_rfl) (fun _ _ _ h => h) (Or.inl ⟨by rfl, ?_⟩) (by assumption) ?_
  rotate_left
  · (intro w hSw; (try dsimp only at hSw); go_simp; try with_reducible rfl)
  try simp only [List.getElem_toArray, List.getElem_cons_zero, List.getElem_cons_succ, Act.put, List.setIfInBounds_toArray, List.set_cons_zero, List.set_cons_succ]
  refine wpAnyH_take (i := 15) (v := .string (strOfNums os)) rfl (by kernel_rfl) (by kernel_rfl) (by kernel_rfl) (fun _ _ _ h => h) (Or.inl ⟨by rfl, fun W hW => by obtain ⟨x0, x1, x2, x3, x4, x5, x6, x7, x8, x9, x10, x11, x12, x13⟩ := AtB.cells14 hW; go_simp⟩) (by assumption) ?_
  try simp only [List.getElem_toArray, List.getElem_cons_zero, List.getElem_cons_succ, Act.put, List.setIfInBounds_toArray, List.set_cons_zero, List.set_cons_succ]
  refine wpAnyH_take (i := 16) (v := ?_) rfl (by kernel_rfl) (by kernel_rfl) (by kernel_rfl) (fun _ _ _ h => h) (Or.inl ⟨by rfl, ?_⟩) (by assumption) ?_
  rotate_left
  · (intro w hSw; (try dsimp only at hSw); go_simp; try with_reducible rfl)
  try simp only [List.getElem_toArray, List.getElem_cons_zero, List.getElem_cons_succ, Act.put, List.setIfInBounds_toArray, List.set_cons_zero, List.set_cons_succ]
  refine wpAnyH_ready (rs := [17]) (by kernel_rfl) (by simp) ?_
  refine AllReadyH.cons (o := _) rfl (fun K hK => ?_) AllReadyH.nil
  go_simp
  refine hK _ _ (hSp _) (fun hHeld => ?_)
  try simp only [List.getElem_toArray, List.getElem_cons_zero, List.getElem_cons_succ, Act.put, List.setIfInBounds_toArray, List.set_cons_zero, List.set_cons_succ]
  refine wpAnyH_take (i := 18) (v := ?_) rfl (by kernel_rfl) (by kernel_rfl) (by kernel_rfl) (fun _ _ _ h => h) (Or.inl ⟨by rfl, ?_⟩) (by assumption) ?_
  rotate_left
  · (intro w hSw; (try dsimp only at hSw); go_simp; try with_reducible rfl)
  try simp only [List.getElem_toArray, List.getElem_cons_zero, List.getElem_cons_succ, Act.put, List.setIfInBounds_toArray, List.set_cons_zero, List.set_cons_succ]
  refine wpAnyH_ready (rs := [19]) (by kernel_rfl) (by simp) ?_
  refine AllReadyH.cons (o := _) rfl (fun K hK => ?_) AllReadyH.nil
  go_simp
  refine hK _ _ (hSp _) (fun hHeld => ?_)
  try simp only [List.getElem_toArray, List.getElem_cons_zero, List.getElem_cons_succ, Act.put, List.setIfInBounds_toArray, List.set_cons_zero, List.set_cons_succ]
  refine wpAnyH_take (i := 20) (v := ?_) rfl (by kernel_rfl) (by kernel_rfl) (by kernel_rfl) (fun _ _ _ h => h) (Or.inl ⟨by rfl, ?_⟩) (by assumption) ?_
  rotate_left
  · (intro w hSw; (try dsimp only at hSw); go_simp; try with_reducible rfl)
  try simp only [List.getElem_toArray, List.getElem_cons_zero, List.getElem_cons_succ, Act.put, List.setIfInBounds_toArray, List.set_cons_zero, List.set_cons_succ]
  refine wpAnyH_ready (rs := [21]) (by kernel_rfl) (by simp) ?_
  refine AllReadyH.cons (o := _) rfl (fun K hK => ?_) AllReadyH.nil
  go_simp
  refine hK _ _ (hSp _) (fun hHeld => ?_)
  try simp only [List.getElem_toArray, List.getElem_cons_zero, List.getElem_cons_succ, Act.put, List.setIfInBounds_toArray, List.set_cons_zero, List.set_cons_succ]
  refine wpAnyH_take (i := 22) (v := ?_) rfl (by kernel_rfl) (by kernel_rfl) (by kernel_rfl) (fun _ _ _ h => h) (Or.inl ⟨by rfl, ?_⟩) (by assumption) ?_
  rotate_left
  · (intro w hSw; (try dsimp only at hSw); go_simp; try with_reducible rfl)
  try simp only [List.getElem_toArray, List.getElem_cons_zero, List.getElem_cons_succ, Act.put, List.setIfInBounds_toArray, List.set_cons_zero, List.set_cons_succ]
  refine wpAnyH_ready (rs := [23]) (by kernel_rfl) (by simp) ?_
  refine AllReadyH.cons (o := _) rfl (fun K hK => ?_) AllReadyH.nil
  go_simp
  refine hK _ _ (hSp _) (fun hHeld => ?_)
  try simp only [List.getElem_toArray, List.getElem_cons_zero, List.getElem_cons_succ, Act.put, List.setIfInBounds_toArray, List.set_cons_zero, List.set_cons_succ]
  refine wpAnyH_take (i := 24) (v := ?_) rfl (by kernel_rfl) (by kernel_rfl) (by kernel_rfl) (fun _ _ _ h => h) (Or.inl ⟨by rfl, ?_⟩) (by assumption) ?_
  rotate_left
  · (intro w hSw; (try dsimp only at hSw); go_simp; try with_reducible rfl)
  try simp only [List.getElem_toArray, List.getElem_cons_zero, List.getElem_cons_succ, Act.put, List.setIfInBounds_toArray, List.set_cons_zero, List.set_cons_succ]
  refine wpAnyH_ready (rs := [25]) (by kernel_rfl) (by simp) ?_
  refine AllReadyH.cons (o := _) rfl (fun K hK => ?_) AllReadyH.nil
  go_simp
  refine hK _ _ (hSp _) (fun hHeld => ?_)
  try simp only [List.getElem_toArray, List.getElem_cons_zero, List.getElem_cons_succ, Act.put, List.setIfInBounds_toArray, List.set_cons_zero, List.set_cons_succ]
  refine wpAnyH_take (i := 26) (v := ?_) rfl (by kernel_rfl) (by kernel_rfl) (by kernel_rfl) (fun _ _ _ h => h) (Or.inl ⟨by rfl, ?_⟩) (by assumption) ?_
  rotate_left
  · (intro w hSw; (try dsimp only at hSw); go_simp; try with_reducible rfl)
  try simp only [List.getElem_toArray, List.getElem_cons_zero, List.getElem_cons_succ, Act.put, List.setIfInBounds_toArray, List.set_cons_zero, List.set_cons_succ]
  refine wpAnyH_ready (rs := [27]) (by kernel_rfl) (by simp) ?_
  refine AllReadyH.cons (o := _) rfl (fun K hK => ?_) AllReadyH.nil
  go_simp
  refine hK _ _ (hSp _) (fun hHeld => ?_)
  try simp only [List.getElem_toArray, List.getElem_cons_zero, List.getElem_cons_succ, Act.put, List.setIfInBounds_toArray, List.set_cons_zero, List.set_cons_succ]
  refine wpAnyH_take (i := 28) (v := ?_) rfl (by kernel_rfl) (by kernel_rfl) (by kernel_rfl) (fun _ _ _ h => h) (Or.inl ⟨by rfl, ?_⟩) (by assumption) ?_
  rotate_left
  · (intro w hSw; (try dsimp only at hSw); go_simp; try with_reducible rfl)
  try simp only [List.getElem_toArray, List.getElem_cons_zero, List.getElem_cons_succ, Act.put, List.setIfInBounds_toArray, List.set_cons_zero, List.set_cons_succ]
  refine wpAnyH_ready (rs := [29]) (by kernel_rfl) (by simp) ?_
  refine AllReadyH.cons (o := _) rfl (fun K hK => ?_) AllReadyH.nil
  go_simp
  refine hK _ _ (hSp _) (fun hHeld => ?_)
  try simp only [List.getElem_toArray, List.getElem_cons_zero, List.getElem_cons_succ, Act.put, List.setIfInBounds_toArray, List.set_cons_zero, List.set_cons_succ]
  refine wpAnyH_take (i := 30) (v := ?_) rfl (by kernel_rfl) (by kernel_rfl) (by kernel_rfl) (fun _ _ _ h => h) (Or.inl ⟨by rfl, ?_⟩) (by assumption) ?_
  rotate_left
  · (intro w hSw; (try dsimp only at hSw); go_simp; try with_reducible rfl)
  try simp only [List.getElem_toArray, List.getElem_cons_zero, List.getElem_cons_succ, Act.put, List.setIfInBounds_toArray, List.set_cons_zero, List.set_cons_succ]
  refine wpAnyH_ready (rs := [31]) (by kernel_rfl) (by simp) ?_
  refine AllReadyH.cons (o := _) rfl (fun K hK => ?_) AllReadyH.nil
  go_simp
  refine hK _ _ (hSp _) (fun hHeld => ?_)
  refine wpAnyH_done (by kernel_rfl) ?_ _
  try simp only [List.getElem_toArray, List.getElem_cons_zero, List.getElem_cons_succ, Act.put, List.setIfInBounds_toArray, List.set_cons_zero, List.set_cons_succ]
  clear hSp
  go_wp2_with fail
  refine (to_any _ _ _).mono ?_
  rintro e w' ⟨rfl, hw'⟩
  rw [hw', ht0]
  clear hw'
  cases t0
  · go_wp2
    go_ret
    exact ⟨by rw [← HR.out]; rfl, (below2 w _ _).drew⟩
  go_wp2_with fail
  refine (to_any _ _ _).mono ?_
  rintro e w' ⟨rfl, hw'⟩
  rw [hw', ht1]
  clear hw'
  cases t1
  · go_wp2
    go_ret
    exact ⟨by rw [← HR.out]; rfl, (below2 w _ _).drew⟩
  go_wp2_with fail
  refine (to_any _ _ _).mono ?_
  rintro e w' ⟨rfl, hw'⟩
  rw [hw', ht2]
  clear hw'
  cases t2
  · go_wp2
    go_ret
    exact ⟨by rw [← HR.out]; rfl, (below2 w _ _).drew⟩
  go_wp2_with fail
  refine (to_any _ _ _).mono ?_
  rintro e w' ⟨rfl, hw'⟩
  rw [hw', ht3]
  clear hw'
  cases t3
  · go_wp2
    go_ret
    exact ⟨by rw [← HR.out]; rfl, (below2 w _ _).drew⟩
  go_wp2_with fail
  refine (to_any _ _ _).mono ?_
  rintro e w' ⟨rfl, hw'⟩
  rw [hw', ht4]
  clear hw'
  cases t4
  · go_wp2
    go_ret
    exact ⟨by rw [← HR.out]; rfl, (below2 w _ _).drew⟩
  go_wp2_with fail
  refine (to_any _ _ _).mono ?_
  rintro e w' ⟨rfl, hw'⟩
  rw [hw', ht5]
  clear hw'
  cases t5
  · go_wp2
    go_ret
    exact ⟨by rw [← HR.out]; rfl, (below2 w _ _).drew⟩
  go_wp2_with fail
  refine (to_any _ _ _).mono ?_
  rintro e w' ⟨rfl, hw'⟩
  rw [hw', ht6]
  clear hw'
  cases t6
  · go_wp2
    go_ret
    exact ⟨by rw [← HR.out]; rfl, (below2 w _ _).drew⟩
  by_cases h40 : 40 < os.length
  · have HR1 : Hid (R = 1) := by show R = 1; rw [← HR.out]; simp [rOk, h40]
    have h41 : (40 : Int) < os.length := by omega
    go_wp2
    go_ret
    exact ⟨by rw [HR1.out]; rfl, (below2 w _ _).drew⟩
  by_cases hr : (os.length : Int) % 4 = 0
  · by_cases hz : 65515 - (20 + (os.length : Int)) < (ds.length : Int)
    · have HR1 : Hid (R = 1) := by show R = 1; rw [← HR.out]; unfold rOk; rw [decide_eq_true hz]; simp
      have hr2 : ((os.length : Int).tmod 4 != 0) = false := by rw [Int.tmod_eq_emod_of_nonneg (by omega)]; simp [hr]
      have h41 : ¬ (40 : Int) < os.length := by omega
      go_wp2
      go_ret
      exact ⟨by rw [HR1.out]; rfl, (below2 w _ _).drew⟩
    · have HR1 : Hid (R = 0) := by show R = 0; rw [← HR.out]; unfold rOk; rw [decide_eq_false hz, decide_eq_false h40, hr]; rfl
      have hr2 : ((os.length : Int).tmod 4 != 0) = false := by rw [Int.tmod_eq_emod_of_nonneg (by omega)]; simp [hr]
      have h41 : ¬ (40 : Int) < os.length := by omega
      go_wp2
      go_ret
      exact ⟨by rw [HR1.out]; rfl, (below2 w _ _).drew⟩
  · have HR1 : Hid (R = 1) := by show R = 1; rw [← HR.out]; simp [rOk, hr]
    have hr2 : ((os.length : Int).tmod 4 != 0) = true := by rw [Int.tmod_eq_emod_of_nonneg (by omega)]; simp [hr]
    have h41 : ¬ (40 : Int) < os.length := by omega
    go_wp2
    go_ret
    exact ⟨by rw [HR1.out]; rfl, (below2 w _ _).drew⟩
end Go.Proofs.Ytpiokeidcnbmbaa
