/- Parts of the proof, in one text. -/
import Derived.Test.YtpiokeidcnbmbaaL4ca
import Derived.BigRegion
import Derived.Test.YtpiokeidcnbmbaaCB
import Derived.Test.YtpiokeidcnbmbaaCC
import Derived.Test.YtpiokeidcnbmbaaL4n
import Derived.Deep.RegionHeld3
import Derived.Test.YtpiokeidcnbmbaaL4e
namespace Go.Proofs.Ytpiokeidcnbmbaa
open Go.RowKit
set_option linter.unusedSimpArgs false
set_option maxRecDepth 20000 in
set_option maxHeartbeats 8000000 in
theorem rcheck3_a (ty co re sp dp : Int) (ns : Bool) (sq ak fl wi ur : Int) (os ds : List Int) (w : World) (hd : ds.length ≤ 140737488355328) (ho : os.length ≤ 140737488355328) (hq : ∀ W, (binOp .neq 32 (.agg #[.int .i64 3, .int .i64 ty, .int .i64 co, .int .u32 re, .int .i64 sp, .int .i64 dp, .bool ns, .int .u32 sq, .int .u32 ak, .int .i64 fl, .int .i64 wi, .int .i64 ur, .string (strOfNums os), .string (strOfNums ds)]) (.agg #[.int .i64 3, .int .i64 0, .int .i64 0, .int .u32 0, .int .i64 sp, .int .i64 dp, .bool false, .int .u32 sq, .int .u32 ak, .int .i64 fl, .int .i64 wi, .int .i64 ur, .string (strOfNums os), .string (strOfNums ds)])).run Try.prog W = .ok (.bool true) W) :
    Calls Try.prog 66 #[.agg #[.int .i64 3, .int .i64 ty, .int .i64 co, .int .u32 re, .int .i64 sp, .int .i64 dp, .bool ns, .int .u32 sq, .int .u32 ak, .int .i64 fl, .int .i64 wi, .int .i64 ur, .string (strOfNums os), .string (strOfNums ds)]] w fun e w' => e = .returned (.int .i64 (1)) ∧ Below w.heap.size w w' := by
  have hs1 := strOfNums_size os
  have hs2 := strOfNums_size ds
  have hI1 : (os.length : Int) ≤ 140737488355328 := by omega
  have hI2 : (ds.length : Int) ≤ 140737488355328 := by omega
  go_enter Try.func66, Try.ntmps66
  go_wp2_with fail
  have hSp : ∀ O, AtB (((w.alloc (.cells #[.int .i64 3, .int .i64 ty, .int .i64 co, .int .u32 re, .int .i64 sp, .int .i64 dp, .bool ns, .int .u32 sq, .int .u32 ak, .int .i64 fl, .int .i64 wi, .int .i64 ur, .string (strOfNums os), .string (strOfNums ds)] 32)).alloc (.cells O 32)).drew) w.heap.size #[.int .i64 3, .int .i64 ty, .int .i64 co, .int .u32 re, .int .i64 sp, .int .i64 dp, .bool ns, .int .u32 sq, .int .u32 ak, .int .i64 fl, .int .i64 wi, .int .i64 ur, .string (strOfNums os), .string (strOfNums ds)] := fun O => AtB.below (atB_new w #[.int .i64 3, .int .i64 ty, .int .i64 co, .int .u32 re, .int .i64 sp, .int .i64 dp, .bool ns, .int .u32 sq, .int .u32 ak, .int .i64 fl, .int .i64 wi, .int .i64 ur, .string (strOfNums os), .string (strOfNums ds)] 32 _ rfl) ((below1 _ _).drew)
  refine wp_region_held_drew (S := (fun W => AtB W w.heap.size #[.int .i64 3, .int .i64 ty, .int .i64 co, .int .u32 re, .int .i64 sp, .int .i64 dp, .bool ns, .int .u32 sq, .int .u32 ak, .int .i64 fl, .int .i64 wi, .int .i64 ur, .string (strOfNums os), .string (strOfNums ds)])) (by kernel_rfl) (hSp _) (fun hHeld => ?_)
  refine wpAnyH_take (i := 0) (v := ?_) rfl (by kernel_rfl) (by kernel_rfl) (by kernel_rfl) (fun _ _ _ h => h) (Or.inl ⟨by rfl, ?_⟩) (by assumption) ?_
  rotate_left
  · (intro w hSw; (try dsimp only at hSw); go_simp; try with_reducible rfl)
  try simp only [List.getElem_toArray, List.getElem_cons_zero, List.getElem_cons_succ, Act.put, List.setIfInBounds_toArray, List.set_cons_zero, List.set_cons_succ]
  refine wpAnyH_take (i := 1) (v := .int .i64 sp) rfl (by kernel_rfl) (by kernel_rfl) (by kernel_rfl) (fun _ _ _ h => h) (Or.inl ⟨by rfl, fun W hW => by obtain ⟨x0, x1, x2, x3, x4, x5, x6, x7, x8, x9, x10, x11, x12, x13⟩ := AtB.cells14 hW; go_simp⟩) (by assumption) ?_
  try simp only [List.getElem_toArray, List.getElem_cons_zero, List.getElem_cons_succ, Act.put, List.setIfInBounds_toArray, List.set_cons_zero, List.set_cons_succ]
  refine wpAnyH_take (i := 2) (v := ?_) rfl (by kernel_rfl) (by kernel_rfl) (by kernel_rfl) (fun _ _ _ h => h) (Or.inl ⟨by rfl, ?_⟩) (by assumption) ?_
  rotate_left
  · (intro w hSw; (try dsimp only at hSw); go_simp; try with_reducible rfl)
  try simp only [List.getElem_toArray, List.getElem_cons_zero, List.getElem_cons_succ, Act.put, List.setIfInBounds_toArray, List.set_cons_zero, List.set_cons_succ]
  refine wpAnyH_take (i := 3) (v := .int .i64 dp) rfl (by kernel_rfl) (by kernel_rfl) (by kernel_rfl) (fun _ _ _ h => h) (Or.inl ⟨by rfl, fun W hW => by obtain ⟨x0, x1, x2, x3, x4, x5, x6, x7, x8, x9, x10, x11, x12, x13⟩ := AtB.cells14 hW; go_simp⟩) (by assumption) ?_
  try simp only [List.getElem_toArray, List.getElem_cons_zero, List.getElem_cons_succ, Act.put, List.setIfInBounds_toArray, List.set_cons_zero, List.set_cons_succ]
  refine wpAnyH_take (i := 4) (v := ?_) rfl (by kernel_rfl) (by kernel_rfl) (by kernel_rfl) (fun _ _ _ h => h) (Or.inl ⟨by rfl, ?_⟩) (by assumption) ?_
  rotate_left
  · (intro w hSw; (try dsimp only at hSw); go_simp; try with_reducible rfl)
  try simp only [List.getElem_toArray, List.getElem_cons_zero, List.getElem_cons_succ, Act.put, List.setIfInBounds_toArray, List.set_cons_zero, List.set_cons_succ]
  refine wpAnyH_take (i := 5) (v := .int .u32 sq) rfl (by kernel_rfl) (by kernel_rfl) (by kernel_rfl) (fun _ _ _ h => h) (Or.inl ⟨by rfl, fun W hW => by obtain ⟨x0, x1, x2, x3, x4, x5, x6, x7, x8, x9, x10, x11, x12, x13⟩ := AtB.cells14 hW; go_simp⟩) (by assumption) ?_
  try simp only [List.getElem_toArray, List.getElem_cons_zero, List.getElem_cons_succ, Act.put, List.setIfInBounds_toArray, List.set_cons_zero, List.set_cons_succ]
  refine wpAnyH_take (i := 6) (v := ?_) rfl (by kernel_rfl) (by kernel_rfl) (by kernel_rfl) (fun _ _ _ h => h) (Or.inl ⟨by rfl, ?_⟩) (by assumption) ?_
  rotate_left
  · (intro w hSw; (try dsimp only at hSw); go_simp; try with_reducible rfl)
  try simp only [List.getElem_toArray, List.getElem_cons_zero, List.getElem_cons_succ, Act.put, List.setIfInBounds_toArray, List.set_cons_zero, List.set_cons_succ]
  refine wpAnyH_take (i := 7) (v := .int .u32 ak) rfl (by kernel_rfl) (by kernel_rfl) (by kernel_rfl) (fun _ _ _ h => h) (Or.inl ⟨by rfl, fun W hW => by obtain ⟨x0, x1, x2, x3, x4, x5, x6, x7, x8, x9, x10, x11, x12, x13⟩ := AtB.cells14 hW; go_simp⟩) (by assumption) ?_
  try simp only [List.getElem_toArray, List.getElem_cons_zero, List.getElem_cons_succ, Act.put, List.setIfInBounds_toArray, List.set_cons_zero, List.set_cons_succ]
  refine wpAnyH_take (i := 8) (v := ?_) rfl (by kernel_rfl) (by kernel_rfl) (by kernel_rfl) (fun _ _ _ h => h) (Or.inl ⟨by rfl, ?_⟩) (by assumption) ?_
  rotate_left
  · (intro w hSw; (try dsimp only at hSw); go_simp; try with_reducible rfl)
  try simp only [List.getElem_toArray, List.getElem_cons_zero, List.getElem_cons_succ, Act.put, List.setIfInBounds_toArray, List.set_cons_zero, List.set_cons_succ]
  refine wpAnyH_take (i := 9) (v := .int .i64 fl) rfl (by kernel_rfl) (by kernel_rfl) (by kernel_rfl) (fun _ _ _ h => h) (Or.inl ⟨by rfl, fun W hW => by obtain ⟨x0, x1, x2, x3, x4, x5, x6, x7, x8, x9, x10, x11, x12, x13⟩ := AtB.cells14 hW; go_simp⟩) (by assumption) ?_
  try simp only [List.getElem_toArray, List.getElem_cons_zero, List.getElem_cons_succ, Act.put, List.setIfInBounds_toArray, List.set_cons_zero, List.set_cons_succ]
  refine wpAnyH_take (i := 10) (v := ?_) rfl (by kernel_rfl) (by kernel_rfl) (by kernel_rfl) (fun _ _ _ h => h) (Or.inl ⟨by rfl, ?_⟩) (by assumption) ?_
  rotate_left
  · (intro w hSw; (try dsimp only at hSw); go_simp; try with_reducible rfl)
  try simp only [List.getElem_toArray, List.getElem_cons_zero, List.getElem_cons_succ, Act.put, List.setIfInBounds_toArray, List.set_cons_zero, List.set_cons_succ]
  refine wpAnyH_take (i := 11) (v := .int .i64 wi) rfl (by kernel_rfl) (by kernel_rfl) (by kernel_rfl) (fun _ _ _ h => h) (Or.inl ⟨by rfl, fun W hW => by obtain ⟨x0, x1, x2, x3, x4, x5, x6, x7, x8, x9, x10, x11, x12, x13⟩ := AtB.cells14 hW; go_simp⟩) (by assumption) ?_
  try simp only [List.getElem_toArray, List.getElem_cons_zero, List.getElem_cons_succ, Act.put, List.setIfInBounds_toArray, List.set_cons_zero, List.set_cons_succ]
  refine wpAnyH_take (i := 12) (v := ?_) rfl (by kernel_rfl) (by kernel_rfl) (by kernel_rfl) (fun _ _ _ h => h) (Or.inl ⟨by rfl, ?_⟩) (by assumption) ?_
  rotate_left
  · (intro w hSw; (try dsimp only at hSw); go_simp; try with_reducible rfl)
  try simp only [List.getElem_toArray, List.getElem_cons_zero, List.getElem_cons_succ, Act.put, List.setIfInBounds_toArray, List.set_cons_zero, List.set_cons_succ]
  refine wpAnyH_take (i := 13) (v := .int .i64 ur) rfl (by kernel_rfl) (by kernel_rfl) (by kernel_rfl) (fun _ _ _ h => h) (Or.inl ⟨by rfl, fun W hW => by obtain ⟨x0, x1, x2, x3, x4, x5, x6, x7, x8, x9, x10, x11, x12, x13⟩ := AtB.cells14 hW; go_simp⟩) (by assumption) ?_
  try simp only [List.getElem_toArray, List.getElem_cons_zero, List.getElem_cons_succ, Act.put, List.setIfInBounds_toArray, List.set_cons_zero, List.set_cons_succ]
  refine wpAnyH_take (i := 14) (v := ?_) rfl (by kernel_rfl) (by kernel_rfl) (by kernel_rfl) (fun _ _ _ h => h) (Or.inl ⟨by rfl, ?_⟩) (by assumption) ?_
  rotate_left
  · (intro w hSw; (try dsimp only at hSw); go_simp; try with_reducible rfl)
  try simp only [List.getElem_toArray, List.getElem_cons_zero, List.getElem_cons_succ, Act.put, List.setIfInBounds_toArray, List.set_cons_zero, List.set_cons_succ]
  refine wpAnyH_take (i := 15) (v := .string (strOfNums os)) rfl (by kernel_rfl) (by kernel_rfl) (by kernel_rfl) (fun _ _ _ h => h) (Or.inl ⟨by rfl, fun W hW => by obtain ⟨x0, x1, x2, x3, x4, x5, x6, x7, x8, x9, x10, x11, x12, x13⟩ := AtB.cells14 hW; go_simp⟩) (by assumption) ?_
  try simp only [List.getElem_toArray, List.getElem_cons_zero, List.getElem_cons_succ, Act.put, List.setIfInBounds_toArray, List.set_cons_zero, List.set_cons_succ]
  refine wpAnyH_take (i := 16) (v := ?_) rfl (by kernel_rfl) (by kernel_rfl) (by kernel_rfl) (fun _ _ _ h => h) (Or.inl ⟨by rfl, ?_⟩) (by assumption) ?_
  rotate_left
  · (intro w hSw; (try dsimp only at hSw); go_simp; try with_reducible rfl)
  try simp only [List.getElem_toArray, List.getElem_cons_zero, List.getElem_cons_succ, Act.put, List.setIfInBounds_toArray, List.set_cons_zero, List.set_cons_succ]
  refine wpAnyH_ready (rs := [17]) (by kernel_rfl) (by simp) ?_
  refine AllReadyH.cons (o := _) rfl (fun K hK => ?_) AllReadyH.nil
  go_simp
  refine hK _ _ (hSp _) (fun hHeld => ?_)
  try simp only [List.getElem_toArray, List.getElem_cons_zero, List.getElem_cons_succ, Act.put, List.setIfInBounds_toArray, List.set_cons_zero, List.set_cons_succ]
  refine wpAnyH_take (i := 18) (v := ?_) rfl (by kernel_rfl) (by kernel_rfl) (by kernel_rfl) (fun _ _ _ h => h) (Or.inl ⟨by rfl, ?_⟩) (by assumption) ?_
  rotate_left
  · (intro w hSw; (try dsimp only at hSw); go_simp; try with_reducible rfl)
  try simp only [List.getElem_toArray, List.getElem_cons_zero, List.getElem_cons_succ, Act.put, List.setIfInBounds_toArray, List.set_cons_zero, List.set_cons_succ]
  refine wpAnyH_ready (rs := [19]) (by kernel_rfl) (by simp) ?_
  refine AllReadyH.cons (o := _) rfl (fun K hK => ?_) AllReadyH.nil
  go_simp
  refine hK _ _ (hSp _) (fun hHeld => ?_)
  try simp only [List.getElem_toArray, List.getElem_cons_zero, List.getElem_cons_succ, Act.put, List.setIfInBounds_toArray, List.set_cons_zero, List.set_cons_succ]
  refine wpAnyH_take (i := 20) (v := ?_) rfl (by kernel_rfl) (by kernel_rfl) (by kernel_rfl) (fun _ _ _ h => h) (Or.inl ⟨by rfl, ?_⟩) (by assumption) ?_
  rotate_left
  · (intro w hSw; (try dsimp only at hSw); go_simp; try with_reducible rfl)
  try simp only [List.getElem_toArray, List.getElem_cons_zero, List.getElem_cons_succ, Act.put, List.setIfInBounds_toArray, List.set_cons_zero, List.set_cons_succ]
  refine wpAnyH_ready (rs := [21]) (by kernel_rfl) (by simp) ?_
  refine AllReadyH.cons (o := _) rfl (fun K hK => ?_) AllReadyH.nil
  go_simp
  refine hK _ _ (hSp _) (fun hHeld => ?_)
  try simp only [List.getElem_toArray, List.getElem_cons_zero, List.getElem_cons_succ, Act.put, List.setIfInBounds_toArray, List.set_cons_zero, List.set_cons_succ]
  refine wpAnyH_take (i := 22) (v := ?_) rfl (by kernel_rfl) (by kernel_rfl) (by kernel_rfl) (fun _ _ _ h => h) (Or.inl ⟨by rfl, ?_⟩) (by assumption) ?_
  rotate_left
  · (intro w hSw; (try dsimp only at hSw); go_simp; try with_reducible rfl)
  try simp only [List.getElem_toArray, List.getElem_cons_zero, List.getElem_cons_succ, Act.put, List.setIfInBounds_toArray, List.set_cons_zero, List.set_cons_succ]
  refine wpAnyH_ready (rs := [23]) (by kernel_rfl) (by simp) ?_
  refine AllReadyH.cons (o := _) rfl (fun K hK => ?_) AllReadyH.nil
  go_simp
  refine hK _ _ (hSp _) (fun hHeld => ?_)
  try simp only [List.getElem_toArray, List.getElem_cons_zero, List.getElem_cons_succ, Act.put, List.setIfInBounds_toArray, List.set_cons_zero, List.set_cons_succ]
  refine wpAnyH_take (i := 24) (v := ?_) rfl (by kernel_rfl) (by kernel_rfl) (by kernel_rfl) (fun _ _ _ h => h) (Or.inl ⟨by rfl, ?_⟩) (by assumption) ?_
  rotate_left
  · (intro w hSw; (try dsimp only at hSw); go_simp; try with_reducible rfl)
  try simp only [List.getElem_toArray, List.getElem_cons_zero, List.getElem_cons_succ, Act.put, List.setIfInBounds_toArray, List.set_cons_zero, List.set_cons_succ]
  refine wpAnyH_ready (rs := [25]) (by kernel_rfl) (by simp) ?_
  refine AllReadyH.cons (o := _) rfl (fun K hK => ?_) AllReadyH.nil
  go_simp
  refine hK _ _ (hSp _) (fun hHeld => ?_)
  try simp only [List.getElem_toArray, List.getElem_cons_zero, List.getElem_cons_succ, Act.put, List.setIfInBounds_toArray, List.set_cons_zero, List.set_cons_succ]
  refine wpAnyH_take (i := 26) (v := ?_) rfl (by kernel_rfl) (by kernel_rfl) (by kernel_rfl) (fun _ _ _ h => h) (Or.inl ⟨by rfl, ?_⟩) (by assumption) ?_
  rotate_left
  · (intro w hSw; (try dsimp only at hSw); go_simp; try with_reducible rfl)
  try simp only [List.getElem_toArray, List.getElem_cons_zero, List.getElem_cons_succ, Act.put, List.setIfInBounds_toArray, List.set_cons_zero, List.set_cons_succ]
  refine wpAnyH_ready (rs := [27]) (by kernel_rfl) (by simp) ?_
  refine AllReadyH.cons (o := _) rfl (fun K hK => ?_) AllReadyH.nil
  go_simp
  refine hK _ _ (hSp _) (fun hHeld => ?_)
  try simp only [List.getElem_toArray, List.getElem_cons_zero, List.getElem_cons_succ, Act.put, List.setIfInBounds_toArray, List.set_cons_zero, List.set_cons_succ]
  refine wpAnyH_take (i := 28) (v := ?_) rfl (by kernel_rfl) (by kernel_rfl) (by kernel_rfl) (fun _ _ _ h => h) (Or.inl ⟨by rfl, ?_⟩) (by assumption) ?_
  rotate_left
  · (intro w hSw; (try dsimp only at hSw); go_simp; try with_reducible rfl)
  try simp only [List.getElem_toArray, List.getElem_cons_zero, List.getElem_cons_succ, Act.put, List.setIfInBounds_toArray, List.set_cons_zero, List.set_cons_succ]
  refine wpAnyH_ready (rs := [29]) (by kernel_rfl) (by simp) ?_
  refine AllReadyH.cons (o := _) rfl (fun K hK => ?_) AllReadyH.nil
  go_simp
  refine hK _ _ (hSp _) (fun hHeld => ?_)
  try simp only [List.getElem_toArray, List.getElem_cons_zero, List.getElem_cons_succ, Act.put, List.setIfInBounds_toArray, List.set_cons_zero, List.set_cons_succ]
  refine wpAnyH_take (i := 30) (v := ?_) rfl (by kernel_rfl) (by kernel_rfl) (by kernel_rfl) (fun _ _ _ h => h) (Or.inl ⟨by rfl, ?_⟩) (by assumption) ?_
  rotate_left
  · (intro w hSw; (try dsimp only at hSw); go_simp; try with_reducible rfl)
  try simp only [List.getElem_toArray, List.getElem_cons_zero, List.getElem_cons_succ, Act.put, List.setIfInBounds_toArray, List.set_cons_zero, List.set_cons_succ]
  refine wpAnyH_ready (rs := [31]) (by kernel_rfl) (by simp) ?_
  refine AllReadyH.cons (o := _) rfl (fun K hK => ?_) AllReadyH.nil
  go_simp
  refine hK _ _ (hSp _) (fun hHeld => ?_)
  refine wpAnyH_done (by kernel_rfl) ?_ _
  try simp only [List.getElem_toArray, List.getElem_cons_zero, List.getElem_cons_succ, Act.put, List.setIfInBounds_toArray, List.set_cons_zero, List.set_cons_succ]
  clear hSp
  go_wp2_with fail
  go_ret
  exact ⟨rfl, (below2 w _ _).drew⟩
end Go.Proofs.Ytpiokeidcnbmbaa

namespace Go.Proofs.Ytpiokeidcnbmbaa
open Go.RowKit

theorem rOk_ok (k ty co re sp dp : Int) (ns : Bool) (sq ak fl wi ur : Int) (os ds : List Int) (size : Int) (ho : ownOk k ty co re sp dp ns sq ak fl wi ur (strOfNums os) = true) (hs : size = fixV k + os.length) :
    rOk (toB ty 255) (toB co 255) (toB sp 65535) (toB dp 65535) (toB wi 65535) (toB ur 65535) (toB fl 4095) os.length ds.length size = l4Ok k ty co re sp dp ns sq ak fl wi ur (strOfNums os) (strOfNums ds) := by
  subst hs
  unfold l4Ok rOk numsOk
  rw [ho, strOfNums_size, strOfNums_size]
  have e8 : ∀ v, fitN 8 v = toB v 255 := fun v => rfl
  have e12 : ∀ v, fitN 12 v = toB v 4095 := fun v => rfl
  have e16 : ∀ v, fitN 16 v = toB v 65535 := fun v => rfl
  have hz : decide (65515 - (fixV k + (os.length : Int)) < (ds.length : Int)) = decide (65515 < fixV k + (os.length : Int) + ds.length) := by
    rw [Bool.eq_iff_iff]; simp; omega
  have hm : ((os.length : Int) % 4 == 0) = !((os.length : Int) % 4 != 0) := by simp [bne]
  rw [e8, e8, e12, e16, e16, e16, e16, hz, hm]
  generalize toB ty 255 = b0
  generalize toB co 255 = b1
  generalize toB sp 65535 = b2
  generalize toB dp 65535 = b3
  generalize toB wi 65535 = b4
  generalize toB ur 65535 = b5
  generalize toB fl 4095 = b6
  generalize decide (40 < os.length) = b7
  generalize ((os.length : Int) % 4 != 0) = b8
  generalize decide (65515 < fixV k + (os.length : Int) + ds.length) = b9
  revert b0 b1 b2 b3 b4 b5 b6 b7 b8 b9
  decide +kernel
set_option maxHeartbeats 2000000 in
theorem rcheck_none (k : Int) (ty co re sp dp : Int) (ns : Bool) (sq ak fl wi ur : Int) (os ds : List Int) (w : World) (e0 : (k == 0) = false) (e1 : (k == 1) = false) (e2 : (k == 2) = false) (e3 : (k == 3) = false) :
    Calls Try.prog 66 #[.agg #[.int .i64 k, .int .i64 ty, .int .i64 co, .int .u32 re, .int .i64 sp, .int .i64 dp, .bool ns, .int .u32 sq, .int .u32 ak, .int .i64 fl, .int .i64 wi, .int .i64 ur, .string (strOfNums os), .string (strOfNums ds)]] w fun e w' => e = .returned (.int .i64 1) ∧ Below w.heap.size w w' := by
  go_enter Try.func66, Try.ntmps66
  go_wp2
  go_ret
  exact ⟨rfl, below2 w _ _⟩
theorem rl4check_any (x : L4R) (hf : x.Fine) (hos : x.os.length ≤ 140737488355328) (w : World) :
    Calls Try.prog 66 #[x.v] w fun e w' => e = .returned (.int .i64 (if x.ok = true then 0 else 1)) ∧ Below w.heap.size w w' := by
  obtain ⟨k, ty, co, re, sp, dp, ns, sq, ak, fl, wi, ur, os, ds⟩ := x
  have hd : ds.length ≤ 140737488355328 := hf.room
  replace hos : os.length ≤ 140737488355328 := hos
  by_cases e0 : k = 0
  · subst e0
    have hq : ∀ W, (binOp .neq 32 (.agg #[.int .i64 0, .int .i64 ty, .int .i64 co, .int .u32 re, .int .i64 sp, .int .i64 dp, .bool ns, .int .u32 sq, .int .u32 ak, .int .i64 fl, .int .i64 wi, .int .i64 ur, .string (strOfNums os), .string (strOfNums ds)]) (.agg #[.int .i64 0, .int .i64 0, .int .i64 0, .int .u32 0, .int .i64 0, .int .i64 0, .bool false, .int .u32 0, .int .u32 0, .int .i64 0, .int .i64 0, .int .i64 0, .string ⟨#[]⟩, .string (strOfNums ds)])).run Try.prog W = .ok (.bool (!(ownOk 0 ty co re sp dp ns sq ak fl wi ur (strOfNums os)))) W := by
      intro W
      rw [neq14]
      congr 3
      simp [ownOk]
    cases ho : ownOk 0 ty co re sp dp ns sq ak fl wi ur (strOfNums os)
    · rw [ho] at hq
      have hn : (L4R.mk 0 ty co re sp dp ns sq ak fl wi ur os ds).ok = false := by
        unfold L4R.ok l4Ok
        simp only [ho, Bool.false_and]
      rw [hn]
      exact rcheck0_a ty co re sp dp ns sq ak fl wi ur os ds w hd hos hq
    · rw [ho] at hq
      have hs : 0 = fixV 0 + (os.length : Int) := by
        have : os = [] := by unfold ownOk at ho; simp at ho; exact str_nil (by simp [ho])
        rw [this]; rfl
      have hr := rOk_ok 0 ty co re sp dp ns sq ak fl wi ur os ds 0 ho hs
      have := rcheck0_b ty co re sp dp ns sq ak fl wi ur os ds w hd hos hq
      rw [hr] at this
      exact this
  by_cases e1 : k = 1
  · subst e1
    have hq : ∀ W, (binOp .neq 32 (.agg #[.int .i64 1, .int .i64 ty, .int .i64 co, .int .u32 re, .int .i64 sp, .int .i64 dp, .bool ns, .int .u32 sq, .int .u32 ak, .int .i64 fl, .int .i64 wi, .int .i64 ur, .string (strOfNums os), .string (strOfNums ds)]) (.agg #[.int .i64 1, .int .i64 ty, .int .i64 co, .int .u32 re, .int .i64 0, .int .i64 0, .bool false, .int .u32 0, .int .u32 0, .int .i64 0, .int .i64 0, .int .i64 0, .string ⟨#[]⟩, .string (strOfNums ds)])).run Try.prog W = .ok (.bool (!(ownOk 1 ty co re sp dp ns sq ak fl wi ur (strOfNums os)))) W := by
      intro W
      rw [neq14]
      congr 3
      simp [ownOk]
    cases ho : ownOk 1 ty co re sp dp ns sq ak fl wi ur (strOfNums os)
    · rw [ho] at hq
      have hn : (L4R.mk 1 ty co re sp dp ns sq ak fl wi ur os ds).ok = false := by
        unfold L4R.ok l4Ok
        simp only [ho, Bool.false_and]
      rw [hn]
      exact rcheck1_a ty co re sp dp ns sq ak fl wi ur os ds w hd hos hq
    · rw [ho] at hq
      have hs : 8 = fixV 1 + (os.length : Int) := by
        have : os = [] := by unfold ownOk at ho; simp at ho; exact str_nil (by simp [ho])
        rw [this]; rfl
      have hr := rOk_ok 1 ty co re sp dp ns sq ak fl wi ur os ds 8 ho hs
      have := rcheck1_b ty co re sp dp ns sq ak fl wi ur os ds w hd hos hq
      rw [hr] at this
      exact this
  by_cases e2 : k = 2
  · subst e2
    have hq : ∀ W, (binOp .neq 32 (.agg #[.int .i64 2, .int .i64 ty, .int .i64 co, .int .u32 re, .int .i64 sp, .int .i64 dp, .bool ns, .int .u32 sq, .int .u32 ak, .int .i64 fl, .int .i64 wi, .int .i64 ur, .string (strOfNums os), .string (strOfNums ds)]) (.agg #[.int .i64 2, .int .i64 0, .int .i64 0, .int .u32 0, .int .i64 sp, .int .i64 dp, .bool ns, .int .u32 0, .int .u32 0, .int .i64 0, .int .i64 0, .int .i64 0, .string ⟨#[]⟩, .string (strOfNums ds)])).run Try.prog W = .ok (.bool (!(ownOk 2 ty co re sp dp ns sq ak fl wi ur (strOfNums os)))) W := by
      intro W
      rw [neq14]
      congr 3
      simp [ownOk]
    cases ho : ownOk 2 ty co re sp dp ns sq ak fl wi ur (strOfNums os)
    · rw [ho] at hq
      have hn : (L4R.mk 2 ty co re sp dp ns sq ak fl wi ur os ds).ok = false := by
        unfold L4R.ok l4Ok
        simp only [ho, Bool.false_and]
      rw [hn]
      exact rcheck2_a ty co re sp dp ns sq ak fl wi ur os ds w hd hos hq
    · rw [ho] at hq
      have hs : 8 = fixV 2 + (os.length : Int) := by
        have : os = [] := by unfold ownOk at ho; simp at ho; exact str_nil (by simp [ho])
        rw [this]; rfl
      have hr := rOk_ok 2 ty co re sp dp ns sq ak fl wi ur os ds 8 ho hs
      have := rcheck2_b ty co re sp dp ns sq ak fl wi ur os ds w hd hos hq
      rw [hr] at this
      exact this
  by_cases e3 : k = 3
  · subst e3
    have hq : ∀ W, (binOp .neq 32 (.agg #[.int .i64 3, .int .i64 ty, .int .i64 co, .int .u32 re, .int .i64 sp, .int .i64 dp, .bool ns, .int .u32 sq, .int .u32 ak, .int .i64 fl, .int .i64 wi, .int .i64 ur, .string (strOfNums os), .string (strOfNums ds)]) (.agg #[.int .i64 3, .int .i64 0, .int .i64 0, .int .u32 0, .int .i64 sp, .int .i64 dp, .bool false, .int .u32 sq, .int .u32 ak, .int .i64 fl, .int .i64 wi, .int .i64 ur, .string (strOfNums os), .string (strOfNums ds)])).run Try.prog W = .ok (.bool (!(ownOk 3 ty co re sp dp ns sq ak fl wi ur (strOfNums os)))) W := by
      intro W
      rw [neq14]
      congr 3
      simp [ownOk]
    cases ho : ownOk 3 ty co re sp dp ns sq ak fl wi ur (strOfNums os)
    · rw [ho] at hq
      have hn : (L4R.mk 3 ty co re sp dp ns sq ak fl wi ur os ds).ok = false := by
        unfold L4R.ok l4Ok
        simp only [ho, Bool.false_and]
      rw [hn]
      exact rcheck3_a ty co re sp dp ns sq ak fl wi ur os ds w hd hos hq
    · rw [ho] at hq
      have hs : (20 + (os.length : Int)) = fixV 3 + (os.length : Int) := by
        rw [show fixV 3 = 20 from rfl]
      have hr := rOk_ok 3 ty co re sp dp ns sq ak fl wi ur os ds (20 + (os.length : Int)) ho hs
      have := rcheck3_b ty co re sp dp ns sq ak fl wi ur os ds w hd hos hq
      rw [hr] at this
      exact this
  have hn : (L4R.mk k ty co re sp dp ns sq ak fl wi ur os ds).ok = false := by
    simp [L4R.ok, l4Ok, ownOk, e0, e1, e2, e3]
  rw [hn]
  exact rcheck_none k ty co re sp dp ns sq ak fl wi ur os ds w (by simp [e0]) (by simp [e1]) (by simp [e2]) (by simp [e3])
end Go.Proofs.Ytpiokeidcnbmbaa

namespace Go.Proofs.Ytpiokeidcnbmbaa
open Go.RowKit Go.Lib

/-- A number in two bytes, made by the document's two. -/
theorem two_any (x : Int) (hx : 0 ≤ x ∧ x ≤ 9223372036854775807) (w : World) :
    Calls Try.prog 68 #[.int .i64 x] w fun e w' => e = .returned (.slice (some ⟨w.heap.size, 0, none⟩) 2 2) ∧ w' = w.alloc (.cells ((be x 2).map (Value.int .u8)).toArray 5) := by
  have hu : IntKind.u64.wrap x = x := by simp [IntKind.wrap, IntKind.bits, IntKind.signed]; omega
  go_enter Try.func68, Try.ntmps68
  go_wp2_with fail
  refine (made2 x (by omega) _).mono ?_
  rintro e w' ⟨rfl, hw'⟩
  rw [hw']
  clear hw'
  go_wp2
  go_ret
  exact ⟨rfl, rfl⟩
end Go.Proofs.Ytpiokeidcnbmbaa

namespace Go.Proofs.Ytpiokeidcnbmbaa
open Go.RowKit Go.Lib
set_option maxRecDepth 20000 in
set_option maxHeartbeats 1000000 in
theorem renc_no (src dst k ty co re sp dp : Int) (ns : Bool) (sq ak fl wi ur : Int) (os ds : List Int) (w : World)
    (HK : Hid (∀ W, Calls Try.prog 66 #[.agg #[.int .i64 k, .int .i64 ty, .int .i64 co, .int .u32 re, .int .i64 sp, .int .i64 dp, .bool ns, .int .u32 sq, .int .u32 ak, .int .i64 fl, .int .i64 wi, .int .i64 ur, .string (strOfNums os), .string (strOfNums ds)]] W fun e w' => e = .returned (.int .i64 1) ∧ Below W.heap.size W w')) :
    Calls Try.prog 34 #[.int .u32 src, .int .u32 dst, .agg #[.int .i64 k, .int .i64 ty, .int .i64 co, .int .u32 re, .int .i64 sp, .int .i64 dp, .bool ns, .int .u32 sq, .int .u32 ak, .int .i64 fl, .int .i64 wi, .int .i64 ur, .string (strOfNums os), .string (strOfNums ds)]] w fun e w' => e = .returned (.tuple #[.slice none 0 0, .int .i64 1]) ∧ Below w.heap.size w w' := by
  go_enter Try.func34, Try.ntmps34
  go_wp2_with fail
  refine (HK.out _).mono ?_
  rintro e W1 ⟨rfl, hb1⟩
  have B1 : Hid (Below w.heap.size w W1) := (below1 w _).trans (hb1.mono (by simp))
  clear hb1
  go_wp2
  go_ret2
  exact ⟨rfl, B1.out⟩
end Go.Proofs.Ytpiokeidcnbmbaa

namespace Go.Proofs.Ytpiokeidcnbmbaa
open Go.RowKit Go.Lib
set_option linter.unusedSimpArgs false
theorem fits_icmp (ty co : Int) (h1 : 0 ≤ ty ∧ ty ≤ 255) (h2 : 0 ≤ co ∧ co ≤ 255) : ∀ i, 0 ≤ [ty, co, 0, 0].getD i 0 ∧ [ty, co, 0, 0].getD i 0 ≤ 255 := fits_append (xs := [ty, co]) (fits_two h1 h2) (fits_two (by omega) (by omega))
theorem own_row (W : World) (base : Nat) (L : List Int) (n : Nat) (hb : base ≤ W.heap.size) (hl : L.length = n) (hn : n ≤ 1000000) : (W.alloc (.cells (L.map (Value.int .u8)).toArray 5)).ownsRow base 5 1 (.slice (some ⟨W.heap.size, 0, none⟩) n n) n (L.map (Value.int .u8)) := by
  refine ⟨by simpa using hl, .inr ⟨W.heap.size, n, _, rfl, hb, heap_alloc_new W _, Nat.le_refl _, by unfold maxLen; omega, by simpa using hl, ?_⟩⟩
  rw [List.take_of_length_le (by simp; omega)]
theorem rb_icmp1 (W1 : World) (ty co re : Int) : RB W1 ((W1.alloc (.cells #[.int .u8 ty, .int .u8 co, .int .u8 0, .int .u8 0] 5)).drew.alloc (.cells ((be re (4 : Int).toNat).map (Value.int .u8)).toArray 5)) (.slice (some ⟨W1.heap.size, 0, none⟩) 4 4) 4 [ty, co, 0, 0] := by
  refine ⟨?_, ?_⟩
  · have := own_row W1 W1.heap.size [ty, co, 0, 0] 4 (Nat.le_refl _) rfl (by omega)
    exact World.ownsRow.alloc (World.ownsRow.drew this) _
  · exact ((below1 W1 _).drew).alloc (by simp) _
theorem bs_icmp1 (W1 : World) (ty co re : Int) : BS ((W1.alloc (.cells #[.int .u8 ty, .int .u8 co, .int .u8 0, .int .u8 0] 5)).drew.alloc (.cells ((be re (4 : Int).toNat).map (Value.int .u8)).toArray 5)) (some ⟨(W1.alloc (.cells #[.int .u8 ty, .int .u8 co, .int .u8 0, .int .u8 0] 5)).drew.heap.size, 0, none⟩) 4 (be re 4) :=
  own_bs (own_made (W1.alloc (.cells #[.int .u8 ty, .int .u8 co, .int .u8 0, .int .u8 0] 5)).drew _ 4 re (Nat.le_refl _) (by omega)) (be_bd _ _) (by omega)
theorem rb_icmp2 (W1 : World) (ty co re : Int) : RB W1 ((W1.alloc (.cells ((be re 4).map (Value.int .u8)).toArray 5)).alloc (.cells #[.int .u8 ty, .int .u8 co, .int .u8 0, .int .u8 0] 5)).drew (.slice (some ⟨W1.heap.size + 1, 0, none⟩) 4 4) 4 [ty, co, 0, 0] := by
  refine ⟨?_, (below2 W1 _ _).drew⟩
  have := own_row (W1.alloc (.cells ((be re 4).map (Value.int .u8)).toArray 5)) W1.heap.size [ty, co, 0, 0] 4 (by simp) rfl (by omega)
  rw [show (W1.alloc (.cells ((be re 4).map (Value.int .u8)).toArray 5)).heap.size = W1.heap.size + 1 by simp] at this
  exact World.ownsRow.drew this
theorem bs_icmp2 (W1 : World) (ty co re : Int) : BS ((W1.alloc (.cells ((be re 4).map (Value.int .u8)).toArray 5)).alloc (.cells #[.int .u8 ty, .int .u8 co, .int .u8 0, .int .u8 0] 5)).drew (some ⟨W1.heap.size, 0, none⟩) 4 (be re 4) :=
  ((own_bs (own_made W1 _ 4 re (Nat.le_refl _) (by omega)) (be_bd _ _) (by omega)).below (below1 _ _)).drew
end Go.Proofs.Ytpiokeidcnbmbaa

namespace Go.Proofs.Ytpiokeidcnbmbaa
open Go.RowKit
/-- A place that was not there at w. -/
def FrA (w : World) (a : Option Addr) : Prop := ∀ x, a = some x → w.heap.size ≤ x.block
theorem EncS.fr {w W V : World} {g N cap : Nat} {B : List Int} (h : EncS W V g N cap B) (hw : w.heap.size ≤ W.heap.size) : FrA w (some ⟨g, 0, none⟩) := by
  intro x hx
  cases hx
  rcases h.own.2 with ⟨h0, _⟩ | ⟨g', cap', cur, e, h1, _⟩
  · cases h0
  · cases e
    exact Nat.le_trans hw h1
end Go.Proofs.Ytpiokeidcnbmbaa

namespace Go.Proofs.Ytpiokeidcnbmbaa
open Go.RowKit Go.Lib
set_option linter.unusedSimpArgs false
set_option maxRecDepth 20000 in
set_option maxHeartbeats 4000000 in
theorem renf_icmp (src dst : Int) (ty co re sp dp : Int) (ns : Bool) (sq ak fl wi ur : Int) (os ds : List Int) (h1 : 0 ≤ ty ∧ ty ≤ 255) (h2 : 0 ≤ co ∧ co ≤ 255) (h3 : 0 ≤ re ∧ re ≤ 4294967295) (hd : ds.length ≤ 65507) (hfd : ∀ i, 0 ≤ ds.getD i 0 ∧ ds.getD i 0 ≤ 255) (w : World)
    (HK : Hid (∀ W, Calls Try.prog 66 #[.agg #[.int .i64 1, .int .i64 ty, .int .i64 co, .int .u32 re, .int .i64 sp, .int .i64 dp, .bool ns, .int .u32 sq, .int .u32 ak, .int .i64 fl, .int .i64 wi, .int .i64 ur, .string (strOfNums os), .string (strOfNums ds)]] W fun e w' => e = .returned (.int .i64 0) ∧ Below W.heap.size W w')) :
    Calls Try.prog 34 #[.int .u32 src, .int .u32 dst, .agg #[.int .i64 1, .int .i64 ty, .int .i64 co, .int .u32 re, .int .i64 sp, .int .i64 dp, .bool ns, .int .u32 sq, .int .u32 ak, .int .i64 fl, .int .i64 wi, .int .i64 ur, .string (strOfNums os), .string (strOfNums ds)]] w fun e w' => ∃ a cap, e = .returned (.tuple #[.slice a (8 + ds.length) cap, .int .i64 0]) ∧ BS w' a (8 + ds.length) (setC src dst 1 (([ty, co, 0, 0] ++ be re 4 ++ ds))) ∧ FrA w a ∧ Below w.heap.size w w' := by
  obtain ⟨i0, hi, hz0, hz1, hz2⟩ := info_parts info5
  have hq0 : IntKind.u8.wrap ty = ty := by rw [IntKind.wrap_u8]; omega
  have hq1 : IntKind.u8.wrap co = co := by rw [IntKind.wrap_u8]; omega
  have hq2 : IntKind.u64.wrap re = re := by simp [IntKind.wrap, IntKind.bits, IntKind.signed]; omega
  go_enter Try.func34, Try.ntmps34
  go_wp2_with fail
  refine (HK.out _).mono ?_
  clear HK
  rintro e W1 ⟨rfl, hb1⟩
  have A1 : Hid (AtB W1 w.heap.size #[.int .i64 1, .int .i64 ty, .int .i64 co, .int .u32 re, .int .i64 sp, .int .i64 dp, .bool ns, .int .u32 sq, .int .u32 ak, .int .i64 fl, .int .i64 wi, .int .i64 ur, .string (strOfNums os), .string (strOfNums ds)]) := AtB.below (atB_new w #[.int .i64 1, .int .i64 ty, .int .i64 co, .int .u32 re, .int .i64 sp, .int .i64 dp, .bool ns, .int .u32 sq, .int .u32 ak, .int .i64 fl, .int .i64 wi, .int .i64 ur, .string (strOfNums os), .string (strOfNums ds)] 32 _ rfl) hb1
  have B1 : Hid (Below w.heap.size w W1) := (below1 w _).trans (hb1.mono (by simp))
  clear hb1
  obtain ⟨x0, x1, x2, x3, x4, x5, x6, x7, x8, x9, x10, x11, x12, x13⟩ := AtB.cells14 A1.out
  go_wp2_with fail
  clear x0 x1 x2 x3 x4 x5 x6 x7 x8 x9 x10 x11 x12 x13
  refine wp_region_held_drew (S := (fun W => AtB W w.heap.size #[.int .i64 1, .int .i64 ty, .int .i64 co, .int .u32 re, .int .i64 sp, .int .i64 dp, .bool ns, .int .u32 sq, .int .u32 ak, .int .i64 fl, .int .i64 wi, .int .i64 ur, .string (strOfNums os), .string (strOfNums ds)])) (by kernel_rfl) A1.out (fun hHeld => ?_)
  refine wpAnyH_take (i := 0) (v := ?_) rfl (by kernel_rfl) (by kernel_rfl) (by kernel_rfl) (fun _ _ _ h => h) (Or.inl ⟨by rfl, ?_⟩) (by assumption) ?_
  rotate_left
  · (intro w hSw; (try dsimp only at hSw); go_simp; try with_reducible rfl)
  try simp only [List.getElem_toArray, List.getElem_cons_zero, List.getElem_cons_succ, Act.put, List.setIfInBounds_toArray, List.set_cons_zero, List.set_cons_succ]
  refine wpAnyH_take (i := 1) (v := .int .i64 ty) rfl (by kernel_rfl) (by kernel_rfl) (by kernel_rfl) (fun _ _ _ h => h) (Or.inl ⟨by rfl, fun W hW => by obtain ⟨x0, x1, x2, x3, x4, x5, x6, x7, x8, x9, x10, x11, x12, x13⟩ := AtB.cells14 hW; go_simp⟩) (by assumption) ?_
  try simp only [List.getElem_toArray, List.getElem_cons_zero, List.getElem_cons_succ, Act.put, List.setIfInBounds_toArray, List.set_cons_zero, List.set_cons_succ]
  refine wpAnyH_take (i := 2) (v := ?_) rfl (by kernel_rfl) (by kernel_rfl) (by kernel_rfl) (fun _ _ _ h => h) (Or.inl ⟨by rfl, ?_⟩) (by assumption) ?_
  rotate_left
  · (intro w hSw; (try dsimp only at hSw); go_simp; try with_reducible rfl)
  try simp only [List.getElem_toArray, List.getElem_cons_zero, List.getElem_cons_succ, Act.put, List.setIfInBounds_toArray, List.set_cons_zero, List.set_cons_succ]
  refine wpAnyH_take (i := 3) (v := ?_) rfl (by kernel_rfl) (by kernel_rfl) (by kernel_rfl) (fun _ _ _ h => h) (Or.inl ⟨by rfl, ?_⟩) (by assumption) ?_
  rotate_left
  · (intro w hSw; (try dsimp only at hSw); go_simp; try with_reducible rfl)
  try simp only [List.getElem_toArray, List.getElem_cons_zero, List.getElem_cons_succ, Act.put, List.setIfInBounds_toArray, List.set_cons_zero, List.set_cons_succ]
  refine wpAnyH_take (i := 4) (v := .int .i64 co) rfl (by kernel_rfl) (by kernel_rfl) (by kernel_rfl) (fun _ _ _ h => h) (Or.inl ⟨by rfl, fun W hW => by obtain ⟨x0, x1, x2, x3, x4, x5, x6, x7, x8, x9, x10, x11, x12, x13⟩ := AtB.cells14 hW; go_simp⟩) (by assumption) ?_
  try simp only [List.getElem_toArray, List.getElem_cons_zero, List.getElem_cons_succ, Act.put, List.setIfInBounds_toArray, List.set_cons_zero, List.set_cons_succ]
  refine wpAnyH_take (i := 5) (v := ?_) rfl (by kernel_rfl) (by kernel_rfl) (by kernel_rfl) (fun _ _ _ h => h) (Or.inl ⟨by rfl, ?_⟩) (by assumption) ?_
  rotate_left
  · (intro w hSw; (try dsimp only at hSw); go_simp; try with_reducible rfl)
  try simp only [List.getElem_toArray, List.getElem_cons_zero, List.getElem_cons_succ, Act.put, List.setIfInBounds_toArray, List.set_cons_zero, List.set_cons_succ]
  refine wpAnyH_take (i := 7) (v := ?_) rfl (by kernel_rfl) (by kernel_rfl) (by kernel_rfl) (fun _ _ _ h => h) (Or.inl ⟨by rfl, ?_⟩) (by assumption) ?_
  rotate_left
  · (intro w hSw; (try dsimp only at hSw); go_simp; try with_reducible rfl)
  try simp only [List.getElem_toArray, List.getElem_cons_zero, List.getElem_cons_succ, Act.put, List.setIfInBounds_toArray, List.set_cons_zero, List.set_cons_succ]
  refine wpAnyH_take (i := 8) (v := .int .u32 re) rfl (by kernel_rfl) (by kernel_rfl) (by kernel_rfl) (fun _ _ _ h => h) (Or.inl ⟨by rfl, fun W hW => by obtain ⟨x0, x1, x2, x3, x4, x5, x6, x7, x8, x9, x10, x11, x12, x13⟩ := AtB.cells14 hW; go_simp⟩) (by assumption) ?_
  try simp only [List.getElem_toArray, List.getElem_cons_zero, List.getElem_cons_succ, Act.put, List.setIfInBounds_toArray, List.set_cons_zero, List.set_cons_succ]
  refine wpAnyH_take (i := 9) (v := ?_) rfl (by kernel_rfl) (by kernel_rfl) (by kernel_rfl) (fun _ _ _ h => h) (Or.inl ⟨by rfl, ?_⟩) (by assumption) ?_
  rotate_left
  · (intro w hSw; (try dsimp only at hSw); go_simp; try with_reducible rfl)
  try simp only [List.getElem_toArray, List.getElem_cons_zero, List.getElem_cons_succ, Act.put, List.setIfInBounds_toArray, List.set_cons_zero, List.set_cons_succ]
  refine wpAnyH_ready (rs := [6, 10]) (by kernel_rfl) (by simp) ?_
  refine AllReadyH.cons (o := _) rfl (fun K hK => ?_) (AllReadyH.cons (o := _) rfl (fun K hK => ?_) AllReadyH.nil)
  · go_simp
    have A2 : Hid (AtB (W1.alloc (.cells #[.int .u8 ty, .int .u8 co, .int .u8 0, .int .u8 0] 5)).drew w.heap.size #[.int .i64 1, .int .i64 ty, .int .i64 co, .int .u32 re, .int .i64 sp, .int .i64 dp, .bool ns, .int .u32 sq, .int .u32 ak, .int .i64 fl, .int .i64 wi, .int .i64 ur, .string (strOfNums os), .string (strOfNums ds)]) := AtB.below A1.out ((below1 W1 _).drew)
    refine hK _ _ A2.out (fun hHeld => ?_)
    try simp only [List.getElem_toArray, List.getElem_cons_zero, List.getElem_cons_succ, Act.put, List.setIfInBounds_toArray, List.set_cons_zero, List.set_cons_succ]
    refine wpAnyH_ready (rs := [10]) (by kernel_rfl) (by simp) ?_
    refine AllReadyH.cons (o := _) rfl (fun K hK => ?_) AllReadyH.nil
    go_simp
    refine (made4 re (by omega) _).mono ?_
    rintro e w' ⟨rfl, hw'⟩
    rw [hw']
    clear hw'
    have A3 : Hid (AtB ((W1.alloc (.cells #[.int .u8 ty, .int .u8 co, .int .u8 0, .int .u8 0] 5)).drew.alloc (.cells ((be re (4 : Int).toNat).map (Value.int .u8)).toArray 5)) w.heap.size #[.int .i64 1, .int .i64 ty, .int .i64 co, .int .u32 re, .int .i64 sp, .int .i64 dp, .bool ns, .int .u32 sq, .int .u32 ak, .int .i64 fl, .int .i64 wi, .int .i64 ur, .string (strOfNums os), .string (strOfNums ds)]) := AtB.below A2.out (below1 _ _)
    refine hK _ _ A3.out (fun hHeld => ?_)
    try simp only [List.getElem_toArray, List.getElem_cons_zero, List.getElem_cons_succ, Act.put, List.setIfInBounds_toArray, List.set_cons_zero, List.set_cons_succ]
    refine wpAnyH_ready (rs := [11]) (by kernel_rfl) (by simp) ?_
    refine AllReadyH.cons (o := _) rfl (fun K hK => ?_) AllReadyH.nil
    refine step_append_rb (w1 := W1) Try.underlying22 info5 rfl (.tmp 30) (.tmp 34) rfl _ 4 [ty, co, 0, 0] rfl (rb_icmp1 W1 ty co re) _ 4 4 (be re 4) rfl (bs_icmp1 W1 ty co re) (by omega) ?_
    intro a2 c2 W4 r4
    have R4 : Hid (RB W1 W4 (.slice a2 8 c2) 8 ([ty, co, 0, 0] ++ be re 4)) := r4
    have A4 : Hid (AtB W4 w.heap.size #[.int .i64 1, .int .i64 ty, .int .i64 co, .int .u32 re, .int .i64 sp, .int .i64 dp, .bool ns, .int .u32 sq, .int .u32 ak, .int .i64 fl, .int .i64 wi, .int .i64 ur, .string (strOfNums os), .string (strOfNums ds)]) := AtB.below A1.out r4.bel
    clear r4
    refine hK _ _ A4.out (fun hHeld => ?_)
    try simp only [List.getElem_toArray, List.getElem_cons_zero, List.getElem_cons_succ, Act.put, List.setIfInBounds_toArray, List.set_cons_zero, List.set_cons_succ]
    refine wpAnyH_ready (rs := [12]) (by kernel_rfl) (by simp) ?_
    refine AllReadyH.cons (o := _) rfl (fun K hK => ?_) AllReadyH.nil
    go_simp
    refine hK _ _ A4.out (fun hHeld => ?_)
    refine wpAnyH_done (by kernel_rfl) ?_ _
    try simp only [List.getElem_toArray, List.getElem_cons_zero, List.getElem_cons_succ, Act.put, List.setIfInBounds_toArray, List.set_cons_zero, List.set_cons_succ]
    obtain ⟨x0, x1, x2, x3, x4, x5, x6, x7, x8, x9, x10, x11, x12, x13⟩ := AtB.cells14 A4.out
    have hd4 : (ds.length : Int) ≤ 65507 := by omega
    go_wp2_with (at_builtin; refine wpList_append_str (by rfl) _ _ 22 9 rfl W1.heap.size 5 i0 Try.underlying22 Try.underlying9 hi hz0 hz1 hz2 _ 8 _ rfl R4.out.own ds hfd rfl (by omega) R4.out.bel.size ?_)
    intro a5 c5 W5 own5 g5
    have B5 : Hid (Below W1.heap.size W1 W5) := R4.out.bel.grown g5 R4.out.bel.size (fun k hk => (World.ownsRow.lt R4.out.own k hk).1)
    obtain ⟨g, rfl, hg1, hg2⟩ := own_some own5 (by omega)
    have hcc := own_caps own5
    have E5 : Hid (EncS W1 W5 g (8 + ds.length) c5 ([ty, co, 0, 0] ++ be re 4 ++ ds)) := ⟨own5, B5.out, fits_append (fits_append (fits_icmp ty co h1 h2) (be_bd _ _)) hfd, by omega⟩
    clear x0 x1 x2 x3 x4 x5 x6 x7 x8 x9 x10 x11 x12 x13 own5 g5 R4 A4
    go_wp2_with fail
    have hSb := fld_bd (wsum ([ty, co, 0, 0] ++ be re 4 ++ ds)) (wsum_bd E5.out.fits)
    have HC : Hid (chkC src dst 1 ([ty, co, 0, 0] ++ be re 4 ++ ds) = 65535 - fld (wsum ([ty, co, 0, 0] ++ be re 4 ++ ds))) := by
      show _ = _
      unfold chkC sumV
      rw [if_neg (by omega), if_pos rfl]
    refine (rcheck_any _ E5.out.bs).mono ?_
    rintro e w' ⟨rfl, hw'⟩
    rw [hw']
    clear hw'
    generalize fld (wsum ([ty, co, 0, 0] ++ be re 4 ++ ds)) = Sm at *
    obtain ⟨cc, hcc2⟩ : ∃ c, 65535 - Sm = c := ⟨_, rfl⟩
    rw [hcc2] at HC ⊢
    have hcb : 0 ≤ cc ∧ cc ≤ 65535 := by omega
    clear hcc2 hSb
    have k2 := E5.out.cell 2 (by omega)
    have k3 := E5.out.cell 3 (by omega)
    have f2 := E5.out.own.frozenAt 2
    have f3 := E5.out.own.frozenAt 3
    have t1 : cc.tdiv 256 = cc / 256 := Int.tdiv_eq_ediv_of_nonneg hcb.1
    have t2 : cc.tmod 256 = cc % 256 := Int.tmod_eq_emod_of_nonneg hcb.1
    have t3 : IntKind.u8.wrap (cc / 256) = cc / 256 := by rw [IntKind.wrap_u8]; omega
    have t4 : IntKind.u8.wrap (cc % 256) = cc % 256 := by rw [IntKind.wrap_u8]; omega
    have t5 : IntKind.u16.wrap (cc / 256) = cc / 256 := by rw [IntKind.wrap_u16]; omega
    have hN2 : (2 : Int) < 8 + (ds.length : Int) := by omega
    have hN3 : (3 : Int) < 8 + (ds.length : Int) := by omega
    have E6 : Hid _ := (E5.out.set 2 (cc / 256) (by omega)).set 3 (cc % 256) (by omega)
    go_wp2
    go_ret2
    refine ⟨some ⟨g, 0, none⟩, c5, rfl, ?_, E6.out.fr B1.out.size, B1.out.trans (E6.out.bel.mono B1.out.size)⟩
    unfold setC
    rw [show chkC src dst 1 (ty :: co :: 0 :: 0 :: (be re 4 ++ ds)) = cc from HC.out]
    exact E6.out.bs
  · go_simp
    refine (made4 re (by omega) _).mono ?_
    rintro e w' ⟨rfl, hw'⟩
    rw [hw']
    clear hw'
    have A2 : Hid (AtB (W1.drew.alloc (.cells ((be re (4 : Int).toNat).map (Value.int .u8)).toArray 5)) w.heap.size #[.int .i64 1, .int .i64 ty, .int .i64 co, .int .u32 re, .int .i64 sp, .int .i64 dp, .bool ns, .int .u32 sq, .int .u32 ak, .int .i64 fl, .int .i64 wi, .int .i64 ur, .string (strOfNums os), .string (strOfNums ds)]) := AtB.below A1.out ((Below.refl W1.heap.size W1).drew.alloc (Nat.le_refl _) _)
    refine hK _ _ A2.out (fun hHeld => ?_)
    try simp only [List.getElem_toArray, List.getElem_cons_zero, List.getElem_cons_succ, Act.put, List.setIfInBounds_toArray, List.set_cons_zero, List.set_cons_succ]
    refine wpAnyH_ready (rs := [6]) (by kernel_rfl) (by simp) ?_
    refine AllReadyH.cons (o := _) rfl (fun K hK => ?_) AllReadyH.nil
    go_simp
    refine hK _ _ (AtB.below A1.out (below2 W1 _ _).drew) (fun hHeld => ?_)
    try simp only [List.getElem_toArray, List.getElem_cons_zero, List.getElem_cons_succ, Act.put, List.setIfInBounds_toArray, List.set_cons_zero, List.set_cons_succ]
    refine wpAnyH_ready (rs := [11]) (by kernel_rfl) (by simp) ?_
    refine AllReadyH.cons (o := _) rfl (fun K hK => ?_) AllReadyH.nil
    refine step_append_rb (w1 := W1) Try.underlying22 info5 rfl (.tmp 30) (.tmp 34) rfl _ 4 [ty, co, 0, 0] rfl (rb_icmp2 W1 ty co re) _ 4 4 (be re 4) rfl (bs_icmp2 W1 ty co re) (by omega) ?_
    intro a2 c2 W4 r4
    have R4 : Hid (RB W1 W4 (.slice a2 8 c2) 8 ([ty, co, 0, 0] ++ be re 4)) := r4
    have A4 : Hid (AtB W4 w.heap.size #[.int .i64 1, .int .i64 ty, .int .i64 co, .int .u32 re, .int .i64 sp, .int .i64 dp, .bool ns, .int .u32 sq, .int .u32 ak, .int .i64 fl, .int .i64 wi, .int .i64 ur, .string (strOfNums os), .string (strOfNums ds)]) := AtB.below A1.out r4.bel
    clear r4
    refine hK _ _ A4.out (fun hHeld => ?_)
    try simp only [List.getElem_toArray, List.getElem_cons_zero, List.getElem_cons_succ, Act.put, List.setIfInBounds_toArray, List.set_cons_zero, List.set_cons_succ]
    refine wpAnyH_ready (rs := [12]) (by kernel_rfl) (by simp) ?_
    refine AllReadyH.cons (o := _) rfl (fun K hK => ?_) AllReadyH.nil
    go_simp
    refine hK _ _ A4.out (fun hHeld => ?_)
    refine wpAnyH_done (by kernel_rfl) ?_ _
    try simp only [List.getElem_toArray, List.getElem_cons_zero, List.getElem_cons_succ, Act.put, List.setIfInBounds_toArray, List.set_cons_zero, List.set_cons_succ]
    obtain ⟨x0, x1, x2, x3, x4, x5, x6, x7, x8, x9, x10, x11, x12, x13⟩ := AtB.cells14 A4.out
    have hd4 : (ds.length : Int) ≤ 65507 := by omega
    go_wp2_with (at_builtin; refine wpList_append_str (by rfl) _ _ 22 9 rfl W1.heap.size 5 i0 Try.underlying22 Try.underlying9 hi hz0 hz1 hz2 _ 8 _ rfl R4.out.own ds hfd rfl (by omega) R4.out.bel.size ?_)
    intro a5 c5 W5 own5 g5
    have B5 : Hid (Below W1.heap.size W1 W5) := R4.out.bel.grown g5 R4.out.bel.size (fun k hk => (World.ownsRow.lt R4.out.own k hk).1)
    obtain ⟨g, rfl, hg1, hg2⟩ := own_some own5 (by omega)
    have hcc := own_caps own5
    have E5 : Hid (EncS W1 W5 g (8 + ds.length) c5 ([ty, co, 0, 0] ++ be re 4 ++ ds)) := ⟨own5, B5.out, fits_append (fits_append (fits_icmp ty co h1 h2) (be_bd _ _)) hfd, by omega⟩
    clear x0 x1 x2 x3 x4 x5 x6 x7 x8 x9 x10 x11 x12 x13 own5 g5 R4 A4
    go_wp2_with fail
    have hSb := fld_bd (wsum ([ty, co, 0, 0] ++ be re 4 ++ ds)) (wsum_bd E5.out.fits)
    have HC : Hid (chkC src dst 1 ([ty, co, 0, 0] ++ be re 4 ++ ds) = 65535 - fld (wsum ([ty, co, 0, 0] ++ be re 4 ++ ds))) := by
      show _ = _
      unfold chkC sumV
      rw [if_neg (by omega), if_pos rfl]
    refine (rcheck_any _ E5.out.bs).mono ?_
    rintro e w' ⟨rfl, hw'⟩
    rw [hw']
    clear hw'
    generalize fld (wsum ([ty, co, 0, 0] ++ be re 4 ++ ds)) = Sm at *
    obtain ⟨cc, hcc2⟩ : ∃ c, 65535 - Sm = c := ⟨_, rfl⟩
    rw [hcc2] at HC ⊢
    have hcb : 0 ≤ cc ∧ cc ≤ 65535 := by omega
    clear hcc2 hSb
    have k2 := E5.out.cell 2 (by omega)
    have k3 := E5.out.cell 3 (by omega)
    have f2 := E5.out.own.frozenAt 2
    have f3 := E5.out.own.frozenAt 3
    have t1 : cc.tdiv 256 = cc / 256 := Int.tdiv_eq_ediv_of_nonneg hcb.1
    have t2 : cc.tmod 256 = cc % 256 := Int.tmod_eq_emod_of_nonneg hcb.1
    have t3 : IntKind.u8.wrap (cc / 256) = cc / 256 := by rw [IntKind.wrap_u8]; omega
    have t4 : IntKind.u8.wrap (cc % 256) = cc % 256 := by rw [IntKind.wrap_u8]; omega
    have t5 : IntKind.u16.wrap (cc / 256) = cc / 256 := by rw [IntKind.wrap_u16]; omega
    have hN2 : (2 : Int) < 8 + (ds.length : Int) := by omega
    have hN3 : (3 : Int) < 8 + (ds.length : Int) := by omega
    have E6 : Hid _ := (E5.out.set 2 (cc / 256) (by omega)).set 3 (cc % 256) (by omega)
    go_wp2
    go_ret2
    refine ⟨some ⟨g, 0, none⟩, c5, rfl, ?_, E6.out.fr B1.out.size, B1.out.trans (E6.out.bel.mono B1.out.size)⟩
    unfold setC
    rw [show chkC src dst 1 (ty :: co :: 0 :: 0 :: (be re 4 ++ ds)) = cc from HC.out]
    exact E6.out.bs
end Go.Proofs.Ytpiokeidcnbmbaa

namespace Go.Proofs.Ytpiokeidcnbmbaa
open Go.RowKit Go.Lib
/-- Where z says, a pair of noughts lies; all below w1 is kept. -/
structure Zr (z : Option Nat) (w1 W : World) : Prop where
  bel : Below w1.heap.size w1 W
  at0 : ∀ b, z = some b → W.heap[b]? = some (.cells #[.int .u8 0, .int .u8 0] 5)
/-- A row under way, apart from the pair. -/
structure UR (z : Option Nat) (w1 W : World) (v : Value) (n : Nat) (xs : List Int) : Prop where
  rb : RB w1 W v n xs
  zr : Zr z w1 W
  ap : ∀ b, z = some b → v.ownBlock ≠ some b
theorem heap_some_lt {W : World} {b : Nat} {o : Obj} (h : W.heap[b]? = some o) : b < W.heap.size := by
  rcases Nat.lt_or_ge b W.heap.size with h1 | h1
  · exact h1
  · rw [Array.getElem?_eq_none h1] at h; cases h
theorem hao4 {W : World} {b : Nat} {o : Obj} (o' : Obj) (h : W.heap[b]? = some o) : (W.alloc o').heap[b]? = some o := by
  rw [← h]
  exact (below1 W o').block b (heap_some_lt h)
theorem Zr.alloc {z : Option Nat} {w1 W : World} (h : Zr z w1 W) (o : Obj) : Zr z w1 (W.alloc o) := ⟨h.bel.alloc h.bel.size _, fun b hb => hao4 o (h.at0 b hb)⟩
theorem UR.alloc {z : Option Nat} {w1 W : World} {v : Value} {n : Nat} {xs : List Int} (h : UR z w1 W v n xs) (o : Obj) : UR z w1 (W.alloc o) v n xs := ⟨⟨h.rb.own.alloc _, h.rb.bel.alloc h.rb.bel.size _⟩, h.zr.alloc o, h.ap⟩
theorem Zr.first {z : Option Nat} {w1 W : World} (h : Zr z w1 W) (x : Int) (n : Nat) (hn : n ≤ 6) : UR z w1 (W.alloc (.cells ((be x n).map (Value.int .u8)).toArray 5)) (.slice (some ⟨W.heap.size, 0, none⟩) n n) n (be x n) := by
  refine ⟨⟨own_made W _ _ x h.bel.size (by omega), h.bel.alloc h.bel.size _⟩, h.alloc _, fun b hb e => ?_⟩
  have h1 := heap_some_lt (h.at0 b hb)
  have : W.heap.size = b := by injection e
  omega
theorem Zr.build {w1 W : World} (h : Zr none w1 W) : Zr (some W.heap.size) w1 (W.alloc (.cells #[.int .u8 0, .int .u8 0] 5)) :=
  ⟨h.bel.alloc h.bel.size _, fun b hb => by injection hb with hb; subst hb; exact heap_alloc_new W _⟩
theorem UR.build {w1 W : World} {v : Value} {n : Nat} {xs : List Int} (h : UR none w1 W v n xs) : UR (some W.heap.size) w1 (W.alloc (.cells #[.int .u8 0, .int .u8 0] 5)) v n xs := by
  refine ⟨⟨h.rb.own.alloc _, h.rb.bel.alloc h.rb.bel.size _⟩, h.zr.build, fun b hb e => ?_⟩
  injection hb with hb
  have := (World.ownsRow.lt h.rb.own b e).2
  omega
theorem Zr.bs {b : Nat} {w1 W : World} (h : Zr (some b) w1 W) : BS W (some ⟨b, 0, none⟩) 2 [0, 0] := by
  have h1 := h.at0 b rfl
  refine ⟨rfl, fun i => ?_, by omega, .inr ⟨b, 0, rfl, fun i hi => ?_⟩⟩
  · rcases i with _ | _ | i <;> simp
  · have hi2 : i < 2 := by simpa using hi
    rcases i with _ | _ | i
    · simp [World.cell?, h1]
    · simp [World.cell?, h1]
    · omega
theorem two_first {z : Option Nat} {w1 W : World} (h : Zr z w1 W) (x : Int) (hx : 0 ≤ x ∧ x ≤ 9223372036854775807) :
    Calls Try.prog 68 #[.int .i64 x] W fun e w' => ∃ a, e = .returned (.slice a 2 2) ∧ UR z w1 w' (.slice a 2 2) 2 (be x 2) := by
  refine (two_any x hx W).mono ?_
  rintro e w' ⟨rfl, rfl⟩
  exact ⟨_, rfl, h.first x 2 (by omega)⟩
theorem two_next {z : Option Nat} {w1 W : World} {v : Value} {n : Nat} {xs : List Int} (h : UR z w1 W v n xs) (x : Int) (hx : 0 ≤ x ∧ x ≤ 9223372036854775807) :
    Calls Try.prog 68 #[.int .i64 x] W fun e w' => ∃ a, e = .returned (.slice a 2 2) ∧ UR z w1 w' v n xs ∧ BS w' a 2 (be x 2) := by
  refine (two_any x hx W).mono ?_
  rintro e w' ⟨rfl, rfl⟩
  exact ⟨_, rfl, h.alloc _, own_bs (own_made W _ 2 x (Nat.le_refl _) (by omega)) (be_bd _ _) (by omega)⟩
theorem four_next {z : Option Nat} {w1 W : World} {v : Value} {n : Nat} {xs : List Int} (h : UR z w1 W v n xs) (x : Int) (hx : 0 ≤ x ∧ x ≤ 18446744073709551615) :
    Calls Try.prog 65 #[.int .u64 x, .int .i64 4] W fun e w' => ∃ a, e = .returned (.slice a 4 4) ∧ UR z w1 w' v n xs ∧ BS w' a 4 (be x 4) := by
  refine (made4 x hx W).mono ?_
  rintro e w' ⟨rfl, rfl⟩
  exact ⟨_, rfl, h.alloc _, own_bs (own_made W _ 4 x (Nat.le_refl _) (by omega)) (be_bd _ _) (by omega)⟩
theorem ur_step {z : Option Nat} {w1 W w' : World} {v v' : Value} {n m : Nat} {xs zs : List Int} (h : UR z w1 W v n xs) (h1 : w'.ownsRow w1.heap.size 5 1 v' (n + m) ((xs ++ zs).map (Value.int .u8))) (h2 : W.grownBy w' v.ownBlock) (hn : 2 < n + m) : UR z w1 w' v' (n + m) (xs ++ zs) := by
  have r := rb_step h.rb h1 h2
  have k : ∀ b, z = some b → w'.heap[b]? = some (.cells #[.int .u8 0, .int .u8 0] 5) := fun b hb => by
    rw [h2.block b (heap_some_lt (h.zr.at0 b hb)) (fun e => h.ap b hb e.symm)]
    exact h.zr.at0 b hb
  refine ⟨r, ⟨r.bel, k⟩, fun b hb e => ?_⟩
  rcases h1.2 with ⟨-, h0⟩ | ⟨g, cap', cur, e1, _, hcells, hnc, _, hsz, _⟩
  · omega
  · have e2 : g = b := by rw [e1] at e; injection e
    subst e2
    rw [k g hb] at hcells
    injection hcells with hcells
    injection hcells with hcells
    have h2 : cur.size = 2 := by rw [← hcells]; rfl
    omega
theorem step_append_ur {P : Program} (hP : P.underlying 22 = some (.slice 5)) (hi5 : (P.info? 5).map (fun i => (i.zero, i.size, i.bytes)) = some (some (.int .u8 0), 1, 1)) {z : Option Nat} {w1 w : World} {ops : Array Oper} {o : Oper} {act : Act} {K : Act → World → Prop} {Q : Exit → Act → World → Prop} {E : Prop} (hgd : o.guard = none) (s x : Operand)
    (ho : o.op = .call { callee := .builtin .append, args := #[s, x], argTypes := #[22, 22] })
    (v : Value) (n : Nat) (xs : List Int) (hs : act.eval s = v) (hr : UR z w1 w v n xs)
    (a : Option Addr) (m c : Nat) (zs : List Int) (hx : act.eval x = .slice a m c) (hbs : BS w a m zs) (hsum : n + m ≤ 140737488355328) (hn : 2 < n + m)
    (h : ∀ a' cap' w', UR z w1 w' (.slice a' (n + m) cap') (n + m) (xs ++ zs) → K (act.put o.dst (.slice a' (n + m) cap')) w') :
    if Region.wanted o (yielded ops act.tmps) = true then Oper.wp P o act w K Q else E := by
  have hw : Region.wanted o (yielded ops act.tmps) = true := by simp [Region.wanted, hgd]
  rw [if_pos hw]
  obtain ⟨i0, hi, hz0, hz1, hz2⟩ := info_parts hi5
  obtain ⟨v', w', hrun, h2, h3⟩ := run_append_bs (P := P) w w1.heap.size 22 o.type 5 i0 hP hi hz0 hz1 hz2 v n xs hr.rb.own c hbs hsum hr.rb.bel.size
  obtain ⟨a', cap', rfl, _⟩ := own_form h2
  unfold Oper.wp execOp
  simp only [ho, resolve, invoke, builtin, Sem.run_bind, Sem.run_pure, Result.andThen_ok, List.map_toArray, List.map_cons, List.map_nil, hs, hx, hrun]
  exact h a' cap' w' (ur_step hr h2 h3 hn)
end Go.Proofs.Ytpiokeidcnbmbaa
