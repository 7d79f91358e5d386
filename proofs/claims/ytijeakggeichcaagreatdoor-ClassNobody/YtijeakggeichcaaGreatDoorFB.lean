/- The rows of all fields, by number. No condition. -/
import Derived.Test.YtijeakggeichcaaGreatDoorFA
namespace Go.Proofs.YtijeakggeichcaaGreatDoor
open Go.RowKit

theorem three_first (w : World) (A B C : Obj) : (((w.alloc A).alloc B).alloc C).heap[w.heap.size]? = some A := (heap_alloc_old _ _ (by simp; omega)).trans (two_first _ _ _)
theorem four_first (w : World) (A B C D : Obj) : ((((w.alloc A).alloc B).alloc C).alloc D).heap[w.heap.size]? = some A := (heap_alloc_old _ _ (by simp; omega)).trans (three_first _ _ _ _)
theorem below3 (w : World) (A B C : Obj) : Below w.heap.size w (((w.alloc A).alloc B).alloc C) := (below2 w A B).alloc (by simp; omega) C
theorem below4 (w : World) (A B C D : Obj) : Below w.heap.size w ((((w.alloc A).alloc B).alloc C).alloc D) := (below3 w A B C).alloc (by simp; omega) D

theorem callE_1 : ∀ args W, (callFunc 92 args).run Tryz.prog W = .ok (.enter 92 args) W := fun args W => by simp [go_sem]
set_option maxHeartbeats 400000 in
theorem place_1 : ∀ (W : World) (b : Nat), True → Calls Tryz.prog 92 (#[.pointer (some ⟨b, 0, none⟩)] ++ #[]) W fun e W' => e = .returned (.pointer (some ⟨b, 0, none⟩)) ∧ ∃ nq, W' = W.drewN nq := by
  intro w b _
  simp only [Array.append_empty]
  go_enter Tryz.func92, Tryz.ntmps92
  go_wp2
  go_ret
  exact ⟨rfl, 0, rfl⟩
set_option maxHeartbeats 1000000 in
theorem row_1 (w : World) : Calls Tryz.prog 65 #[.int .i64 1] w fun e w' =>
    ∃ p, e = .returned (rowV ⟨#[101, 116, 104, 46, 100, 115, 116]⟩ 48 0 (.func (Fn.func 136) #[] #[.pointer (some ⟨p, 0, none⟩)]) (.func (Fn.func 137) #[] #[.pointer (some ⟨p, 0, none⟩)])) ∧ w'.cell? ⟨p, 0, none⟩ = some (.func (Fn.func 92) #[] #[]) ∧ Below w.heap.size w w' := by
  go_enter Tryz.func65, Tryz.ntmps65
  go_wp2_with fail
  refine (number_u64 ⟨#[101, 116, 104, 46, 100, 115, 116]⟩ 48 0 _ _ _).mono ?_
  rintro e w1 ⟨rfl, rfl⟩
  unfold rowV
  go_wp2
  exact bodyPost_ret (results_cell_row (p := 2) (ty := 148) rfl _ _ w.heap.size 148 _ (0, 0) _ rfl (three_first _ _ _ _) Tryz.underlying148 rfl (by kernel_rfl)) rfl ⟨w.heap.size + 1, rfl, by simp [go_sem], below3 _ _ _ _⟩

theorem callE_2 : ∀ args W, (callFunc 93 args).run Tryz.prog W = .ok (.enter 93 args) W := fun args W => by simp [go_sem]
set_option maxHeartbeats 400000 in
theorem place_2 : ∀ (W : World) (b : Nat), True → Calls Tryz.prog 93 (#[.pointer (some ⟨b, 0, none⟩)] ++ #[]) W fun e W' => e = .returned (.pointer (some ⟨b, 1, none⟩)) ∧ ∃ nq, W' = W.drewN nq := by
  intro w b _
  simp only [Array.append_empty]
  go_enter Tryz.func93, Tryz.ntmps93
  go_wp2
  go_ret
  exact ⟨rfl, 0, rfl⟩
set_option maxHeartbeats 1000000 in
theorem row_2 (w : World) : Calls Tryz.prog 65 #[.int .i64 2] w fun e w' =>
    ∃ p, e = .returned (rowV ⟨#[101, 116, 104, 46, 115, 114, 99]⟩ 48 0 (.func (Fn.func 136) #[] #[.pointer (some ⟨p, 0, none⟩)]) (.func (Fn.func 137) #[] #[.pointer (some ⟨p, 0, none⟩)])) ∧ w'.cell? ⟨p, 0, none⟩ = some (.func (Fn.func 93) #[] #[]) ∧ Below w.heap.size w w' := by
  go_enter Tryz.func65, Tryz.ntmps65
  go_wp2_with fail
  refine (number_u64 ⟨#[101, 116, 104, 46, 115, 114, 99]⟩ 48 0 _ _ _).mono ?_
  rintro e w1 ⟨rfl, rfl⟩
  unfold rowV
  go_wp2
  exact bodyPost_ret (results_cell_row (p := 2) (ty := 148) rfl _ _ w.heap.size 148 _ (0, 0) _ rfl (three_first _ _ _ _) Tryz.underlying148 rfl (by kernel_rfl)) rfl ⟨w.heap.size + 1, rfl, by simp [go_sem], below3 _ _ _ _⟩

theorem callE_3 : ∀ args W, (callFunc 95 args).run Tryz.prog W = .ok (.enter 95 args) W := fun args W => by simp [go_sem]
set_option maxHeartbeats 400000 in
theorem place_3 : ∀ (W : World) (b : Nat), True → Calls Tryz.prog 95 (#[.pointer (some ⟨b, 0, none⟩)] ++ #[]) W fun e W' => e = .returned (.pointer (some ⟨b, 4, none⟩)) ∧ ∃ nq, W' = W.drewN nq := by
  intro w b _
  simp only [Array.append_empty]
  go_enter Tryz.func95, Tryz.ntmps95
  go_wp2
  go_ret
  exact ⟨rfl, 0, rfl⟩
set_option maxHeartbeats 1000000 in
theorem row_3 (w : World) : Calls Tryz.prog 65 #[.int .i64 3] w fun e w' =>
    ∃ p, e = .returned (rowV ⟨#[101, 116, 104, 46, 116, 121, 112, 101]⟩ 16 0 (.func (Fn.func 138) #[] #[.pointer (some ⟨p, 0, none⟩)]) (.func (Fn.func 139) #[] #[.pointer (some ⟨p, 0, none⟩)])) ∧ w'.cell? ⟨p, 0, none⟩ = some (.func (Fn.func 95) #[] #[]) ∧ Below w.heap.size w w' := by
  go_enter Tryz.func65, Tryz.ntmps65
  go_wp2_with fail
  refine (number_i64 ⟨#[101, 116, 104, 46, 116, 121, 112, 101]⟩ 16 0 _ _ _).mono ?_
  rintro e w1 ⟨rfl, rfl⟩
  unfold rowV
  go_wp2
  exact bodyPost_ret (results_cell_row (p := 2) (ty := 148) rfl _ _ w.heap.size 148 _ (0, 0) _ rfl (three_first _ _ _ _) Tryz.underlying148 rfl (by kernel_rfl)) rfl ⟨w.heap.size + 1, rfl, by simp [go_sem], below3 _ _ _ _⟩

theorem callE_4 : ∀ args W, (callFunc 98 args).run Tryz.prog W = .ok (.enter 98 args) W := fun args W => by simp [go_sem]
set_option maxHeartbeats 400000 in
theorem place_4 : ∀ (W : World) (b : Nat), True → Calls Tryz.prog 98 (#[.pointer (some ⟨b, 0, none⟩)] ++ #[]) W fun e W' => e = .returned (.pointer (some ⟨b, 6, none⟩)) ∧ ∃ nq, W' = W.drewN nq := by
  intro w b _
  simp only [Array.append_empty]
  go_enter Tryz.func98, Tryz.ntmps98
  go_wp2
  go_ret
  exact ⟨rfl, 0, rfl⟩
set_option maxHeartbeats 1000000 in
theorem row_5 (w : World) : Calls Tryz.prog 65 #[.int .i64 5] w fun e w' =>
    ∃ p, e = .returned (rowV ⟨#[97, 114, 112, 46, 111, 112]⟩ 16 1 (.func (Fn.func 138) #[] #[.pointer (some ⟨p, 0, none⟩)]) (.func (Fn.func 139) #[] #[.pointer (some ⟨p, 0, none⟩)])) ∧ w'.cell? ⟨p, 0, none⟩ = some (.func (Fn.func 98) #[] #[]) ∧ Below w.heap.size w w' := by
  go_enter Tryz.func65, Tryz.ntmps65
  go_wp2_with fail
  refine (number_i64 ⟨#[97, 114, 112, 46, 111, 112]⟩ 16 1 _ _ _).mono ?_
  rintro e w1 ⟨rfl, rfl⟩
  unfold rowV
  go_wp2
  exact bodyPost_ret (results_cell_row (p := 2) (ty := 148) rfl _ _ w.heap.size 148 _ (0, 0) _ rfl (three_first _ _ _ _) Tryz.underlying148 rfl (by kernel_rfl)) rfl ⟨w.heap.size + 1, rfl, by simp [go_sem], below3 _ _ _ _⟩

theorem callE_5 : ∀ args W, (callFunc 99 args).run Tryz.prog W = .ok (.enter 99 args) W := fun args W => by simp [go_sem]
set_option maxHeartbeats 400000 in
theorem place_5 : ∀ (W : World) (b : Nat), True → Calls Tryz.prog 99 (#[.pointer (some ⟨b, 0, none⟩)] ++ #[]) W fun e W' => e = .returned (.pointer (some ⟨b, 7, none⟩)) ∧ ∃ nq, W' = W.drewN nq := by
  intro w b _
  simp only [Array.append_empty]
  go_enter Tryz.func99, Tryz.ntmps99
  go_wp2
  go_ret
  exact ⟨rfl, 0, rfl⟩
set_option maxHeartbeats 1000000 in
theorem row_6 (w : World) : Calls Tryz.prog 65 #[.int .i64 6] w fun e w' =>
    ∃ p, e = .returned (rowV ⟨#[97, 114, 112, 46, 115, 104, 97]⟩ 48 1 (.func (Fn.func 136) #[] #[.pointer (some ⟨p, 0, none⟩)]) (.func (Fn.func 137) #[] #[.pointer (some ⟨p, 0, none⟩)])) ∧ w'.cell? ⟨p, 0, none⟩ = some (.func (Fn.func 99) #[] #[]) ∧ Below w.heap.size w w' := by
  go_enter Tryz.func65, Tryz.ntmps65
  go_wp2_with fail
  refine (number_u64 ⟨#[97, 114, 112, 46, 115, 104, 97]⟩ 48 1 _ _ _).mono ?_
  rintro e w1 ⟨rfl, rfl⟩
  unfold rowV
  go_wp2
  exact bodyPost_ret (results_cell_row (p := 2) (ty := 148) rfl _ _ w.heap.size 148 _ (0, 0) _ rfl (three_first _ _ _ _) Tryz.underlying148 rfl (by kernel_rfl)) rfl ⟨w.heap.size + 1, rfl, by simp [go_sem], below3 _ _ _ _⟩

theorem callE_6 : ∀ args W, (callFunc 101 args).run Tryz.prog W = .ok (.enter 101 args) W := fun args W => by simp [go_sem]
set_option maxHeartbeats 400000 in
theorem place_6 : ∀ (W : World) (b : Nat), True → Calls Tryz.prog 101 (#[.pointer (some ⟨b, 0, none⟩)] ++ #[]) W fun e W' => e = .returned (.pointer (some ⟨b, 8, none⟩)) ∧ ∃ nq, W' = W.drewN nq := by
  intro w b _
  simp only [Array.append_empty]
  go_enter Tryz.func101, Tryz.ntmps101
  go_wp2
  go_ret
  exact ⟨rfl, 0, rfl⟩
set_option maxHeartbeats 1000000 in
theorem row_7 (w : World) : Calls Tryz.prog 65 #[.int .i64 7] w fun e w' =>
    ∃ p, e = .returned (rowV ⟨#[97, 114, 112, 46, 115, 112, 97]⟩ 32 1 (.func (Fn.func 140) #[] #[.pointer (some ⟨p, 0, none⟩)]) (.func (Fn.func 141) #[] #[.pointer (some ⟨p, 0, none⟩)])) ∧ w'.cell? ⟨p, 0, none⟩ = some (.func (Fn.func 101) #[] #[]) ∧ Below w.heap.size w w' := by
  go_enter Tryz.func65, Tryz.ntmps65
  go_wp2_with fail
  refine (number_u32 ⟨#[97, 114, 112, 46, 115, 112, 97]⟩ 32 1 _ _ _).mono ?_
  rintro e w1 ⟨rfl, rfl⟩
  unfold rowV
  go_wp2
  exact bodyPost_ret (results_cell_row (p := 2) (ty := 148) rfl _ _ w.heap.size 148 _ (0, 0) _ rfl (three_first _ _ _ _) Tryz.underlying148 rfl (by kernel_rfl)) rfl ⟨w.heap.size + 1, rfl, by simp [go_sem], below3 _ _ _ _⟩

theorem callE_7 : ∀ args W, (callFunc 102 args).run Tryz.prog W = .ok (.enter 102 args) W := fun args W => by simp [go_sem]
set_option maxHeartbeats 400000 in
theorem place_7 : ∀ (W : World) (b : Nat), True → Calls Tryz.prog 102 (#[.pointer (some ⟨b, 0, none⟩)] ++ #[]) W fun e W' => e = .returned (.pointer (some ⟨b, 9, none⟩)) ∧ ∃ nq, W' = W.drewN nq := by
  intro w b _
  simp only [Array.append_empty]
  go_enter Tryz.func102, Tryz.ntmps102
  go_wp2
  go_ret
  exact ⟨rfl, 0, rfl⟩
set_option maxHeartbeats 1000000 in
theorem row_8 (w : World) : Calls Tryz.prog 65 #[.int .i64 8] w fun e w' =>
    ∃ p, e = .returned (rowV ⟨#[97, 114, 112, 46, 116, 104, 97]⟩ 48 1 (.func (Fn.func 136) #[] #[.pointer (some ⟨p, 0, none⟩)]) (.func (Fn.func 137) #[] #[.pointer (some ⟨p, 0, none⟩)])) ∧ w'.cell? ⟨p, 0, none⟩ = some (.func (Fn.func 102) #[] #[]) ∧ Below w.heap.size w w' := by
  go_enter Tryz.func65, Tryz.ntmps65
  go_wp2_with fail
  refine (number_u64 ⟨#[97, 114, 112, 46, 116, 104, 97]⟩ 48 1 _ _ _).mono ?_
  rintro e w1 ⟨rfl, rfl⟩
  unfold rowV
  go_wp2
  exact bodyPost_ret (results_cell_row (p := 2) (ty := 148) rfl _ _ w.heap.size 148 _ (0, 0) _ rfl (three_first _ _ _ _) Tryz.underlying148 rfl (by kernel_rfl)) rfl ⟨w.heap.size + 1, rfl, by simp [go_sem], below3 _ _ _ _⟩

theorem callE_8 : ∀ args W, (callFunc 103 args).run Tryz.prog W = .ok (.enter 103 args) W := fun args W => by simp [go_sem]
set_option maxHeartbeats 400000 in
theorem place_8 : ∀ (W : World) (b : Nat), True → Calls Tryz.prog 103 (#[.pointer (some ⟨b, 0, none⟩)] ++ #[]) W fun e W' => e = .returned (.pointer (some ⟨b, 10, none⟩)) ∧ ∃ nq, W' = W.drewN nq := by
  intro w b _
  simp only [Array.append_empty]
  go_enter Tryz.func103, Tryz.ntmps103
  go_wp2
  go_ret
  exact ⟨rfl, 0, rfl⟩
set_option maxHeartbeats 1000000 in
theorem row_9 (w : World) : Calls Tryz.prog 65 #[.int .i64 9] w fun e w' =>
    ∃ p, e = .returned (rowV ⟨#[97, 114, 112, 46, 116, 112, 97]⟩ 32 1 (.func (Fn.func 140) #[] #[.pointer (some ⟨p, 0, none⟩)]) (.func (Fn.func 141) #[] #[.pointer (some ⟨p, 0, none⟩)])) ∧ w'.cell? ⟨p, 0, none⟩ = some (.func (Fn.func 103) #[] #[]) ∧ Below w.heap.size w w' := by
  go_enter Tryz.func65, Tryz.ntmps65
  go_wp2_with fail
  refine (number_u32 ⟨#[97, 114, 112, 46, 116, 112, 97]⟩ 32 1 _ _ _).mono ?_
  rintro e w1 ⟨rfl, rfl⟩
  unfold rowV
  go_wp2
  exact bodyPost_ret (results_cell_row (p := 2) (ty := 148) rfl _ _ w.heap.size 148 _ (0, 0) _ rfl (three_first _ _ _ _) Tryz.underlying148 rfl (by kernel_rfl)) rfl ⟨w.heap.size + 1, rfl, by simp [go_sem], below3 _ _ _ _⟩

theorem callE_9 : ∀ args W, (callFunc 104 args).run Tryz.prog W = .ok (.enter 104 args) W := fun args W => by simp [go_sem]
set_option maxHeartbeats 400000 in
theorem place_9 : ∀ (W : World) (b : Nat), True → Calls Tryz.prog 104 (#[.pointer (some ⟨b, 0, none⟩)] ++ #[]) W fun e W' => e = .returned (.pointer (some ⟨b, 17, none⟩)) ∧ ∃ nq, W' = W.drewN nq := by
  intro w b _
  simp only [Array.append_empty]
  go_enter Tryz.func104, Tryz.ntmps104
  go_wp2
  go_ret
  exact ⟨rfl, 0, rfl⟩
set_option maxHeartbeats 1000000 in
theorem row_10 (w : World) : Calls Tryz.prog 65 #[.int .i64 10] w fun e w' =>
    ∃ p, e = .returned (rowV ⟨#[105, 112, 52, 46, 115, 114, 99]⟩ 32 2 (.func (Fn.func 140) #[] #[.pointer (some ⟨p, 0, none⟩)]) (.func (Fn.func 141) #[] #[.pointer (some ⟨p, 0, none⟩)])) ∧ w'.cell? ⟨p, 0, none⟩ = some (.func (Fn.func 104) #[] #[]) ∧ Below w.heap.size w w' := by
  go_enter Tryz.func65, Tryz.ntmps65
  go_wp2_with fail
  refine (number_u32 ⟨#[105, 112, 52, 46, 115, 114, 99]⟩ 32 2 _ _ _).mono ?_
  rintro e w1 ⟨rfl, rfl⟩
  unfold rowV
  go_wp2
  exact bodyPost_ret (results_cell_row (p := 2) (ty := 148) rfl _ _ w.heap.size 148 _ (0, 0) _ rfl (three_first _ _ _ _) Tryz.underlying148 rfl (by kernel_rfl)) rfl ⟨w.heap.size + 1, rfl, by simp [go_sem], below3 _ _ _ _⟩

theorem callE_10 : ∀ args W, (callFunc 105 args).run Tryz.prog W = .ok (.enter 105 args) W := fun args W => by simp [go_sem]
set_option maxHeartbeats 400000 in
theorem place_10 : ∀ (W : World) (b : Nat), True → Calls Tryz.prog 105 (#[.pointer (some ⟨b, 0, none⟩)] ++ #[]) W fun e W' => e = .returned (.pointer (some ⟨b, 18, none⟩)) ∧ ∃ nq, W' = W.drewN nq := by
  intro w b _
  simp only [Array.append_empty]
  go_enter Tryz.func105, Tryz.ntmps105
  go_wp2
  go_ret
  exact ⟨rfl, 0, rfl⟩
set_option maxHeartbeats 1000000 in
theorem row_11 (w : World) : Calls Tryz.prog 65 #[.int .i64 11] w fun e w' =>
    ∃ p, e = .returned (rowV ⟨#[105, 112, 52, 46, 100, 115, 116]⟩ 32 2 (.func (Fn.func 140) #[] #[.pointer (some ⟨p, 0, none⟩)]) (.func (Fn.func 141) #[] #[.pointer (some ⟨p, 0, none⟩)])) ∧ w'.cell? ⟨p, 0, none⟩ = some (.func (Fn.func 105) #[] #[]) ∧ Below w.heap.size w w' := by
  go_enter Tryz.func65, Tryz.ntmps65
  go_wp2_with fail
  refine (number_u32 ⟨#[105, 112, 52, 46, 100, 115, 116]⟩ 32 2 _ _ _).mono ?_
  rintro e w1 ⟨rfl, rfl⟩
  unfold rowV
  go_wp2
  exact bodyPost_ret (results_cell_row (p := 2) (ty := 148) rfl _ _ w.heap.size 148 _ (0, 0) _ rfl (three_first _ _ _ _) Tryz.underlying148 rfl (by kernel_rfl)) rfl ⟨w.heap.size + 1, rfl, by simp [go_sem], below3 _ _ _ _⟩

theorem callE_11 : ∀ args W, (callFunc 106 args).run Tryz.prog W = .ok (.enter 106 args) W := fun args W => by simp [go_sem]
set_option maxHeartbeats 400000 in
theorem place_11 : ∀ (W : World) (b : Nat), True → Calls Tryz.prog 106 (#[.pointer (some ⟨b, 0, none⟩)] ++ #[]) W fun e W' => e = .returned (.pointer (some ⟨b, 16, none⟩)) ∧ ∃ nq, W' = W.drewN nq := by
  intro w b _
  simp only [Array.append_empty]
  go_enter Tryz.func106, Tryz.ntmps106
  go_wp2
  go_ret
  exact ⟨rfl, 0, rfl⟩
set_option maxHeartbeats 1000000 in
theorem row_12 (w : World) : Calls Tryz.prog 65 #[.int .i64 12] w fun e w' =>
    ∃ p, e = .returned (rowV ⟨#[105, 112, 46, 112, 114, 111, 116, 111]⟩ 8 2 (.func (Fn.func 138) #[] #[.pointer (some ⟨p, 0, none⟩)]) (.func (Fn.func 139) #[] #[.pointer (some ⟨p, 0, none⟩)])) ∧ w'.cell? ⟨p, 0, none⟩ = some (.func (Fn.func 106) #[] #[]) ∧ Below w.heap.size w w' := by
  go_enter Tryz.func65, Tryz.ntmps65
  go_wp2_with fail
  refine (number_i64 ⟨#[105, 112, 46, 112, 114, 111, 116, 111]⟩ 8 2 _ _ _).mono ?_
  rintro e w1 ⟨rfl, rfl⟩
  unfold rowV
  go_wp2
  exact bodyPost_ret (results_cell_row (p := 2) (ty := 148) rfl _ _ w.heap.size 148 _ (0, 0) _ rfl (three_first _ _ _ _) Tryz.underlying148 rfl (by kernel_rfl)) rfl ⟨w.heap.size + 1, rfl, by simp [go_sem], below3 _ _ _ _⟩

theorem callE_12 : ∀ args W, (callFunc 107 args).run Tryz.prog W = .ok (.enter 107 args) W := fun args W => by simp [go_sem]
set_option maxHeartbeats 400000 in
theorem place_12 : ∀ (W : World) (b : Nat), True → Calls Tryz.prog 107 (#[.pointer (some ⟨b, 0, none⟩)] ++ #[]) W fun e W' => e = .returned (.pointer (some ⟨b, 15, none⟩)) ∧ ∃ nq, W' = W.drewN nq := by
  intro w b _
  simp only [Array.append_empty]
  go_enter Tryz.func107, Tryz.ntmps107
  go_wp2
  go_ret
  exact ⟨rfl, 0, rfl⟩
set_option maxHeartbeats 1000000 in
theorem row_13 (w : World) : Calls Tryz.prog 65 #[.int .i64 13] w fun e w' =>
    ∃ p, e = .returned (rowV ⟨#[105, 112, 46, 116, 116, 108]⟩ 8 2 (.func (Fn.func 138) #[] #[.pointer (some ⟨p, 0, none⟩)]) (.func (Fn.func 139) #[] #[.pointer (some ⟨p, 0, none⟩)])) ∧ w'.cell? ⟨p, 0, none⟩ = some (.func (Fn.func 107) #[] #[]) ∧ Below w.heap.size w w' := by
  go_enter Tryz.func65, Tryz.ntmps65
  go_wp2_with fail
  refine (number_i64 ⟨#[105, 112, 46, 116, 116, 108]⟩ 8 2 _ _ _).mono ?_
  rintro e w1 ⟨rfl, rfl⟩
  unfold rowV
  go_wp2
  exact bodyPost_ret (results_cell_row (p := 2) (ty := 148) rfl _ _ w.heap.size 148 _ (0, 0) _ rfl (three_first _ _ _ _) Tryz.underlying148 rfl (by kernel_rfl)) rfl ⟨w.heap.size + 1, rfl, by simp [go_sem], below3 _ _ _ _⟩

theorem callE_13 : ∀ args W, (callFunc 108 args).run Tryz.prog W = .ok (.enter 108 args) W := fun args W => by simp [go_sem]
set_option maxHeartbeats 400000 in
theorem place_13 : ∀ (W : World) (b : Nat), True → Calls Tryz.prog 108 (#[.pointer (some ⟨b, 0, none⟩)] ++ #[]) W fun e W' => e = .returned (.pointer (some ⟨b, 12, none⟩)) ∧ ∃ nq, W' = W.drewN nq := by
  intro w b _
  simp only [Array.append_empty]
  go_enter Tryz.func108, Tryz.ntmps108
  go_wp2
  go_ret
  exact ⟨rfl, 0, rfl⟩
set_option maxHeartbeats 1000000 in
theorem row_14 (w : World) : Calls Tryz.prog 65 #[.int .i64 14] w fun e w' =>
    ∃ p, e = .returned (rowV ⟨#[105, 112, 46, 116, 111, 115]⟩ 8 2 (.func (Fn.func 138) #[] #[.pointer (some ⟨p, 0, none⟩)]) (.func (Fn.func 139) #[] #[.pointer (some ⟨p, 0, none⟩)])) ∧ w'.cell? ⟨p, 0, none⟩ = some (.func (Fn.func 108) #[] #[]) ∧ Below w.heap.size w w' := by
  go_enter Tryz.func65, Tryz.ntmps65
  go_wp2_with fail
  refine (number_i64 ⟨#[105, 112, 46, 116, 111, 115]⟩ 8 2 _ _ _).mono ?_
  rintro e w1 ⟨rfl, rfl⟩
  unfold rowV
  go_wp2
  exact bodyPost_ret (results_cell_row (p := 2) (ty := 148) rfl _ _ w.heap.size 148 _ (0, 0) _ rfl (three_first _ _ _ _) Tryz.underlying148 rfl (by kernel_rfl)) rfl ⟨w.heap.size + 1, rfl, by simp [go_sem], below3 _ _ _ _⟩

theorem callE_14 : ∀ args W, (callFunc 109 args).run Tryz.prog W = .ok (.enter 109 args) W := fun args W => by simp [go_sem]
set_option maxHeartbeats 400000 in
theorem place_14 : ∀ (W : World) (b : Nat), True → Calls Tryz.prog 109 (#[.pointer (some ⟨b, 0, none⟩)] ++ #[]) W fun e W' => e = .returned (.pointer (some ⟨b, 14, none⟩)) ∧ ∃ nq, W' = W.drewN nq := by
  intro w b _
  simp only [Array.append_empty]
  go_enter Tryz.func109, Tryz.ntmps109
  go_wp2
  go_ret
  exact ⟨rfl, 0, rfl⟩
set_option maxHeartbeats 1000000 in
theorem row_15 (w : World) : Calls Tryz.prog 65 #[.int .i64 15] w fun e w' =>
    ∃ p, e = .returned (rowV ⟨#[105, 112, 46, 102, 114, 97, 103]⟩ 16 2 (.func (Fn.func 138) #[] #[.pointer (some ⟨p, 0, none⟩)]) (.func (Fn.func 139) #[] #[.pointer (some ⟨p, 0, none⟩)])) ∧ w'.cell? ⟨p, 0, none⟩ = some (.func (Fn.func 109) #[] #[]) ∧ Below w.heap.size w w' := by
  go_enter Tryz.func65, Tryz.ntmps65
  go_wp2_with fail
  refine (number_i64 ⟨#[105, 112, 46, 102, 114, 97, 103]⟩ 16 2 _ _ _).mono ?_
  rintro e w1 ⟨rfl, rfl⟩
  unfold rowV
  go_wp2
  exact bodyPost_ret (results_cell_row (p := 2) (ty := 148) rfl _ _ w.heap.size 148 _ (0, 0) _ rfl (three_first _ _ _ _) Tryz.underlying148 rfl (by kernel_rfl)) rfl ⟨w.heap.size + 1, rfl, by simp [go_sem], below3 _ _ _ _⟩

theorem callE_15 : ∀ args W, (callFunc 110 args).run Tryz.prog W = .ok (.enter 110 args) W := fun args W => by simp [go_sem]
set_option maxHeartbeats 400000 in
theorem place_15 : ∀ (W : World) (b : Nat), True → Calls Tryz.prog 110 (#[.pointer (some ⟨b, 0, none⟩)] ++ #[]) W fun e W' => e = .returned (.pointer (some ⟨b, 21, none⟩)) ∧ ∃ nq, W' = W.drewN nq := by
  intro w b _
  simp only [Array.append_empty]
  go_enter Tryz.func110, Tryz.ntmps110
  go_wp2
  go_ret
  exact ⟨rfl, 0, rfl⟩
set_option maxHeartbeats 1000000 in
theorem row_16 (w : World) : Calls Tryz.prog 65 #[.int .i64 16] w fun e w' =>
    ∃ p, e = .returned (rowV ⟨#[105, 99, 109, 112, 46, 116, 121, 112, 101]⟩ 8 3 (.func (Fn.func 138) #[] #[.pointer (some ⟨p, 0, none⟩)]) (.func (Fn.func 139) #[] #[.pointer (some ⟨p, 0, none⟩)])) ∧ w'.cell? ⟨p, 0, none⟩ = some (.func (Fn.func 110) #[] #[]) ∧ Below w.heap.size w w' := by
  go_enter Tryz.func65, Tryz.ntmps65
  go_wp2_with fail
  refine (number_i64 ⟨#[105, 99, 109, 112, 46, 116, 121, 112, 101]⟩ 8 3 _ _ _).mono ?_
  rintro e w1 ⟨rfl, rfl⟩
  unfold rowV
  go_wp2
  exact bodyPost_ret (results_cell_row (p := 2) (ty := 148) rfl _ _ w.heap.size 148 _ (0, 0) _ rfl (three_first _ _ _ _) Tryz.underlying148 rfl (by kernel_rfl)) rfl ⟨w.heap.size + 1, rfl, by simp [go_sem], below3 _ _ _ _⟩

theorem callE_16 : ∀ args W, (callFunc 111 args).run Tryz.prog W = .ok (.enter 111 args) W := fun args W => by simp [go_sem]
set_option maxHeartbeats 400000 in
theorem place_16 : ∀ (W : World) (b : Nat), True → Calls Tryz.prog 111 (#[.pointer (some ⟨b, 0, none⟩)] ++ #[]) W fun e W' => e = .returned (.pointer (some ⟨b, 22, none⟩)) ∧ ∃ nq, W' = W.drewN nq := by
  intro w b _
  simp only [Array.append_empty]
  go_enter Tryz.func111, Tryz.ntmps111
  go_wp2
  go_ret
  exact ⟨rfl, 0, rfl⟩
set_option maxHeartbeats 1000000 in
theorem row_17 (w : World) : Calls Tryz.prog 65 #[.int .i64 17] w fun e w' =>
    ∃ p, e = .returned (rowV ⟨#[105, 99, 109, 112, 46, 99, 111, 100, 101]⟩ 8 3 (.func (Fn.func 138) #[] #[.pointer (some ⟨p, 0, none⟩)]) (.func (Fn.func 139) #[] #[.pointer (some ⟨p, 0, none⟩)])) ∧ w'.cell? ⟨p, 0, none⟩ = some (.func (Fn.func 111) #[] #[]) ∧ Below w.heap.size w w' := by
  go_enter Tryz.func65, Tryz.ntmps65
  go_wp2_with fail
  refine (number_i64 ⟨#[105, 99, 109, 112, 46, 99, 111, 100, 101]⟩ 8 3 _ _ _).mono ?_
  rintro e w1 ⟨rfl, rfl⟩
  unfold rowV
  go_wp2
  exact bodyPost_ret (results_cell_row (p := 2) (ty := 148) rfl _ _ w.heap.size 148 _ (0, 0) _ rfl (three_first _ _ _ _) Tryz.underlying148 rfl (by kernel_rfl)) rfl ⟨w.heap.size + 1, rfl, by simp [go_sem], below3 _ _ _ _⟩

theorem callE_17 : ∀ args W, (callFunc 112 args).run Tryz.prog W = .ok (.enter 112 args) W := fun args W => by simp [go_sem]
set_option maxHeartbeats 400000 in
theorem place_17 : ∀ (W : World) (b : Nat), True → Calls Tryz.prog 112 (#[.pointer (some ⟨b, 0, none⟩)] ++ #[]) W fun e W' => e = .returned (.pointer (some ⟨b, 24, none⟩)) ∧ ∃ nq, W' = W.drewN nq := by
  intro w b _
  simp only [Array.append_empty]
  go_enter Tryz.func112, Tryz.ntmps112
  go_wp2
  go_ret
  exact ⟨rfl, 0, rfl⟩
set_option maxHeartbeats 1000000 in
theorem row_18 (w : World) : Calls Tryz.prog 65 #[.int .i64 18] w fun e w' =>
    ∃ p, e = .returned (rowV ⟨#[116, 112, 46, 115, 114, 99]⟩ 16 4 (.func (Fn.func 138) #[] #[.pointer (some ⟨p, 0, none⟩)]) (.func (Fn.func 139) #[] #[.pointer (some ⟨p, 0, none⟩)])) ∧ w'.cell? ⟨p, 0, none⟩ = some (.func (Fn.func 112) #[] #[]) ∧ Below w.heap.size w w' := by
  go_enter Tryz.func65, Tryz.ntmps65
  go_wp2_with fail
  refine (number_i64 ⟨#[116, 112, 46, 115, 114, 99]⟩ 16 4 _ _ _).mono ?_
  rintro e w1 ⟨rfl, rfl⟩
  unfold rowV
  go_wp2
  exact bodyPost_ret (results_cell_row (p := 2) (ty := 148) rfl _ _ w.heap.size 148 _ (0, 0) _ rfl (three_first _ _ _ _) Tryz.underlying148 rfl (by kernel_rfl)) rfl ⟨w.heap.size + 1, rfl, by simp [go_sem], below3 _ _ _ _⟩

theorem callE_18 : ∀ args W, (callFunc 113 args).run Tryz.prog W = .ok (.enter 113 args) W := fun args W => by simp [go_sem]
set_option maxHeartbeats 400000 in
theorem place_18 : ∀ (W : World) (b : Nat), True → Calls Tryz.prog 113 (#[.pointer (some ⟨b, 0, none⟩)] ++ #[]) W fun e W' => e = .returned (.pointer (some ⟨b, 25, none⟩)) ∧ ∃ nq, W' = W.drewN nq := by
  intro w b _
  simp only [Array.append_empty]
  go_enter Tryz.func113, Tryz.ntmps113
  go_wp2
  go_ret
  exact ⟨rfl, 0, rfl⟩
set_option maxHeartbeats 1000000 in
theorem row_19 (w : World) : Calls Tryz.prog 65 #[.int .i64 19] w fun e w' =>
    ∃ p, e = .returned (rowV ⟨#[116, 112, 46, 100, 115, 116]⟩ 16 4 (.func (Fn.func 138) #[] #[.pointer (some ⟨p, 0, none⟩)]) (.func (Fn.func 139) #[] #[.pointer (some ⟨p, 0, none⟩)])) ∧ w'.cell? ⟨p, 0, none⟩ = some (.func (Fn.func 113) #[] #[]) ∧ Below w.heap.size w w' := by
  go_enter Tryz.func65, Tryz.ntmps65
  go_wp2_with fail
  refine (number_i64 ⟨#[116, 112, 46, 100, 115, 116]⟩ 16 4 _ _ _).mono ?_
  rintro e w1 ⟨rfl, rfl⟩
  unfold rowV
  go_wp2
  exact bodyPost_ret (results_cell_row (p := 2) (ty := 148) rfl _ _ w.heap.size 148 _ (0, 0) _ rfl (three_first _ _ _ _) Tryz.underlying148 rfl (by kernel_rfl)) rfl ⟨w.heap.size + 1, rfl, by simp [go_sem], below3 _ _ _ _⟩

theorem callE_19 : ∀ args W, (callFunc 114 args).run Tryz.prog W = .ok (.enter 114 args) W := fun args W => by simp [go_sem]
set_option maxHeartbeats 400000 in
theorem place_19 : ∀ (W : World) (b : Nat), True → Calls Tryz.prog 114 (#[.pointer (some ⟨b, 0, none⟩)] ++ #[]) W fun e W' => e = .returned (.pointer (some ⟨b, 29, none⟩)) ∧ ∃ nq, W' = W.drewN nq := by
  intro w b _
  simp only [Array.append_empty]
  go_enter Tryz.func114, Tryz.ntmps114
  go_wp2
  go_ret
  exact ⟨rfl, 0, rfl⟩
set_option maxHeartbeats 1000000 in
theorem row_20 (w : World) : Calls Tryz.prog 65 #[.int .i64 20] w fun e w' =>
    ∃ p, e = .returned (rowV ⟨#[116, 99, 112, 46, 102, 108, 97, 103, 115]⟩ 12 5 (.func (Fn.func 138) #[] #[.pointer (some ⟨p, 0, none⟩)]) (.func (Fn.func 139) #[] #[.pointer (some ⟨p, 0, none⟩)])) ∧ w'.cell? ⟨p, 0, none⟩ = some (.func (Fn.func 114) #[] #[]) ∧ Below w.heap.size w w' := by
  go_enter Tryz.func65, Tryz.ntmps65
  go_wp2_with fail
  refine (number_i64 ⟨#[116, 99, 112, 46, 102, 108, 97, 103, 115]⟩ 12 5 _ _ _).mono ?_
  rintro e w1 ⟨rfl, rfl⟩
  unfold rowV
  go_wp2
  exact bodyPost_ret (results_cell_row (p := 2) (ty := 148) rfl _ _ w.heap.size 148 _ (0, 0) _ rfl (three_first _ _ _ _) Tryz.underlying148 rfl (by kernel_rfl)) rfl ⟨w.heap.size + 1, rfl, by simp [go_sem], below3 _ _ _ _⟩

theorem callE_20 : ∀ args W, (callFunc 115 args).run Tryz.prog W = .ok (.enter 115 args) W := fun args W => by simp [go_sem]
set_option maxHeartbeats 400000 in
theorem place_20 : ∀ (W : World) (b : Nat), True → Calls Tryz.prog 115 (#[.pointer (some ⟨b, 0, none⟩)] ++ #[]) W fun e W' => e = .returned (.pointer (some ⟨b, 36, none⟩)) ∧ ∃ nq, W' = W.drewN nq := by
  intro w b _
  simp only [Array.append_empty]
  go_enter Tryz.func115, Tryz.ntmps115
  go_wp2
  go_ret
  exact ⟨rfl, 0, rfl⟩
set_option maxHeartbeats 1000000 in
theorem row_21 (w : World) : Calls Tryz.prog 65 #[.int .i64 21] w fun e w' =>
    ∃ p, e = .returned (rowV ⟨#[99, 116, 46, 115, 116, 97, 116, 101]⟩ 8 0 (.func (Fn.func 138) #[] #[.pointer (some ⟨p, 0, none⟩)]) (.func (Fn.func 139) #[] #[.pointer (some ⟨p, 0, none⟩)])) ∧ w'.cell? ⟨p, 0, none⟩ = some (.func (Fn.func 115) #[] #[]) ∧ Below w.heap.size w w' := by
  go_enter Tryz.func65, Tryz.ntmps65
  go_wp2_with fail
  refine (number_i64 ⟨#[99, 116, 46, 115, 116, 97, 116, 101]⟩ 8 0 _ _ _).mono ?_
  rintro e w1 ⟨rfl, rfl⟩
  unfold rowV
  go_wp2
  exact bodyPost_ret (results_cell_row (p := 2) (ty := 148) rfl _ _ w.heap.size 148 _ (0, 0) _ rfl (three_first _ _ _ _) Tryz.underlying148 rfl (by kernel_rfl)) rfl ⟨w.heap.size + 1, rfl, by simp [go_sem], below3 _ _ _ _⟩

theorem callE_21 : ∀ args W, (callFunc 116 args).run Tryz.prog W = .ok (.enter 116 args) W := fun args W => by simp [go_sem]
set_option maxHeartbeats 400000 in
theorem place_21 : ∀ (W : World) (b : Nat), True → Calls Tryz.prog 116 (#[.pointer (some ⟨b, 0, none⟩)] ++ #[]) W fun e W' => e = .returned (.pointer (some ⟨b, 37, none⟩)) ∧ ∃ nq, W' = W.drewN nq := by
  intro w b _
  simp only [Array.append_empty]
  go_enter Tryz.func116, Tryz.ntmps116
  go_wp2
  go_ret
  exact ⟨rfl, 0, rfl⟩
set_option maxHeartbeats 1000000 in
theorem row_22 (w : World) : Calls Tryz.prog 65 #[.int .i64 22] w fun e w' =>
    ∃ p, e = .returned (rowV ⟨#[100, 97, 116, 97, 112, 97, 116, 104]⟩ 24 0 (.func (Fn.func 138) #[] #[.pointer (some ⟨p, 0, none⟩)]) (.func (Fn.func 139) #[] #[.pointer (some ⟨p, 0, none⟩)])) ∧ w'.cell? ⟨p, 0, none⟩ = some (.func (Fn.func 116) #[] #[]) ∧ Below w.heap.size w w' := by
  go_enter Tryz.func65, Tryz.ntmps65
  go_wp2_with fail
  refine (number_i64 ⟨#[100, 97, 116, 97, 112, 97, 116, 104]⟩ 24 0 _ _ _).mono ?_
  rintro e w1 ⟨rfl, rfl⟩
  unfold rowV
  go_wp2
  exact bodyPost_ret (results_cell_row (p := 2) (ty := 148) rfl _ _ w.heap.size 148 _ (0, 0) _ rfl (three_first _ _ _ _) Tryz.underlying148 rfl (by kernel_rfl)) rfl ⟨w.heap.size + 1, rfl, by simp [go_sem], below3 _ _ _ _⟩

theorem callE_22 : ∀ args W, (callFunc 117 args).run Tryz.prog W = .ok (.enter 117 args) W := fun args W => by simp [go_sem]
set_option maxHeartbeats 400000 in
theorem place_22 : ∀ (W : World) (b : Nat), True → Calls Tryz.prog 117 (#[.pointer (some ⟨b, 0, none⟩)] ++ #[]) W fun e W' => e = .returned (.pointer (some ⟨b, 38, none⟩)) ∧ ∃ nq, W' = W.drewN nq := by
  intro w b _
  simp only [Array.append_empty]
  go_enter Tryz.func117, Tryz.ntmps117
  go_wp2
  go_ret
  exact ⟨rfl, 0, rfl⟩
set_option maxHeartbeats 1000000 in
theorem row_23 (w : World) : Calls Tryz.prog 65 #[.int .i64 23] w fun e w' =>
    ∃ p, e = .returned (rowV ⟨#[105, 110, 112, 111, 114, 116]⟩ 16 0 (.func (Fn.func 138) #[] #[.pointer (some ⟨p, 0, none⟩)]) (.func (Fn.func 139) #[] #[.pointer (some ⟨p, 0, none⟩)])) ∧ w'.cell? ⟨p, 0, none⟩ = some (.func (Fn.func 117) #[] #[]) ∧ Below w.heap.size w w' := by
  go_enter Tryz.func65, Tryz.ntmps65
  go_wp2_with fail
  refine (number_i64 ⟨#[105, 110, 112, 111, 114, 116]⟩ 16 0 _ _ _).mono ?_
  rintro e w1 ⟨rfl, rfl⟩
  unfold rowV
  go_wp2
  exact bodyPost_ret (results_cell_row (p := 2) (ty := 148) rfl _ _ w.heap.size 148 _ (0, 0) _ rfl (three_first _ _ _ _) Tryz.underlying148 rfl (by kernel_rfl)) rfl ⟨w.heap.size + 1, rfl, by simp [go_sem], below3 _ _ _ _⟩

theorem callE_23 : ∀ args W, (callFunc 118 args).run Tryz.prog W = .ok (.enter 118 args) W := fun args W => by simp [go_sem]
set_option maxHeartbeats 400000 in
theorem place_23 : ∀ (W : World) (b : Nat), True → Calls Tryz.prog 118 (#[.pointer (some ⟨b, 0, none⟩)] ++ #[]) W fun e W' => e = .returned (.pointer (some ⟨b, 39, none⟩)) ∧ ∃ nq, W' = W.drewN nq := by
  intro w b _
  simp only [Array.append_empty]
  go_enter Tryz.func118, Tryz.ntmps118
  go_wp2
  go_ret
  exact ⟨rfl, 0, rfl⟩
set_option maxHeartbeats 1000000 in
theorem row_24 (w : World) : Calls Tryz.prog 65 #[.int .i64 24] w fun e w' =>
    ∃ p, e = .returned (rowV ⟨#[111, 117, 116, 112, 111, 114, 116]⟩ 16 0 (.func (Fn.func 138) #[] #[.pointer (some ⟨p, 0, none⟩)]) (.func (Fn.func 139) #[] #[.pointer (some ⟨p, 0, none⟩)])) ∧ w'.cell? ⟨p, 0, none⟩ = some (.func (Fn.func 118) #[] #[]) ∧ Below w.heap.size w w' := by
  go_enter Tryz.func65, Tryz.ntmps65
  go_wp2_with fail
  refine (number_i64 ⟨#[111, 117, 116, 112, 111, 114, 116]⟩ 16 0 _ _ _).mono ?_
  rintro e w1 ⟨rfl, rfl⟩
  unfold rowV
  go_wp2
  exact bodyPost_ret (results_cell_row (p := 2) (ty := 148) rfl _ _ w.heap.size 148 _ (0, 0) _ rfl (three_first _ _ _ _) Tryz.underlying148 rfl (by kernel_rfl)) rfl ⟨w.heap.size + 1, rfl, by simp [go_sem], below3 _ _ _ _⟩
end Go.Proofs.YtijeakggeichcaaGreatDoor
