/- The rows of all fields, by number. No condition. -/
import Derived.Test.YthodjgaaojmihaaDoorFA
namespace Go.Proofs.YthodjgaaojmihaaDoor.Fl
open Go.RowKit

theorem three_first (w : World) (A B C : Obj) : (((w.alloc A).alloc B).alloc C).heap[w.heap.size]? = some A := (heap_alloc_old _ _ (by simp; omega)).trans (two_first _ _ _)
theorem four_first (w : World) (A B C D : Obj) : ((((w.alloc A).alloc B).alloc C).alloc D).heap[w.heap.size]? = some A := (heap_alloc_old _ _ (by simp; omega)).trans (three_first _ _ _ _)
theorem below3 (w : World) (A B C : Obj) : Below w.heap.size w (((w.alloc A).alloc B).alloc C) := (below2 w A B).alloc (by simp; omega) C
theorem below4 (w : World) (A B C D : Obj) : Below w.heap.size w ((((w.alloc A).alloc B).alloc C).alloc D) := (below3 w A B C).alloc (by simp; omega) D

theorem callE_1 : ∀ args W, (callFunc 36 args).run Tryd.prog W = .ok (.enter 36 args) W := fun args W => by simp [go_sem]
set_option maxHeartbeats 400000 in
theorem place_1 : ∀ (W : World) (b : Nat), True → Calls Tryd.prog 36 (#[.pointer (some ⟨b, 0, none⟩)] ++ #[]) W fun e W' => e = .returned (.pointer (some ⟨b, 0, none⟩)) ∧ ∃ nq, W' = W.drewN nq := by
  intro w b _
  simp only [Array.append_empty]
  go_enter Tryd.func36, Tryd.ntmps36
  go_wp2
  go_ret
  exact ⟨rfl, 0, rfl⟩
set_option maxHeartbeats 1000000 in
theorem row_1 (w : World) : Calls Tryd.prog 18 #[.int .i64 1] w fun e w' =>
    ∃ p, e = .returned (rowV ⟨#[101, 116, 104, 46, 100, 115, 116]⟩ 48 0 (.func (Fn.func 70) #[] #[.pointer (some ⟨p, 0, none⟩)]) (.func (Fn.func 71) #[] #[.pointer (some ⟨p, 0, none⟩)])) ∧ w'.cell? ⟨p, 0, none⟩ = some (.func (Fn.func 36) #[] #[]) ∧ Below w.heap.size w w' := by
  go_enter Tryd.func18, Tryd.ntmps18
  go_wp2_with fail
  refine (number_u64 ⟨#[101, 116, 104, 46, 100, 115, 116]⟩ 48 0 _ _ _).mono ?_
  rintro e w1 ⟨rfl, rfl⟩
  unfold rowV
  go_wp2
  exact bodyPost_ret (results_cell_row (p := 2) (ty := 69) rfl _ _ w.heap.size 69 _ (0, 0) _ rfl (three_first _ _ _ _) Tryd.underlying69 rfl (by kernel_rfl)) rfl ⟨w.heap.size + 1, rfl, by simp [go_sem], below3 _ _ _ _⟩

theorem callE_2 : ∀ args W, (callFunc 37 args).run Tryd.prog W = .ok (.enter 37 args) W := fun args W => by simp [go_sem]
set_option maxHeartbeats 400000 in
theorem place_2 : ∀ (W : World) (b : Nat), True → Calls Tryd.prog 37 (#[.pointer (some ⟨b, 0, none⟩)] ++ #[]) W fun e W' => e = .returned (.pointer (some ⟨b, 1, none⟩)) ∧ ∃ nq, W' = W.drewN nq := by
  intro w b _
  simp only [Array.append_empty]
  go_enter Tryd.func37, Tryd.ntmps37
  go_wp2
  go_ret
  exact ⟨rfl, 0, rfl⟩
set_option maxHeartbeats 1000000 in
theorem row_2 (w : World) : Calls Tryd.prog 18 #[.int .i64 2] w fun e w' =>
    ∃ p, e = .returned (rowV ⟨#[101, 116, 104, 46, 115, 114, 99]⟩ 48 0 (.func (Fn.func 70) #[] #[.pointer (some ⟨p, 0, none⟩)]) (.func (Fn.func 71) #[] #[.pointer (some ⟨p, 0, none⟩)])) ∧ w'.cell? ⟨p, 0, none⟩ = some (.func (Fn.func 37) #[] #[]) ∧ Below w.heap.size w w' := by
  go_enter Tryd.func18, Tryd.ntmps18
  go_wp2_with fail
  refine (number_u64 ⟨#[101, 116, 104, 46, 115, 114, 99]⟩ 48 0 _ _ _).mono ?_
  rintro e w1 ⟨rfl, rfl⟩
  unfold rowV
  go_wp2
  exact bodyPost_ret (results_cell_row (p := 2) (ty := 69) rfl _ _ w.heap.size 69 _ (0, 0) _ rfl (three_first _ _ _ _) Tryd.underlying69 rfl (by kernel_rfl)) rfl ⟨w.heap.size + 1, rfl, by simp [go_sem], below3 _ _ _ _⟩

theorem callE_3 : ∀ args W, (callFunc 39 args).run Tryd.prog W = .ok (.enter 39 args) W := fun args W => by simp [go_sem]
set_option maxHeartbeats 400000 in
theorem place_3 : ∀ (W : World) (b : Nat), True → Calls Tryd.prog 39 (#[.pointer (some ⟨b, 0, none⟩)] ++ #[]) W fun e W' => e = .returned (.pointer (some ⟨b, 4, none⟩)) ∧ ∃ nq, W' = W.drewN nq := by
  intro w b _
  simp only [Array.append_empty]
  go_enter Tryd.func39, Tryd.ntmps39
  go_wp2
  go_ret
  exact ⟨rfl, 0, rfl⟩
set_option maxHeartbeats 1000000 in
theorem row_3 (w : World) : Calls Tryd.prog 18 #[.int .i64 3] w fun e w' =>
    ∃ p, e = .returned (rowV ⟨#[101, 116, 104, 46, 116, 121, 112, 101]⟩ 16 0 (.func (Fn.func 72) #[] #[.pointer (some ⟨p, 0, none⟩)]) (.func (Fn.func 73) #[] #[.pointer (some ⟨p, 0, none⟩)])) ∧ w'.cell? ⟨p, 0, none⟩ = some (.func (Fn.func 39) #[] #[]) ∧ Below w.heap.size w w' := by
  go_enter Tryd.func18, Tryd.ntmps18
  go_wp2_with fail
  refine (number_i64 ⟨#[101, 116, 104, 46, 116, 121, 112, 101]⟩ 16 0 _ _ _).mono ?_
  rintro e w1 ⟨rfl, rfl⟩
  unfold rowV
  go_wp2
  exact bodyPost_ret (results_cell_row (p := 2) (ty := 69) rfl _ _ w.heap.size 69 _ (0, 0) _ rfl (three_first _ _ _ _) Tryd.underlying69 rfl (by kernel_rfl)) rfl ⟨w.heap.size + 1, rfl, by simp [go_sem], below3 _ _ _ _⟩

theorem callE_4 : ∀ args W, (callFunc 42 args).run Tryd.prog W = .ok (.enter 42 args) W := fun args W => by simp [go_sem]
set_option maxHeartbeats 400000 in
theorem place_4 : ∀ (W : World) (b : Nat), True → Calls Tryd.prog 42 (#[.pointer (some ⟨b, 0, none⟩)] ++ #[]) W fun e W' => e = .returned (.pointer (some ⟨b, 6, none⟩)) ∧ ∃ nq, W' = W.drewN nq := by
  intro w b _
  simp only [Array.append_empty]
  go_enter Tryd.func42, Tryd.ntmps42
  go_wp2
  go_ret
  exact ⟨rfl, 0, rfl⟩
set_option maxHeartbeats 1000000 in
theorem row_5 (w : World) : Calls Tryd.prog 18 #[.int .i64 5] w fun e w' =>
    ∃ p, e = .returned (rowV ⟨#[97, 114, 112, 46, 111, 112]⟩ 16 1 (.func (Fn.func 72) #[] #[.pointer (some ⟨p, 0, none⟩)]) (.func (Fn.func 73) #[] #[.pointer (some ⟨p, 0, none⟩)])) ∧ w'.cell? ⟨p, 0, none⟩ = some (.func (Fn.func 42) #[] #[]) ∧ Below w.heap.size w w' := by
  go_enter Tryd.func18, Tryd.ntmps18
  go_wp2_with fail
  refine (number_i64 ⟨#[97, 114, 112, 46, 111, 112]⟩ 16 1 _ _ _).mono ?_
  rintro e w1 ⟨rfl, rfl⟩
  unfold rowV
  go_wp2
  exact bodyPost_ret (results_cell_row (p := 2) (ty := 69) rfl _ _ w.heap.size 69 _ (0, 0) _ rfl (three_first _ _ _ _) Tryd.underlying69 rfl (by kernel_rfl)) rfl ⟨w.heap.size + 1, rfl, by simp [go_sem], below3 _ _ _ _⟩

theorem callE_5 : ∀ args W, (callFunc 43 args).run Tryd.prog W = .ok (.enter 43 args) W := fun args W => by simp [go_sem]
set_option maxHeartbeats 400000 in
theorem place_5 : ∀ (W : World) (b : Nat), True → Calls Tryd.prog 43 (#[.pointer (some ⟨b, 0, none⟩)] ++ #[]) W fun e W' => e = .returned (.pointer (some ⟨b, 7, none⟩)) ∧ ∃ nq, W' = W.drewN nq := by
  intro w b _
  simp only [Array.append_empty]
  go_enter Tryd.func43, Tryd.ntmps43
  go_wp2
  go_ret
  exact ⟨rfl, 0, rfl⟩
set_option maxHeartbeats 1000000 in
theorem row_6 (w : World) : Calls Tryd.prog 18 #[.int .i64 6] w fun e w' =>
    ∃ p, e = .returned (rowV ⟨#[97, 114, 112, 46, 115, 104, 97]⟩ 48 1 (.func (Fn.func 70) #[] #[.pointer (some ⟨p, 0, none⟩)]) (.func (Fn.func 71) #[] #[.pointer (some ⟨p, 0, none⟩)])) ∧ w'.cell? ⟨p, 0, none⟩ = some (.func (Fn.func 43) #[] #[]) ∧ Below w.heap.size w w' := by
  go_enter Tryd.func18, Tryd.ntmps18
  go_wp2_with fail
  refine (number_u64 ⟨#[97, 114, 112, 46, 115, 104, 97]⟩ 48 1 _ _ _).mono ?_
  rintro e w1 ⟨rfl, rfl⟩
  unfold rowV
  go_wp2
  exact bodyPost_ret (results_cell_row (p := 2) (ty := 69) rfl _ _ w.heap.size 69 _ (0, 0) _ rfl (three_first _ _ _ _) Tryd.underlying69 rfl (by kernel_rfl)) rfl ⟨w.heap.size + 1, rfl, by simp [go_sem], below3 _ _ _ _⟩

theorem callE_6 : ∀ args W, (callFunc 45 args).run Tryd.prog W = .ok (.enter 45 args) W := fun args W => by simp [go_sem]
set_option maxHeartbeats 400000 in
theorem place_6 : ∀ (W : World) (b : Nat), True → Calls Tryd.prog 45 (#[.pointer (some ⟨b, 0, none⟩)] ++ #[]) W fun e W' => e = .returned (.pointer (some ⟨b, 8, none⟩)) ∧ ∃ nq, W' = W.drewN nq := by
  intro w b _
  simp only [Array.append_empty]
  go_enter Tryd.func45, Tryd.ntmps45
  go_wp2
  go_ret
  exact ⟨rfl, 0, rfl⟩
set_option maxHeartbeats 1000000 in
theorem row_7 (w : World) : Calls Tryd.prog 18 #[.int .i64 7] w fun e w' =>
    ∃ p, e = .returned (rowV ⟨#[97, 114, 112, 46, 115, 112, 97]⟩ 32 1 (.func (Fn.func 74) #[] #[.pointer (some ⟨p, 0, none⟩)]) (.func (Fn.func 75) #[] #[.pointer (some ⟨p, 0, none⟩)])) ∧ w'.cell? ⟨p, 0, none⟩ = some (.func (Fn.func 45) #[] #[]) ∧ Below w.heap.size w w' := by
  go_enter Tryd.func18, Tryd.ntmps18
  go_wp2_with fail
  refine (number_u32 ⟨#[97, 114, 112, 46, 115, 112, 97]⟩ 32 1 _ _ _).mono ?_
  rintro e w1 ⟨rfl, rfl⟩
  unfold rowV
  go_wp2
  exact bodyPost_ret (results_cell_row (p := 2) (ty := 69) rfl _ _ w.heap.size 69 _ (0, 0) _ rfl (three_first _ _ _ _) Tryd.underlying69 rfl (by kernel_rfl)) rfl ⟨w.heap.size + 1, rfl, by simp [go_sem], below3 _ _ _ _⟩

theorem callE_7 : ∀ args W, (callFunc 46 args).run Tryd.prog W = .ok (.enter 46 args) W := fun args W => by simp [go_sem]
set_option maxHeartbeats 400000 in
theorem place_7 : ∀ (W : World) (b : Nat), True → Calls Tryd.prog 46 (#[.pointer (some ⟨b, 0, none⟩)] ++ #[]) W fun e W' => e = .returned (.pointer (some ⟨b, 9, none⟩)) ∧ ∃ nq, W' = W.drewN nq := by
  intro w b _
  simp only [Array.append_empty]
  go_enter Tryd.func46, Tryd.ntmps46
  go_wp2
  go_ret
  exact ⟨rfl, 0, rfl⟩
set_option maxHeartbeats 1000000 in
theorem row_8 (w : World) : Calls Tryd.prog 18 #[.int .i64 8] w fun e w' =>
    ∃ p, e = .returned (rowV ⟨#[97, 114, 112, 46, 116, 104, 97]⟩ 48 1 (.func (Fn.func 70) #[] #[.pointer (some ⟨p, 0, none⟩)]) (.func (Fn.func 71) #[] #[.pointer (some ⟨p, 0, none⟩)])) ∧ w'.cell? ⟨p, 0, none⟩ = some (.func (Fn.func 46) #[] #[]) ∧ Below w.heap.size w w' := by
  go_enter Tryd.func18, Tryd.ntmps18
  go_wp2_with fail
  refine (number_u64 ⟨#[97, 114, 112, 46, 116, 104, 97]⟩ 48 1 _ _ _).mono ?_
  rintro e w1 ⟨rfl, rfl⟩
  unfold rowV
  go_wp2
  exact bodyPost_ret (results_cell_row (p := 2) (ty := 69) rfl _ _ w.heap.size 69 _ (0, 0) _ rfl (three_first _ _ _ _) Tryd.underlying69 rfl (by kernel_rfl)) rfl ⟨w.heap.size + 1, rfl, by simp [go_sem], below3 _ _ _ _⟩

theorem callE_8 : ∀ args W, (callFunc 47 args).run Tryd.prog W = .ok (.enter 47 args) W := fun args W => by simp [go_sem]
set_option maxHeartbeats 400000 in
theorem place_8 : ∀ (W : World) (b : Nat), True → Calls Tryd.prog 47 (#[.pointer (some ⟨b, 0, none⟩)] ++ #[]) W fun e W' => e = .returned (.pointer (some ⟨b, 10, none⟩)) ∧ ∃ nq, W' = W.drewN nq := by
  intro w b _
  simp only [Array.append_empty]
  go_enter Tryd.func47, Tryd.ntmps47
  go_wp2
  go_ret
  exact ⟨rfl, 0, rfl⟩
set_option maxHeartbeats 1000000 in
theorem row_9 (w : World) : Calls Tryd.prog 18 #[.int .i64 9] w fun e w' =>
    ∃ p, e = .returned (rowV ⟨#[97, 114, 112, 46, 116, 112, 97]⟩ 32 1 (.func (Fn.func 74) #[] #[.pointer (some ⟨p, 0, none⟩)]) (.func (Fn.func 75) #[] #[.pointer (some ⟨p, 0, none⟩)])) ∧ w'.cell? ⟨p, 0, none⟩ = some (.func (Fn.func 47) #[] #[]) ∧ Below w.heap.size w w' := by
  go_enter Tryd.func18, Tryd.ntmps18
  go_wp2_with fail
  refine (number_u32 ⟨#[97, 114, 112, 46, 116, 112, 97]⟩ 32 1 _ _ _).mono ?_
  rintro e w1 ⟨rfl, rfl⟩
  unfold rowV
  go_wp2
  exact bodyPost_ret (results_cell_row (p := 2) (ty := 69) rfl _ _ w.heap.size 69 _ (0, 0) _ rfl (three_first _ _ _ _) Tryd.underlying69 rfl (by kernel_rfl)) rfl ⟨w.heap.size + 1, rfl, by simp [go_sem], below3 _ _ _ _⟩

theorem callE_9 : ∀ args W, (callFunc 48 args).run Tryd.prog W = .ok (.enter 48 args) W := fun args W => by simp [go_sem]
set_option maxHeartbeats 400000 in
theorem place_9 : ∀ (W : World) (b : Nat), True → Calls Tryd.prog 48 (#[.pointer (some ⟨b, 0, none⟩)] ++ #[]) W fun e W' => e = .returned (.pointer (some ⟨b, 17, none⟩)) ∧ ∃ nq, W' = W.drewN nq := by
  intro w b _
  simp only [Array.append_empty]
  go_enter Tryd.func48, Tryd.ntmps48
  go_wp2
  go_ret
  exact ⟨rfl, 0, rfl⟩
set_option maxHeartbeats 1000000 in
theorem row_10 (w : World) : Calls Tryd.prog 18 #[.int .i64 10] w fun e w' =>
    ∃ p, e = .returned (rowV ⟨#[105, 112, 52, 46, 115, 114, 99]⟩ 32 2 (.func (Fn.func 74) #[] #[.pointer (some ⟨p, 0, none⟩)]) (.func (Fn.func 75) #[] #[.pointer (some ⟨p, 0, none⟩)])) ∧ w'.cell? ⟨p, 0, none⟩ = some (.func (Fn.func 48) #[] #[]) ∧ Below w.heap.size w w' := by
  go_enter Tryd.func18, Tryd.ntmps18
  go_wp2_with fail
  refine (number_u32 ⟨#[105, 112, 52, 46, 115, 114, 99]⟩ 32 2 _ _ _).mono ?_
  rintro e w1 ⟨rfl, rfl⟩
  unfold rowV
  go_wp2
  exact bodyPost_ret (results_cell_row (p := 2) (ty := 69) rfl _ _ w.heap.size 69 _ (0, 0) _ rfl (three_first _ _ _ _) Tryd.underlying69 rfl (by kernel_rfl)) rfl ⟨w.heap.size + 1, rfl, by simp [go_sem], below3 _ _ _ _⟩

theorem callE_10 : ∀ args W, (callFunc 49 args).run Tryd.prog W = .ok (.enter 49 args) W := fun args W => by simp [go_sem]
set_option maxHeartbeats 400000 in
theorem place_10 : ∀ (W : World) (b : Nat), True → Calls Tryd.prog 49 (#[.pointer (some ⟨b, 0, none⟩)] ++ #[]) W fun e W' => e = .returned (.pointer (some ⟨b, 18, none⟩)) ∧ ∃ nq, W' = W.drewN nq := by
  intro w b _
  simp only [Array.append_empty]
  go_enter Tryd.func49, Tryd.ntmps49
  go_wp2
  go_ret
  exact ⟨rfl, 0, rfl⟩
set_option maxHeartbeats 1000000 in
theorem row_11 (w : World) : Calls Tryd.prog 18 #[.int .i64 11] w fun e w' =>
    ∃ p, e = .returned (rowV ⟨#[105, 112, 52, 46, 100, 115, 116]⟩ 32 2 (.func (Fn.func 74) #[] #[.pointer (some ⟨p, 0, none⟩)]) (.func (Fn.func 75) #[] #[.pointer (some ⟨p, 0, none⟩)])) ∧ w'.cell? ⟨p, 0, none⟩ = some (.func (Fn.func 49) #[] #[]) ∧ Below w.heap.size w w' := by
  go_enter Tryd.func18, Tryd.ntmps18
  go_wp2_with fail
  refine (number_u32 ⟨#[105, 112, 52, 46, 100, 115, 116]⟩ 32 2 _ _ _).mono ?_
  rintro e w1 ⟨rfl, rfl⟩
  unfold rowV
  go_wp2
  exact bodyPost_ret (results_cell_row (p := 2) (ty := 69) rfl _ _ w.heap.size 69 _ (0, 0) _ rfl (three_first _ _ _ _) Tryd.underlying69 rfl (by kernel_rfl)) rfl ⟨w.heap.size + 1, rfl, by simp [go_sem], below3 _ _ _ _⟩

theorem callE_11 : ∀ args W, (callFunc 50 args).run Tryd.prog W = .ok (.enter 50 args) W := fun args W => by simp [go_sem]
set_option maxHeartbeats 400000 in
theorem place_11 : ∀ (W : World) (b : Nat), True → Calls Tryd.prog 50 (#[.pointer (some ⟨b, 0, none⟩)] ++ #[]) W fun e W' => e = .returned (.pointer (some ⟨b, 16, none⟩)) ∧ ∃ nq, W' = W.drewN nq := by
  intro w b _
  simp only [Array.append_empty]
  go_enter Tryd.func50, Tryd.ntmps50
  go_wp2
  go_ret
  exact ⟨rfl, 0, rfl⟩
set_option maxHeartbeats 1000000 in
theorem row_12 (w : World) : Calls Tryd.prog 18 #[.int .i64 12] w fun e w' =>
    ∃ p, e = .returned (rowV ⟨#[105, 112, 46, 112, 114, 111, 116, 111]⟩ 8 2 (.func (Fn.func 72) #[] #[.pointer (some ⟨p, 0, none⟩)]) (.func (Fn.func 73) #[] #[.pointer (some ⟨p, 0, none⟩)])) ∧ w'.cell? ⟨p, 0, none⟩ = some (.func (Fn.func 50) #[] #[]) ∧ Below w.heap.size w w' := by
  go_enter Tryd.func18, Tryd.ntmps18
  go_wp2_with fail
  refine (number_i64 ⟨#[105, 112, 46, 112, 114, 111, 116, 111]⟩ 8 2 _ _ _).mono ?_
  rintro e w1 ⟨rfl, rfl⟩
  unfold rowV
  go_wp2
  exact bodyPost_ret (results_cell_row (p := 2) (ty := 69) rfl _ _ w.heap.size 69 _ (0, 0) _ rfl (three_first _ _ _ _) Tryd.underlying69 rfl (by kernel_rfl)) rfl ⟨w.heap.size + 1, rfl, by simp [go_sem], below3 _ _ _ _⟩

theorem callE_12 : ∀ args W, (callFunc 51 args).run Tryd.prog W = .ok (.enter 51 args) W := fun args W => by simp [go_sem]
set_option maxHeartbeats 400000 in
theorem place_12 : ∀ (W : World) (b : Nat), True → Calls Tryd.prog 51 (#[.pointer (some ⟨b, 0, none⟩)] ++ #[]) W fun e W' => e = .returned (.pointer (some ⟨b, 15, none⟩)) ∧ ∃ nq, W' = W.drewN nq := by
  intro w b _
  simp only [Array.append_empty]
  go_enter Tryd.func51, Tryd.ntmps51
  go_wp2
  go_ret
  exact ⟨rfl, 0, rfl⟩
set_option maxHeartbeats 1000000 in
theorem row_13 (w : World) : Calls Tryd.prog 18 #[.int .i64 13] w fun e w' =>
    ∃ p, e = .returned (rowV ⟨#[105, 112, 46, 116, 116, 108]⟩ 8 2 (.func (Fn.func 72) #[] #[.pointer (some ⟨p, 0, none⟩)]) (.func (Fn.func 73) #[] #[.pointer (some ⟨p, 0, none⟩)])) ∧ w'.cell? ⟨p, 0, none⟩ = some (.func (Fn.func 51) #[] #[]) ∧ Below w.heap.size w w' := by
  go_enter Tryd.func18, Tryd.ntmps18
  go_wp2_with fail
  refine (number_i64 ⟨#[105, 112, 46, 116, 116, 108]⟩ 8 2 _ _ _).mono ?_
  rintro e w1 ⟨rfl, rfl⟩
  unfold rowV
  go_wp2
  exact bodyPost_ret (results_cell_row (p := 2) (ty := 69) rfl _ _ w.heap.size 69 _ (0, 0) _ rfl (three_first _ _ _ _) Tryd.underlying69 rfl (by kernel_rfl)) rfl ⟨w.heap.size + 1, rfl, by simp [go_sem], below3 _ _ _ _⟩

theorem callE_13 : ∀ args W, (callFunc 52 args).run Tryd.prog W = .ok (.enter 52 args) W := fun args W => by simp [go_sem]
set_option maxHeartbeats 400000 in
theorem place_13 : ∀ (W : World) (b : Nat), True → Calls Tryd.prog 52 (#[.pointer (some ⟨b, 0, none⟩)] ++ #[]) W fun e W' => e = .returned (.pointer (some ⟨b, 12, none⟩)) ∧ ∃ nq, W' = W.drewN nq := by
  intro w b _
  simp only [Array.append_empty]
  go_enter Tryd.func52, Tryd.ntmps52
  go_wp2
  go_ret
  exact ⟨rfl, 0, rfl⟩
set_option maxHeartbeats 1000000 in
theorem row_14 (w : World) : Calls Tryd.prog 18 #[.int .i64 14] w fun e w' =>
    ∃ p, e = .returned (rowV ⟨#[105, 112, 46, 116, 111, 115]⟩ 8 2 (.func (Fn.func 72) #[] #[.pointer (some ⟨p, 0, none⟩)]) (.func (Fn.func 73) #[] #[.pointer (some ⟨p, 0, none⟩)])) ∧ w'.cell? ⟨p, 0, none⟩ = some (.func (Fn.func 52) #[] #[]) ∧ Below w.heap.size w w' := by
  go_enter Tryd.func18, Tryd.ntmps18
  go_wp2_with fail
  refine (number_i64 ⟨#[105, 112, 46, 116, 111, 115]⟩ 8 2 _ _ _).mono ?_
  rintro e w1 ⟨rfl, rfl⟩
  unfold rowV
  go_wp2
  exact bodyPost_ret (results_cell_row (p := 2) (ty := 69) rfl _ _ w.heap.size 69 _ (0, 0) _ rfl (three_first _ _ _ _) Tryd.underlying69 rfl (by kernel_rfl)) rfl ⟨w.heap.size + 1, rfl, by simp [go_sem], below3 _ _ _ _⟩

theorem callE_14 : ∀ args W, (callFunc 53 args).run Tryd.prog W = .ok (.enter 53 args) W := fun args W => by simp [go_sem]
set_option maxHeartbeats 400000 in
theorem place_14 : ∀ (W : World) (b : Nat), True → Calls Tryd.prog 53 (#[.pointer (some ⟨b, 0, none⟩)] ++ #[]) W fun e W' => e = .returned (.pointer (some ⟨b, 14, none⟩)) ∧ ∃ nq, W' = W.drewN nq := by
  intro w b _
  simp only [Array.append_empty]
  go_enter Tryd.func53, Tryd.ntmps53
  go_wp2
  go_ret
  exact ⟨rfl, 0, rfl⟩
set_option maxHeartbeats 1000000 in
theorem row_15 (w : World) : Calls Tryd.prog 18 #[.int .i64 15] w fun e w' =>
    ∃ p, e = .returned (rowV ⟨#[105, 112, 46, 102, 114, 97, 103]⟩ 16 2 (.func (Fn.func 72) #[] #[.pointer (some ⟨p, 0, none⟩)]) (.func (Fn.func 73) #[] #[.pointer (some ⟨p, 0, none⟩)])) ∧ w'.cell? ⟨p, 0, none⟩ = some (.func (Fn.func 53) #[] #[]) ∧ Below w.heap.size w w' := by
  go_enter Tryd.func18, Tryd.ntmps18
  go_wp2_with fail
  refine (number_i64 ⟨#[105, 112, 46, 102, 114, 97, 103]⟩ 16 2 _ _ _).mono ?_
  rintro e w1 ⟨rfl, rfl⟩
  unfold rowV
  go_wp2
  exact bodyPost_ret (results_cell_row (p := 2) (ty := 69) rfl _ _ w.heap.size 69 _ (0, 0) _ rfl (three_first _ _ _ _) Tryd.underlying69 rfl (by kernel_rfl)) rfl ⟨w.heap.size + 1, rfl, by simp [go_sem], below3 _ _ _ _⟩

theorem callE_15 : ∀ args W, (callFunc 54 args).run Tryd.prog W = .ok (.enter 54 args) W := fun args W => by simp [go_sem]
set_option maxHeartbeats 400000 in
theorem place_15 : ∀ (W : World) (b : Nat), True → Calls Tryd.prog 54 (#[.pointer (some ⟨b, 0, none⟩)] ++ #[]) W fun e W' => e = .returned (.pointer (some ⟨b, 21, none⟩)) ∧ ∃ nq, W' = W.drewN nq := by
  intro w b _
  simp only [Array.append_empty]
  go_enter Tryd.func54, Tryd.ntmps54
  go_wp2
  go_ret
  exact ⟨rfl, 0, rfl⟩
set_option maxHeartbeats 1000000 in
theorem row_16 (w : World) : Calls Tryd.prog 18 #[.int .i64 16] w fun e w' =>
    ∃ p, e = .returned (rowV ⟨#[105, 99, 109, 112, 46, 116, 121, 112, 101]⟩ 8 3 (.func (Fn.func 72) #[] #[.pointer (some ⟨p, 0, none⟩)]) (.func (Fn.func 73) #[] #[.pointer (some ⟨p, 0, none⟩)])) ∧ w'.cell? ⟨p, 0, none⟩ = some (.func (Fn.func 54) #[] #[]) ∧ Below w.heap.size w w' := by
  go_enter Tryd.func18, Tryd.ntmps18
  go_wp2_with fail
  refine (number_i64 ⟨#[105, 99, 109, 112, 46, 116, 121, 112, 101]⟩ 8 3 _ _ _).mono ?_
  rintro e w1 ⟨rfl, rfl⟩
  unfold rowV
  go_wp2
  exact bodyPost_ret (results_cell_row (p := 2) (ty := 69) rfl _ _ w.heap.size 69 _ (0, 0) _ rfl (three_first _ _ _ _) Tryd.underlying69 rfl (by kernel_rfl)) rfl ⟨w.heap.size + 1, rfl, by simp [go_sem], below3 _ _ _ _⟩

theorem callE_16 : ∀ args W, (callFunc 55 args).run Tryd.prog W = .ok (.enter 55 args) W := fun args W => by simp [go_sem]
set_option maxHeartbeats 400000 in
theorem place_16 : ∀ (W : World) (b : Nat), True → Calls Tryd.prog 55 (#[.pointer (some ⟨b, 0, none⟩)] ++ #[]) W fun e W' => e = .returned (.pointer (some ⟨b, 22, none⟩)) ∧ ∃ nq, W' = W.drewN nq := by
  intro w b _
  simp only [Array.append_empty]
  go_enter Tryd.func55, Tryd.ntmps55
  go_wp2
  go_ret
  exact ⟨rfl, 0, rfl⟩
set_option maxHeartbeats 1000000 in
theorem row_17 (w : World) : Calls Tryd.prog 18 #[.int .i64 17] w fun e w' =>
    ∃ p, e = .returned (rowV ⟨#[105, 99, 109, 112, 46, 99, 111, 100, 101]⟩ 8 3 (.func (Fn.func 72) #[] #[.pointer (some ⟨p, 0, none⟩)]) (.func (Fn.func 73) #[] #[.pointer (some ⟨p, 0, none⟩)])) ∧ w'.cell? ⟨p, 0, none⟩ = some (.func (Fn.func 55) #[] #[]) ∧ Below w.heap.size w w' := by
  go_enter Tryd.func18, Tryd.ntmps18
  go_wp2_with fail
  refine (number_i64 ⟨#[105, 99, 109, 112, 46, 99, 111, 100, 101]⟩ 8 3 _ _ _).mono ?_
  rintro e w1 ⟨rfl, rfl⟩
  unfold rowV
  go_wp2
  exact bodyPost_ret (results_cell_row (p := 2) (ty := 69) rfl _ _ w.heap.size 69 _ (0, 0) _ rfl (three_first _ _ _ _) Tryd.underlying69 rfl (by kernel_rfl)) rfl ⟨w.heap.size + 1, rfl, by simp [go_sem], below3 _ _ _ _⟩

theorem callE_17 : ∀ args W, (callFunc 56 args).run Tryd.prog W = .ok (.enter 56 args) W := fun args W => by simp [go_sem]
set_option maxHeartbeats 400000 in
theorem place_17 : ∀ (W : World) (b : Nat), True → Calls Tryd.prog 56 (#[.pointer (some ⟨b, 0, none⟩)] ++ #[]) W fun e W' => e = .returned (.pointer (some ⟨b, 24, none⟩)) ∧ ∃ nq, W' = W.drewN nq := by
  intro w b _
  simp only [Array.append_empty]
  go_enter Tryd.func56, Tryd.ntmps56
  go_wp2
  go_ret
  exact ⟨rfl, 0, rfl⟩
set_option maxHeartbeats 1000000 in
theorem row_18 (w : World) : Calls Tryd.prog 18 #[.int .i64 18] w fun e w' =>
    ∃ p, e = .returned (rowV ⟨#[116, 112, 46, 115, 114, 99]⟩ 16 4 (.func (Fn.func 72) #[] #[.pointer (some ⟨p, 0, none⟩)]) (.func (Fn.func 73) #[] #[.pointer (some ⟨p, 0, none⟩)])) ∧ w'.cell? ⟨p, 0, none⟩ = some (.func (Fn.func 56) #[] #[]) ∧ Below w.heap.size w w' := by
  go_enter Tryd.func18, Tryd.ntmps18
  go_wp2_with fail
  refine (number_i64 ⟨#[116, 112, 46, 115, 114, 99]⟩ 16 4 _ _ _).mono ?_
  rintro e w1 ⟨rfl, rfl⟩
  unfold rowV
  go_wp2
  exact bodyPost_ret (results_cell_row (p := 2) (ty := 69) rfl _ _ w.heap.size 69 _ (0, 0) _ rfl (three_first _ _ _ _) Tryd.underlying69 rfl (by kernel_rfl)) rfl ⟨w.heap.size + 1, rfl, by simp [go_sem], below3 _ _ _ _⟩

theorem callE_18 : ∀ args W, (callFunc 57 args).run Tryd.prog W = .ok (.enter 57 args) W := fun args W => by simp [go_sem]
set_option maxHeartbeats 400000 in
theorem place_18 : ∀ (W : World) (b : Nat), True → Calls Tryd.prog 57 (#[.pointer (some ⟨b, 0, none⟩)] ++ #[]) W fun e W' => e = .returned (.pointer (some ⟨b, 25, none⟩)) ∧ ∃ nq, W' = W.drewN nq := by
  intro w b _
  simp only [Array.append_empty]
  go_enter Tryd.func57, Tryd.ntmps57
  go_wp2
  go_ret
  exact ⟨rfl, 0, rfl⟩
set_option maxHeartbeats 1000000 in
theorem row_19 (w : World) : Calls Tryd.prog 18 #[.int .i64 19] w fun e w' =>
    ∃ p, e = .returned (rowV ⟨#[116, 112, 46, 100, 115, 116]⟩ 16 4 (.func (Fn.func 72) #[] #[.pointer (some ⟨p, 0, none⟩)]) (.func (Fn.func 73) #[] #[.pointer (some ⟨p, 0, none⟩)])) ∧ w'.cell? ⟨p, 0, none⟩ = some (.func (Fn.func 57) #[] #[]) ∧ Below w.heap.size w w' := by
  go_enter Tryd.func18, Tryd.ntmps18
  go_wp2_with fail
  refine (number_i64 ⟨#[116, 112, 46, 100, 115, 116]⟩ 16 4 _ _ _).mono ?_
  rintro e w1 ⟨rfl, rfl⟩
  unfold rowV
  go_wp2
  exact bodyPost_ret (results_cell_row (p := 2) (ty := 69) rfl _ _ w.heap.size 69 _ (0, 0) _ rfl (three_first _ _ _ _) Tryd.underlying69 rfl (by kernel_rfl)) rfl ⟨w.heap.size + 1, rfl, by simp [go_sem], below3 _ _ _ _⟩

theorem callE_19 : ∀ args W, (callFunc 58 args).run Tryd.prog W = .ok (.enter 58 args) W := fun args W => by simp [go_sem]
set_option maxHeartbeats 400000 in
theorem place_19 : ∀ (W : World) (b : Nat), True → Calls Tryd.prog 58 (#[.pointer (some ⟨b, 0, none⟩)] ++ #[]) W fun e W' => e = .returned (.pointer (some ⟨b, 29, none⟩)) ∧ ∃ nq, W' = W.drewN nq := by
  intro w b _
  simp only [Array.append_empty]
  go_enter Tryd.func58, Tryd.ntmps58
  go_wp2
  go_ret
  exact ⟨rfl, 0, rfl⟩
set_option maxHeartbeats 1000000 in
theorem row_20 (w : World) : Calls Tryd.prog 18 #[.int .i64 20] w fun e w' =>
    ∃ p, e = .returned (rowV ⟨#[116, 99, 112, 46, 102, 108, 97, 103, 115]⟩ 12 5 (.func (Fn.func 72) #[] #[.pointer (some ⟨p, 0, none⟩)]) (.func (Fn.func 73) #[] #[.pointer (some ⟨p, 0, none⟩)])) ∧ w'.cell? ⟨p, 0, none⟩ = some (.func (Fn.func 58) #[] #[]) ∧ Below w.heap.size w w' := by
  go_enter Tryd.func18, Tryd.ntmps18
  go_wp2_with fail
  refine (number_i64 ⟨#[116, 99, 112, 46, 102, 108, 97, 103, 115]⟩ 12 5 _ _ _).mono ?_
  rintro e w1 ⟨rfl, rfl⟩
  unfold rowV
  go_wp2
  exact bodyPost_ret (results_cell_row (p := 2) (ty := 69) rfl _ _ w.heap.size 69 _ (0, 0) _ rfl (three_first _ _ _ _) Tryd.underlying69 rfl (by kernel_rfl)) rfl ⟨w.heap.size + 1, rfl, by simp [go_sem], below3 _ _ _ _⟩

theorem callE_20 : ∀ args W, (callFunc 59 args).run Tryd.prog W = .ok (.enter 59 args) W := fun args W => by simp [go_sem]
set_option maxHeartbeats 400000 in
theorem place_20 : ∀ (W : World) (b : Nat), True → Calls Tryd.prog 59 (#[.pointer (some ⟨b, 0, none⟩)] ++ #[]) W fun e W' => e = .returned (.pointer (some ⟨b, 36, none⟩)) ∧ ∃ nq, W' = W.drewN nq := by
  intro w b _
  simp only [Array.append_empty]
  go_enter Tryd.func59, Tryd.ntmps59
  go_wp2
  go_ret
  exact ⟨rfl, 0, rfl⟩
set_option maxHeartbeats 1000000 in
theorem row_21 (w : World) : Calls Tryd.prog 18 #[.int .i64 21] w fun e w' =>
    ∃ p, e = .returned (rowV ⟨#[99, 116, 46, 115, 116, 97, 116, 101]⟩ 8 0 (.func (Fn.func 72) #[] #[.pointer (some ⟨p, 0, none⟩)]) (.func (Fn.func 73) #[] #[.pointer (some ⟨p, 0, none⟩)])) ∧ w'.cell? ⟨p, 0, none⟩ = some (.func (Fn.func 59) #[] #[]) ∧ Below w.heap.size w w' := by
  go_enter Tryd.func18, Tryd.ntmps18
  go_wp2_with fail
  refine (number_i64 ⟨#[99, 116, 46, 115, 116, 97, 116, 101]⟩ 8 0 _ _ _).mono ?_
  rintro e w1 ⟨rfl, rfl⟩
  unfold rowV
  go_wp2
  exact bodyPost_ret (results_cell_row (p := 2) (ty := 69) rfl _ _ w.heap.size 69 _ (0, 0) _ rfl (three_first _ _ _ _) Tryd.underlying69 rfl (by kernel_rfl)) rfl ⟨w.heap.size + 1, rfl, by simp [go_sem], below3 _ _ _ _⟩

theorem callE_21 : ∀ args W, (callFunc 60 args).run Tryd.prog W = .ok (.enter 60 args) W := fun args W => by simp [go_sem]
set_option maxHeartbeats 400000 in
theorem place_21 : ∀ (W : World) (b : Nat), True → Calls Tryd.prog 60 (#[.pointer (some ⟨b, 0, none⟩)] ++ #[]) W fun e W' => e = .returned (.pointer (some ⟨b, 37, none⟩)) ∧ ∃ nq, W' = W.drewN nq := by
  intro w b _
  simp only [Array.append_empty]
  go_enter Tryd.func60, Tryd.ntmps60
  go_wp2
  go_ret
  exact ⟨rfl, 0, rfl⟩
set_option maxHeartbeats 1000000 in
theorem row_22 (w : World) : Calls Tryd.prog 18 #[.int .i64 22] w fun e w' =>
    ∃ p, e = .returned (rowV ⟨#[100, 97, 116, 97, 112, 97, 116, 104]⟩ 24 0 (.func (Fn.func 72) #[] #[.pointer (some ⟨p, 0, none⟩)]) (.func (Fn.func 73) #[] #[.pointer (some ⟨p, 0, none⟩)])) ∧ w'.cell? ⟨p, 0, none⟩ = some (.func (Fn.func 60) #[] #[]) ∧ Below w.heap.size w w' := by
  go_enter Tryd.func18, Tryd.ntmps18
  go_wp2_with fail
  refine (number_i64 ⟨#[100, 97, 116, 97, 112, 97, 116, 104]⟩ 24 0 _ _ _).mono ?_
  rintro e w1 ⟨rfl, rfl⟩
  unfold rowV
  go_wp2
  exact bodyPost_ret (results_cell_row (p := 2) (ty := 69) rfl _ _ w.heap.size 69 _ (0, 0) _ rfl (three_first _ _ _ _) Tryd.underlying69 rfl (by kernel_rfl)) rfl ⟨w.heap.size + 1, rfl, by simp [go_sem], below3 _ _ _ _⟩

theorem callE_22 : ∀ args W, (callFunc 61 args).run Tryd.prog W = .ok (.enter 61 args) W := fun args W => by simp [go_sem]
set_option maxHeartbeats 400000 in
theorem place_22 : ∀ (W : World) (b : Nat), True → Calls Tryd.prog 61 (#[.pointer (some ⟨b, 0, none⟩)] ++ #[]) W fun e W' => e = .returned (.pointer (some ⟨b, 38, none⟩)) ∧ ∃ nq, W' = W.drewN nq := by
  intro w b _
  simp only [Array.append_empty]
  go_enter Tryd.func61, Tryd.ntmps61
  go_wp2
  go_ret
  exact ⟨rfl, 0, rfl⟩
set_option maxHeartbeats 1000000 in
theorem row_23 (w : World) : Calls Tryd.prog 18 #[.int .i64 23] w fun e w' =>
    ∃ p, e = .returned (rowV ⟨#[105, 110, 112, 111, 114, 116]⟩ 16 0 (.func (Fn.func 72) #[] #[.pointer (some ⟨p, 0, none⟩)]) (.func (Fn.func 73) #[] #[.pointer (some ⟨p, 0, none⟩)])) ∧ w'.cell? ⟨p, 0, none⟩ = some (.func (Fn.func 61) #[] #[]) ∧ Below w.heap.size w w' := by
  go_enter Tryd.func18, Tryd.ntmps18
  go_wp2_with fail
  refine (number_i64 ⟨#[105, 110, 112, 111, 114, 116]⟩ 16 0 _ _ _).mono ?_
  rintro e w1 ⟨rfl, rfl⟩
  unfold rowV
  go_wp2
  exact bodyPost_ret (results_cell_row (p := 2) (ty := 69) rfl _ _ w.heap.size 69 _ (0, 0) _ rfl (three_first _ _ _ _) Tryd.underlying69 rfl (by kernel_rfl)) rfl ⟨w.heap.size + 1, rfl, by simp [go_sem], below3 _ _ _ _⟩

theorem callE_23 : ∀ args W, (callFunc 62 args).run Tryd.prog W = .ok (.enter 62 args) W := fun args W => by simp [go_sem]
set_option maxHeartbeats 400000 in
theorem place_23 : ∀ (W : World) (b : Nat), True → Calls Tryd.prog 62 (#[.pointer (some ⟨b, 0, none⟩)] ++ #[]) W fun e W' => e = .returned (.pointer (some ⟨b, 39, none⟩)) ∧ ∃ nq, W' = W.drewN nq := by
  intro w b _
  simp only [Array.append_empty]
  go_enter Tryd.func62, Tryd.ntmps62
  go_wp2
  go_ret
  exact ⟨rfl, 0, rfl⟩
set_option maxHeartbeats 1000000 in
theorem row_24 (w : World) : Calls Tryd.prog 18 #[.int .i64 24] w fun e w' =>
    ∃ p, e = .returned (rowV ⟨#[111, 117, 116, 112, 111, 114, 116]⟩ 16 0 (.func (Fn.func 72) #[] #[.pointer (some ⟨p, 0, none⟩)]) (.func (Fn.func 73) #[] #[.pointer (some ⟨p, 0, none⟩)])) ∧ w'.cell? ⟨p, 0, none⟩ = some (.func (Fn.func 62) #[] #[]) ∧ Below w.heap.size w w' := by
  go_enter Tryd.func18, Tryd.ntmps18
  go_wp2_with fail
  refine (number_i64 ⟨#[111, 117, 116, 112, 111, 114, 116]⟩ 16 0 _ _ _).mono ?_
  rintro e w1 ⟨rfl, rfl⟩
  unfold rowV
  go_wp2
  exact bodyPost_ret (results_cell_row (p := 2) (ty := 69) rfl _ _ w.heap.size 69 _ (0, 0) _ rfl (three_first _ _ _ _) Tryd.underlying69 rfl (by kernel_rfl)) rfl ⟨w.heap.size + 1, rfl, by simp [go_sem], below3 _ _ _ _⟩
end Go.Proofs.YthodjgaaojmihaaDoor.Fl
