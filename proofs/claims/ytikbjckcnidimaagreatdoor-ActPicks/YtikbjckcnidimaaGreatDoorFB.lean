/- The rows of all fields, by number. No condition. -/
import Derived.Test.YtikbjckcnidimaaGreatDoorFA
namespace Go.Proofs.YtikbjckcnidimaaGreatDoor
open Go.RowKit

theorem three_first (w : World) (A B C : Obj) : (((w.alloc A).alloc B).alloc C).heap[w.heap.size]? = some A := (heap_alloc_old _ _ (by simp; omega)).trans (two_first _ _ _)
theorem four_first (w : World) (A B C D : Obj) : ((((w.alloc A).alloc B).alloc C).alloc D).heap[w.heap.size]? = some A := (heap_alloc_old _ _ (by simp; omega)).trans (three_first _ _ _ _)
theorem below3 (w : World) (A B C : Obj) : Below w.heap.size w (((w.alloc A).alloc B).alloc C) := (below2 w A B).alloc (by simp; omega) C
theorem below4 (w : World) (A B C D : Obj) : Below w.heap.size w ((((w.alloc A).alloc B).alloc C).alloc D) := (below3 w A B C).alloc (by simp; omega) D

theorem callE_1 : ∀ args W, (callFunc 177 args).run Tryz.prog W = .ok (.enter 177 args) W := fun args W => by simp [go_sem]
set_option maxHeartbeats 400000 in
theorem place_1 : ∀ (W : World) (b : Nat), True → Calls Tryz.prog 177 (#[.pointer (some ⟨b, 0, none⟩)] ++ #[]) W fun e W' => e = .returned (.pointer (some ⟨b, 0, none⟩)) ∧ ∃ nq, W' = W.drewN nq := by
  intro w b _
  simp only [Array.append_empty]
  go_enter Tryz.func177, Tryz.ntmps177
  go_wp2
  go_ret
  exact ⟨rfl, 0, rfl⟩
set_option maxHeartbeats 1000000 in
theorem row_1 (w : World) : Calls Tryz.prog 139 #[.int .i64 1] w fun e w' =>
    ∃ p, e = .returned (rowV ⟨#[101, 116, 104, 46, 100, 115, 116]⟩ 48 0 (.func (Fn.func 224) #[] #[.pointer (some ⟨p, 0, none⟩)]) (.func (Fn.func 225) #[] #[.pointer (some ⟨p, 0, none⟩)])) ∧ w'.cell? ⟨p, 0, none⟩ = some (.func (Fn.func 177) #[] #[]) ∧ Below w.heap.size w w' := by
  go_enter Tryz.func139, Tryz.ntmps139
  go_wp2_with fail
  refine (number_u64 ⟨#[101, 116, 104, 46, 100, 115, 116]⟩ 48 0 _ _ _).mono ?_
  rintro e w1 ⟨rfl, rfl⟩
  unfold rowV
  go_wp2
  exact bodyPost_ret (results_cell_row (p := 2) (ty := 152) rfl _ _ w.heap.size 152 _ (0, 0) _ rfl (three_first _ _ _ _) Tryz.underlying152 rfl (by kernel_rfl)) rfl ⟨w.heap.size + 1, rfl, by simp [go_sem], below3 _ _ _ _⟩

theorem callE_2 : ∀ args W, (callFunc 178 args).run Tryz.prog W = .ok (.enter 178 args) W := fun args W => by simp [go_sem]
set_option maxHeartbeats 400000 in
theorem place_2 : ∀ (W : World) (b : Nat), True → Calls Tryz.prog 178 (#[.pointer (some ⟨b, 0, none⟩)] ++ #[]) W fun e W' => e = .returned (.pointer (some ⟨b, 1, none⟩)) ∧ ∃ nq, W' = W.drewN nq := by
  intro w b _
  simp only [Array.append_empty]
  go_enter Tryz.func178, Tryz.ntmps178
  go_wp2
  go_ret
  exact ⟨rfl, 0, rfl⟩
set_option maxHeartbeats 1000000 in
theorem row_2 (w : World) : Calls Tryz.prog 139 #[.int .i64 2] w fun e w' =>
    ∃ p, e = .returned (rowV ⟨#[101, 116, 104, 46, 115, 114, 99]⟩ 48 0 (.func (Fn.func 224) #[] #[.pointer (some ⟨p, 0, none⟩)]) (.func (Fn.func 225) #[] #[.pointer (some ⟨p, 0, none⟩)])) ∧ w'.cell? ⟨p, 0, none⟩ = some (.func (Fn.func 178) #[] #[]) ∧ Below w.heap.size w w' := by
  go_enter Tryz.func139, Tryz.ntmps139
  go_wp2_with fail
  refine (number_u64 ⟨#[101, 116, 104, 46, 115, 114, 99]⟩ 48 0 _ _ _).mono ?_
  rintro e w1 ⟨rfl, rfl⟩
  unfold rowV
  go_wp2
  exact bodyPost_ret (results_cell_row (p := 2) (ty := 152) rfl _ _ w.heap.size 152 _ (0, 0) _ rfl (three_first _ _ _ _) Tryz.underlying152 rfl (by kernel_rfl)) rfl ⟨w.heap.size + 1, rfl, by simp [go_sem], below3 _ _ _ _⟩

theorem callE_3 : ∀ args W, (callFunc 180 args).run Tryz.prog W = .ok (.enter 180 args) W := fun args W => by simp [go_sem]
set_option maxHeartbeats 400000 in
theorem place_3 : ∀ (W : World) (b : Nat), True → Calls Tryz.prog 180 (#[.pointer (some ⟨b, 0, none⟩)] ++ #[]) W fun e W' => e = .returned (.pointer (some ⟨b, 4, none⟩)) ∧ ∃ nq, W' = W.drewN nq := by
  intro w b _
  simp only [Array.append_empty]
  go_enter Tryz.func180, Tryz.ntmps180
  go_wp2
  go_ret
  exact ⟨rfl, 0, rfl⟩
set_option maxHeartbeats 1000000 in
theorem row_3 (w : World) : Calls Tryz.prog 139 #[.int .i64 3] w fun e w' =>
    ∃ p, e = .returned (rowV ⟨#[101, 116, 104, 46, 116, 121, 112, 101]⟩ 16 0 (.func (Fn.func 226) #[] #[.pointer (some ⟨p, 0, none⟩)]) (.func (Fn.func 227) #[] #[.pointer (some ⟨p, 0, none⟩)])) ∧ w'.cell? ⟨p, 0, none⟩ = some (.func (Fn.func 180) #[] #[]) ∧ Below w.heap.size w w' := by
  go_enter Tryz.func139, Tryz.ntmps139
  go_wp2_with fail
  refine (number_i64 ⟨#[101, 116, 104, 46, 116, 121, 112, 101]⟩ 16 0 _ _ _).mono ?_
  rintro e w1 ⟨rfl, rfl⟩
  unfold rowV
  go_wp2
  exact bodyPost_ret (results_cell_row (p := 2) (ty := 152) rfl _ _ w.heap.size 152 _ (0, 0) _ rfl (three_first _ _ _ _) Tryz.underlying152 rfl (by kernel_rfl)) rfl ⟨w.heap.size + 1, rfl, by simp [go_sem], below3 _ _ _ _⟩

theorem callE_4 : ∀ args W, (callFunc 183 args).run Tryz.prog W = .ok (.enter 183 args) W := fun args W => by simp [go_sem]
set_option maxHeartbeats 400000 in
theorem place_4 : ∀ (W : World) (b : Nat), True → Calls Tryz.prog 183 (#[.pointer (some ⟨b, 0, none⟩)] ++ #[]) W fun e W' => e = .returned (.pointer (some ⟨b, 6, none⟩)) ∧ ∃ nq, W' = W.drewN nq := by
  intro w b _
  simp only [Array.append_empty]
  go_enter Tryz.func183, Tryz.ntmps183
  go_wp2
  go_ret
  exact ⟨rfl, 0, rfl⟩
set_option maxHeartbeats 1000000 in
theorem row_5 (w : World) : Calls Tryz.prog 139 #[.int .i64 5] w fun e w' =>
    ∃ p, e = .returned (rowV ⟨#[97, 114, 112, 46, 111, 112]⟩ 16 1 (.func (Fn.func 226) #[] #[.pointer (some ⟨p, 0, none⟩)]) (.func (Fn.func 227) #[] #[.pointer (some ⟨p, 0, none⟩)])) ∧ w'.cell? ⟨p, 0, none⟩ = some (.func (Fn.func 183) #[] #[]) ∧ Below w.heap.size w w' := by
  go_enter Tryz.func139, Tryz.ntmps139
  go_wp2_with fail
  refine (number_i64 ⟨#[97, 114, 112, 46, 111, 112]⟩ 16 1 _ _ _).mono ?_
  rintro e w1 ⟨rfl, rfl⟩
  unfold rowV
  go_wp2
  exact bodyPost_ret (results_cell_row (p := 2) (ty := 152) rfl _ _ w.heap.size 152 _ (0, 0) _ rfl (three_first _ _ _ _) Tryz.underlying152 rfl (by kernel_rfl)) rfl ⟨w.heap.size + 1, rfl, by simp [go_sem], below3 _ _ _ _⟩

theorem callE_5 : ∀ args W, (callFunc 184 args).run Tryz.prog W = .ok (.enter 184 args) W := fun args W => by simp [go_sem]
set_option maxHeartbeats 400000 in
theorem place_5 : ∀ (W : World) (b : Nat), True → Calls Tryz.prog 184 (#[.pointer (some ⟨b, 0, none⟩)] ++ #[]) W fun e W' => e = .returned (.pointer (some ⟨b, 7, none⟩)) ∧ ∃ nq, W' = W.drewN nq := by
  intro w b _
  simp only [Array.append_empty]
  go_enter Tryz.func184, Tryz.ntmps184
  go_wp2
  go_ret
  exact ⟨rfl, 0, rfl⟩
set_option maxHeartbeats 1000000 in
theorem row_6 (w : World) : Calls Tryz.prog 139 #[.int .i64 6] w fun e w' =>
    ∃ p, e = .returned (rowV ⟨#[97, 114, 112, 46, 115, 104, 97]⟩ 48 1 (.func (Fn.func 224) #[] #[.pointer (some ⟨p, 0, none⟩)]) (.func (Fn.func 225) #[] #[.pointer (some ⟨p, 0, none⟩)])) ∧ w'.cell? ⟨p, 0, none⟩ = some (.func (Fn.func 184) #[] #[]) ∧ Below w.heap.size w w' := by
  go_enter Tryz.func139, Tryz.ntmps139
  go_wp2_with fail
  refine (number_u64 ⟨#[97, 114, 112, 46, 115, 104, 97]⟩ 48 1 _ _ _).mono ?_
  rintro e w1 ⟨rfl, rfl⟩
  unfold rowV
  go_wp2
  exact bodyPost_ret (results_cell_row (p := 2) (ty := 152) rfl _ _ w.heap.size 152 _ (0, 0) _ rfl (three_first _ _ _ _) Tryz.underlying152 rfl (by kernel_rfl)) rfl ⟨w.heap.size + 1, rfl, by simp [go_sem], below3 _ _ _ _⟩

theorem callE_6 : ∀ args W, (callFunc 186 args).run Tryz.prog W = .ok (.enter 186 args) W := fun args W => by simp [go_sem]
set_option maxHeartbeats 400000 in
theorem place_6 : ∀ (W : World) (b : Nat), True → Calls Tryz.prog 186 (#[.pointer (some ⟨b, 0, none⟩)] ++ #[]) W fun e W' => e = .returned (.pointer (some ⟨b, 8, none⟩)) ∧ ∃ nq, W' = W.drewN nq := by
  intro w b _
  simp only [Array.append_empty]
  go_enter Tryz.func186, Tryz.ntmps186
  go_wp2
  go_ret
  exact ⟨rfl, 0, rfl⟩
set_option maxHeartbeats 1000000 in
theorem row_7 (w : World) : Calls Tryz.prog 139 #[.int .i64 7] w fun e w' =>
    ∃ p, e = .returned (rowV ⟨#[97, 114, 112, 46, 115, 112, 97]⟩ 32 1 (.func (Fn.func 228) #[] #[.pointer (some ⟨p, 0, none⟩)]) (.func (Fn.func 229) #[] #[.pointer (some ⟨p, 0, none⟩)])) ∧ w'.cell? ⟨p, 0, none⟩ = some (.func (Fn.func 186) #[] #[]) ∧ Below w.heap.size w w' := by
  go_enter Tryz.func139, Tryz.ntmps139
  go_wp2_with fail
  refine (number_u32 ⟨#[97, 114, 112, 46, 115, 112, 97]⟩ 32 1 _ _ _).mono ?_
  rintro e w1 ⟨rfl, rfl⟩
  unfold rowV
  go_wp2
  exact bodyPost_ret (results_cell_row (p := 2) (ty := 152) rfl _ _ w.heap.size 152 _ (0, 0) _ rfl (three_first _ _ _ _) Tryz.underlying152 rfl (by kernel_rfl)) rfl ⟨w.heap.size + 1, rfl, by simp [go_sem], below3 _ _ _ _⟩

theorem callE_7 : ∀ args W, (callFunc 187 args).run Tryz.prog W = .ok (.enter 187 args) W := fun args W => by simp [go_sem]
set_option maxHeartbeats 400000 in
theorem place_7 : ∀ (W : World) (b : Nat), True → Calls Tryz.prog 187 (#[.pointer (some ⟨b, 0, none⟩)] ++ #[]) W fun e W' => e = .returned (.pointer (some ⟨b, 9, none⟩)) ∧ ∃ nq, W' = W.drewN nq := by
  intro w b _
  simp only [Array.append_empty]
  go_enter Tryz.func187, Tryz.ntmps187
  go_wp2
  go_ret
  exact ⟨rfl, 0, rfl⟩
set_option maxHeartbeats 1000000 in
theorem row_8 (w : World) : Calls Tryz.prog 139 #[.int .i64 8] w fun e w' =>
    ∃ p, e = .returned (rowV ⟨#[97, 114, 112, 46, 116, 104, 97]⟩ 48 1 (.func (Fn.func 224) #[] #[.pointer (some ⟨p, 0, none⟩)]) (.func (Fn.func 225) #[] #[.pointer (some ⟨p, 0, none⟩)])) ∧ w'.cell? ⟨p, 0, none⟩ = some (.func (Fn.func 187) #[] #[]) ∧ Below w.heap.size w w' := by
  go_enter Tryz.func139, Tryz.ntmps139
  go_wp2_with fail
  refine (number_u64 ⟨#[97, 114, 112, 46, 116, 104, 97]⟩ 48 1 _ _ _).mono ?_
  rintro e w1 ⟨rfl, rfl⟩
  unfold rowV
  go_wp2
  exact bodyPost_ret (results_cell_row (p := 2) (ty := 152) rfl _ _ w.heap.size 152 _ (0, 0) _ rfl (three_first _ _ _ _) Tryz.underlying152 rfl (by kernel_rfl)) rfl ⟨w.heap.size + 1, rfl, by simp [go_sem], below3 _ _ _ _⟩

theorem callE_8 : ∀ args W, (callFunc 188 args).run Tryz.prog W = .ok (.enter 188 args) W := fun args W => by simp [go_sem]
set_option maxHeartbeats 400000 in
theorem place_8 : ∀ (W : World) (b : Nat), True → Calls Tryz.prog 188 (#[.pointer (some ⟨b, 0, none⟩)] ++ #[]) W fun e W' => e = .returned (.pointer (some ⟨b, 10, none⟩)) ∧ ∃ nq, W' = W.drewN nq := by
  intro w b _
  simp only [Array.append_empty]
  go_enter Tryz.func188, Tryz.ntmps188
  go_wp2
  go_ret
  exact ⟨rfl, 0, rfl⟩
set_option maxHeartbeats 1000000 in
theorem row_9 (w : World) : Calls Tryz.prog 139 #[.int .i64 9] w fun e w' =>
    ∃ p, e = .returned (rowV ⟨#[97, 114, 112, 46, 116, 112, 97]⟩ 32 1 (.func (Fn.func 228) #[] #[.pointer (some ⟨p, 0, none⟩)]) (.func (Fn.func 229) #[] #[.pointer (some ⟨p, 0, none⟩)])) ∧ w'.cell? ⟨p, 0, none⟩ = some (.func (Fn.func 188) #[] #[]) ∧ Below w.heap.size w w' := by
  go_enter Tryz.func139, Tryz.ntmps139
  go_wp2_with fail
  refine (number_u32 ⟨#[97, 114, 112, 46, 116, 112, 97]⟩ 32 1 _ _ _).mono ?_
  rintro e w1 ⟨rfl, rfl⟩
  unfold rowV
  go_wp2
  exact bodyPost_ret (results_cell_row (p := 2) (ty := 152) rfl _ _ w.heap.size 152 _ (0, 0) _ rfl (three_first _ _ _ _) Tryz.underlying152 rfl (by kernel_rfl)) rfl ⟨w.heap.size + 1, rfl, by simp [go_sem], below3 _ _ _ _⟩

theorem callE_9 : ∀ args W, (callFunc 189 args).run Tryz.prog W = .ok (.enter 189 args) W := fun args W => by simp [go_sem]
set_option maxHeartbeats 400000 in
theorem place_9 : ∀ (W : World) (b : Nat), True → Calls Tryz.prog 189 (#[.pointer (some ⟨b, 0, none⟩)] ++ #[]) W fun e W' => e = .returned (.pointer (some ⟨b, 17, none⟩)) ∧ ∃ nq, W' = W.drewN nq := by
  intro w b _
  simp only [Array.append_empty]
  go_enter Tryz.func189, Tryz.ntmps189
  go_wp2
  go_ret
  exact ⟨rfl, 0, rfl⟩
set_option maxHeartbeats 1000000 in
theorem row_10 (w : World) : Calls Tryz.prog 139 #[.int .i64 10] w fun e w' =>
    ∃ p, e = .returned (rowV ⟨#[105, 112, 52, 46, 115, 114, 99]⟩ 32 2 (.func (Fn.func 228) #[] #[.pointer (some ⟨p, 0, none⟩)]) (.func (Fn.func 229) #[] #[.pointer (some ⟨p, 0, none⟩)])) ∧ w'.cell? ⟨p, 0, none⟩ = some (.func (Fn.func 189) #[] #[]) ∧ Below w.heap.size w w' := by
  go_enter Tryz.func139, Tryz.ntmps139
  go_wp2_with fail
  refine (number_u32 ⟨#[105, 112, 52, 46, 115, 114, 99]⟩ 32 2 _ _ _).mono ?_
  rintro e w1 ⟨rfl, rfl⟩
  unfold rowV
  go_wp2
  exact bodyPost_ret (results_cell_row (p := 2) (ty := 152) rfl _ _ w.heap.size 152 _ (0, 0) _ rfl (three_first _ _ _ _) Tryz.underlying152 rfl (by kernel_rfl)) rfl ⟨w.heap.size + 1, rfl, by simp [go_sem], below3 _ _ _ _⟩

theorem callE_10 : ∀ args W, (callFunc 190 args).run Tryz.prog W = .ok (.enter 190 args) W := fun args W => by simp [go_sem]
set_option maxHeartbeats 400000 in
theorem place_10 : ∀ (W : World) (b : Nat), True → Calls Tryz.prog 190 (#[.pointer (some ⟨b, 0, none⟩)] ++ #[]) W fun e W' => e = .returned (.pointer (some ⟨b, 18, none⟩)) ∧ ∃ nq, W' = W.drewN nq := by
  intro w b _
  simp only [Array.append_empty]
  go_enter Tryz.func190, Tryz.ntmps190
  go_wp2
  go_ret
  exact ⟨rfl, 0, rfl⟩
set_option maxHeartbeats 1000000 in
theorem row_11 (w : World) : Calls Tryz.prog 139 #[.int .i64 11] w fun e w' =>
    ∃ p, e = .returned (rowV ⟨#[105, 112, 52, 46, 100, 115, 116]⟩ 32 2 (.func (Fn.func 228) #[] #[.pointer (some ⟨p, 0, none⟩)]) (.func (Fn.func 229) #[] #[.pointer (some ⟨p, 0, none⟩)])) ∧ w'.cell? ⟨p, 0, none⟩ = some (.func (Fn.func 190) #[] #[]) ∧ Below w.heap.size w w' := by
  go_enter Tryz.func139, Tryz.ntmps139
  go_wp2_with fail
  refine (number_u32 ⟨#[105, 112, 52, 46, 100, 115, 116]⟩ 32 2 _ _ _).mono ?_
  rintro e w1 ⟨rfl, rfl⟩
  unfold rowV
  go_wp2
  exact bodyPost_ret (results_cell_row (p := 2) (ty := 152) rfl _ _ w.heap.size 152 _ (0, 0) _ rfl (three_first _ _ _ _) Tryz.underlying152 rfl (by kernel_rfl)) rfl ⟨w.heap.size + 1, rfl, by simp [go_sem], below3 _ _ _ _⟩

theorem callE_11 : ∀ args W, (callFunc 191 args).run Tryz.prog W = .ok (.enter 191 args) W := fun args W => by simp [go_sem]
set_option maxHeartbeats 400000 in
theorem place_11 : ∀ (W : World) (b : Nat), True → Calls Tryz.prog 191 (#[.pointer (some ⟨b, 0, none⟩)] ++ #[]) W fun e W' => e = .returned (.pointer (some ⟨b, 16, none⟩)) ∧ ∃ nq, W' = W.drewN nq := by
  intro w b _
  simp only [Array.append_empty]
  go_enter Tryz.func191, Tryz.ntmps191
  go_wp2
  go_ret
  exact ⟨rfl, 0, rfl⟩
set_option maxHeartbeats 1000000 in
theorem row_12 (w : World) : Calls Tryz.prog 139 #[.int .i64 12] w fun e w' =>
    ∃ p, e = .returned (rowV ⟨#[105, 112, 46, 112, 114, 111, 116, 111]⟩ 8 2 (.func (Fn.func 226) #[] #[.pointer (some ⟨p, 0, none⟩)]) (.func (Fn.func 227) #[] #[.pointer (some ⟨p, 0, none⟩)])) ∧ w'.cell? ⟨p, 0, none⟩ = some (.func (Fn.func 191) #[] #[]) ∧ Below w.heap.size w w' := by
  go_enter Tryz.func139, Tryz.ntmps139
  go_wp2_with fail
  refine (number_i64 ⟨#[105, 112, 46, 112, 114, 111, 116, 111]⟩ 8 2 _ _ _).mono ?_
  rintro e w1 ⟨rfl, rfl⟩
  unfold rowV
  go_wp2
  exact bodyPost_ret (results_cell_row (p := 2) (ty := 152) rfl _ _ w.heap.size 152 _ (0, 0) _ rfl (three_first _ _ _ _) Tryz.underlying152 rfl (by kernel_rfl)) rfl ⟨w.heap.size + 1, rfl, by simp [go_sem], below3 _ _ _ _⟩

theorem callE_12 : ∀ args W, (callFunc 192 args).run Tryz.prog W = .ok (.enter 192 args) W := fun args W => by simp [go_sem]
set_option maxHeartbeats 400000 in
theorem place_12 : ∀ (W : World) (b : Nat), True → Calls Tryz.prog 192 (#[.pointer (some ⟨b, 0, none⟩)] ++ #[]) W fun e W' => e = .returned (.pointer (some ⟨b, 15, none⟩)) ∧ ∃ nq, W' = W.drewN nq := by
  intro w b _
  simp only [Array.append_empty]
  go_enter Tryz.func192, Tryz.ntmps192
  go_wp2
  go_ret
  exact ⟨rfl, 0, rfl⟩
set_option maxHeartbeats 1000000 in
theorem row_13 (w : World) : Calls Tryz.prog 139 #[.int .i64 13] w fun e w' =>
    ∃ p, e = .returned (rowV ⟨#[105, 112, 46, 116, 116, 108]⟩ 8 2 (.func (Fn.func 226) #[] #[.pointer (some ⟨p, 0, none⟩)]) (.func (Fn.func 227) #[] #[.pointer (some ⟨p, 0, none⟩)])) ∧ w'.cell? ⟨p, 0, none⟩ = some (.func (Fn.func 192) #[] #[]) ∧ Below w.heap.size w w' := by
  go_enter Tryz.func139, Tryz.ntmps139
  go_wp2_with fail
  refine (number_i64 ⟨#[105, 112, 46, 116, 116, 108]⟩ 8 2 _ _ _).mono ?_
  rintro e w1 ⟨rfl, rfl⟩
  unfold rowV
  go_wp2
  exact bodyPost_ret (results_cell_row (p := 2) (ty := 152) rfl _ _ w.heap.size 152 _ (0, 0) _ rfl (three_first _ _ _ _) Tryz.underlying152 rfl (by kernel_rfl)) rfl ⟨w.heap.size + 1, rfl, by simp [go_sem], below3 _ _ _ _⟩

theorem callE_13 : ∀ args W, (callFunc 193 args).run Tryz.prog W = .ok (.enter 193 args) W := fun args W => by simp [go_sem]
set_option maxHeartbeats 400000 in
theorem place_13 : ∀ (W : World) (b : Nat), True → Calls Tryz.prog 193 (#[.pointer (some ⟨b, 0, none⟩)] ++ #[]) W fun e W' => e = .returned (.pointer (some ⟨b, 12, none⟩)) ∧ ∃ nq, W' = W.drewN nq := by
  intro w b _
  simp only [Array.append_empty]
  go_enter Tryz.func193, Tryz.ntmps193
  go_wp2
  go_ret
  exact ⟨rfl, 0, rfl⟩
set_option maxHeartbeats 1000000 in
theorem row_14 (w : World) : Calls Tryz.prog 139 #[.int .i64 14] w fun e w' =>
    ∃ p, e = .returned (rowV ⟨#[105, 112, 46, 116, 111, 115]⟩ 8 2 (.func (Fn.func 226) #[] #[.pointer (some ⟨p, 0, none⟩)]) (.func (Fn.func 227) #[] #[.pointer (some ⟨p, 0, none⟩)])) ∧ w'.cell? ⟨p, 0, none⟩ = some (.func (Fn.func 193) #[] #[]) ∧ Below w.heap.size w w' := by
  go_enter Tryz.func139, Tryz.ntmps139
  go_wp2_with fail
  refine (number_i64 ⟨#[105, 112, 46, 116, 111, 115]⟩ 8 2 _ _ _).mono ?_
  rintro e w1 ⟨rfl, rfl⟩
  unfold rowV
  go_wp2
  exact bodyPost_ret (results_cell_row (p := 2) (ty := 152) rfl _ _ w.heap.size 152 _ (0, 0) _ rfl (three_first _ _ _ _) Tryz.underlying152 rfl (by kernel_rfl)) rfl ⟨w.heap.size + 1, rfl, by simp [go_sem], below3 _ _ _ _⟩

theorem callE_14 : ∀ args W, (callFunc 194 args).run Tryz.prog W = .ok (.enter 194 args) W := fun args W => by simp [go_sem]
set_option maxHeartbeats 400000 in
theorem place_14 : ∀ (W : World) (b : Nat), True → Calls Tryz.prog 194 (#[.pointer (some ⟨b, 0, none⟩)] ++ #[]) W fun e W' => e = .returned (.pointer (some ⟨b, 14, none⟩)) ∧ ∃ nq, W' = W.drewN nq := by
  intro w b _
  simp only [Array.append_empty]
  go_enter Tryz.func194, Tryz.ntmps194
  go_wp2
  go_ret
  exact ⟨rfl, 0, rfl⟩
set_option maxHeartbeats 1000000 in
theorem row_15 (w : World) : Calls Tryz.prog 139 #[.int .i64 15] w fun e w' =>
    ∃ p, e = .returned (rowV ⟨#[105, 112, 46, 102, 114, 97, 103]⟩ 16 2 (.func (Fn.func 226) #[] #[.pointer (some ⟨p, 0, none⟩)]) (.func (Fn.func 227) #[] #[.pointer (some ⟨p, 0, none⟩)])) ∧ w'.cell? ⟨p, 0, none⟩ = some (.func (Fn.func 194) #[] #[]) ∧ Below w.heap.size w w' := by
  go_enter Tryz.func139, Tryz.ntmps139
  go_wp2_with fail
  refine (number_i64 ⟨#[105, 112, 46, 102, 114, 97, 103]⟩ 16 2 _ _ _).mono ?_
  rintro e w1 ⟨rfl, rfl⟩
  unfold rowV
  go_wp2
  exact bodyPost_ret (results_cell_row (p := 2) (ty := 152) rfl _ _ w.heap.size 152 _ (0, 0) _ rfl (three_first _ _ _ _) Tryz.underlying152 rfl (by kernel_rfl)) rfl ⟨w.heap.size + 1, rfl, by simp [go_sem], below3 _ _ _ _⟩

theorem callE_15 : ∀ args W, (callFunc 195 args).run Tryz.prog W = .ok (.enter 195 args) W := fun args W => by simp [go_sem]
set_option maxHeartbeats 400000 in
theorem place_15 : ∀ (W : World) (b : Nat), True → Calls Tryz.prog 195 (#[.pointer (some ⟨b, 0, none⟩)] ++ #[]) W fun e W' => e = .returned (.pointer (some ⟨b, 21, none⟩)) ∧ ∃ nq, W' = W.drewN nq := by
  intro w b _
  simp only [Array.append_empty]
  go_enter Tryz.func195, Tryz.ntmps195
  go_wp2
  go_ret
  exact ⟨rfl, 0, rfl⟩
set_option maxHeartbeats 1000000 in
theorem row_16 (w : World) : Calls Tryz.prog 139 #[.int .i64 16] w fun e w' =>
    ∃ p, e = .returned (rowV ⟨#[105, 99, 109, 112, 46, 116, 121, 112, 101]⟩ 8 3 (.func (Fn.func 226) #[] #[.pointer (some ⟨p, 0, none⟩)]) (.func (Fn.func 227) #[] #[.pointer (some ⟨p, 0, none⟩)])) ∧ w'.cell? ⟨p, 0, none⟩ = some (.func (Fn.func 195) #[] #[]) ∧ Below w.heap.size w w' := by
  go_enter Tryz.func139, Tryz.ntmps139
  go_wp2_with fail
  refine (number_i64 ⟨#[105, 99, 109, 112, 46, 116, 121, 112, 101]⟩ 8 3 _ _ _).mono ?_
  rintro e w1 ⟨rfl, rfl⟩
  unfold rowV
  go_wp2
  exact bodyPost_ret (results_cell_row (p := 2) (ty := 152) rfl _ _ w.heap.size 152 _ (0, 0) _ rfl (three_first _ _ _ _) Tryz.underlying152 rfl (by kernel_rfl)) rfl ⟨w.heap.size + 1, rfl, by simp [go_sem], below3 _ _ _ _⟩

theorem callE_16 : ∀ args W, (callFunc 196 args).run Tryz.prog W = .ok (.enter 196 args) W := fun args W => by simp [go_sem]
set_option maxHeartbeats 400000 in
theorem place_16 : ∀ (W : World) (b : Nat), True → Calls Tryz.prog 196 (#[.pointer (some ⟨b, 0, none⟩)] ++ #[]) W fun e W' => e = .returned (.pointer (some ⟨b, 22, none⟩)) ∧ ∃ nq, W' = W.drewN nq := by
  intro w b _
  simp only [Array.append_empty]
  go_enter Tryz.func196, Tryz.ntmps196
  go_wp2
  go_ret
  exact ⟨rfl, 0, rfl⟩
set_option maxHeartbeats 1000000 in
theorem row_17 (w : World) : Calls Tryz.prog 139 #[.int .i64 17] w fun e w' =>
    ∃ p, e = .returned (rowV ⟨#[105, 99, 109, 112, 46, 99, 111, 100, 101]⟩ 8 3 (.func (Fn.func 226) #[] #[.pointer (some ⟨p, 0, none⟩)]) (.func (Fn.func 227) #[] #[.pointer (some ⟨p, 0, none⟩)])) ∧ w'.cell? ⟨p, 0, none⟩ = some (.func (Fn.func 196) #[] #[]) ∧ Below w.heap.size w w' := by
  go_enter Tryz.func139, Tryz.ntmps139
  go_wp2_with fail
  refine (number_i64 ⟨#[105, 99, 109, 112, 46, 99, 111, 100, 101]⟩ 8 3 _ _ _).mono ?_
  rintro e w1 ⟨rfl, rfl⟩
  unfold rowV
  go_wp2
  exact bodyPost_ret (results_cell_row (p := 2) (ty := 152) rfl _ _ w.heap.size 152 _ (0, 0) _ rfl (three_first _ _ _ _) Tryz.underlying152 rfl (by kernel_rfl)) rfl ⟨w.heap.size + 1, rfl, by simp [go_sem], below3 _ _ _ _⟩

theorem callE_17 : ∀ args W, (callFunc 197 args).run Tryz.prog W = .ok (.enter 197 args) W := fun args W => by simp [go_sem]
set_option maxHeartbeats 400000 in
theorem place_17 : ∀ (W : World) (b : Nat), True → Calls Tryz.prog 197 (#[.pointer (some ⟨b, 0, none⟩)] ++ #[]) W fun e W' => e = .returned (.pointer (some ⟨b, 24, none⟩)) ∧ ∃ nq, W' = W.drewN nq := by
  intro w b _
  simp only [Array.append_empty]
  go_enter Tryz.func197, Tryz.ntmps197
  go_wp2
  go_ret
  exact ⟨rfl, 0, rfl⟩
set_option maxHeartbeats 1000000 in
theorem row_18 (w : World) : Calls Tryz.prog 139 #[.int .i64 18] w fun e w' =>
    ∃ p, e = .returned (rowV ⟨#[116, 112, 46, 115, 114, 99]⟩ 16 4 (.func (Fn.func 226) #[] #[.pointer (some ⟨p, 0, none⟩)]) (.func (Fn.func 227) #[] #[.pointer (some ⟨p, 0, none⟩)])) ∧ w'.cell? ⟨p, 0, none⟩ = some (.func (Fn.func 197) #[] #[]) ∧ Below w.heap.size w w' := by
  go_enter Tryz.func139, Tryz.ntmps139
  go_wp2_with fail
  refine (number_i64 ⟨#[116, 112, 46, 115, 114, 99]⟩ 16 4 _ _ _).mono ?_
  rintro e w1 ⟨rfl, rfl⟩
  unfold rowV
  go_wp2
  exact bodyPost_ret (results_cell_row (p := 2) (ty := 152) rfl _ _ w.heap.size 152 _ (0, 0) _ rfl (three_first _ _ _ _) Tryz.underlying152 rfl (by kernel_rfl)) rfl ⟨w.heap.size + 1, rfl, by simp [go_sem], below3 _ _ _ _⟩

theorem callE_18 : ∀ args W, (callFunc 198 args).run Tryz.prog W = .ok (.enter 198 args) W := fun args W => by simp [go_sem]
set_option maxHeartbeats 400000 in
theorem place_18 : ∀ (W : World) (b : Nat), True → Calls Tryz.prog 198 (#[.pointer (some ⟨b, 0, none⟩)] ++ #[]) W fun e W' => e = .returned (.pointer (some ⟨b, 25, none⟩)) ∧ ∃ nq, W' = W.drewN nq := by
  intro w b _
  simp only [Array.append_empty]
  go_enter Tryz.func198, Tryz.ntmps198
  go_wp2
  go_ret
  exact ⟨rfl, 0, rfl⟩
set_option maxHeartbeats 1000000 in
theorem row_19 (w : World) : Calls Tryz.prog 139 #[.int .i64 19] w fun e w' =>
    ∃ p, e = .returned (rowV ⟨#[116, 112, 46, 100, 115, 116]⟩ 16 4 (.func (Fn.func 226) #[] #[.pointer (some ⟨p, 0, none⟩)]) (.func (Fn.func 227) #[] #[.pointer (some ⟨p, 0, none⟩)])) ∧ w'.cell? ⟨p, 0, none⟩ = some (.func (Fn.func 198) #[] #[]) ∧ Below w.heap.size w w' := by
  go_enter Tryz.func139, Tryz.ntmps139
  go_wp2_with fail
  refine (number_i64 ⟨#[116, 112, 46, 100, 115, 116]⟩ 16 4 _ _ _).mono ?_
  rintro e w1 ⟨rfl, rfl⟩
  unfold rowV
  go_wp2
  exact bodyPost_ret (results_cell_row (p := 2) (ty := 152) rfl _ _ w.heap.size 152 _ (0, 0) _ rfl (three_first _ _ _ _) Tryz.underlying152 rfl (by kernel_rfl)) rfl ⟨w.heap.size + 1, rfl, by simp [go_sem], below3 _ _ _ _⟩

theorem callE_19 : ∀ args W, (callFunc 199 args).run Tryz.prog W = .ok (.enter 199 args) W := fun args W => by simp [go_sem]
set_option maxHeartbeats 400000 in
theorem place_19 : ∀ (W : World) (b : Nat), True → Calls Tryz.prog 199 (#[.pointer (some ⟨b, 0, none⟩)] ++ #[]) W fun e W' => e = .returned (.pointer (some ⟨b, 29, none⟩)) ∧ ∃ nq, W' = W.drewN nq := by
  intro w b _
  simp only [Array.append_empty]
  go_enter Tryz.func199, Tryz.ntmps199
  go_wp2
  go_ret
  exact ⟨rfl, 0, rfl⟩
set_option maxHeartbeats 1000000 in
theorem row_20 (w : World) : Calls Tryz.prog 139 #[.int .i64 20] w fun e w' =>
    ∃ p, e = .returned (rowV ⟨#[116, 99, 112, 46, 102, 108, 97, 103, 115]⟩ 12 5 (.func (Fn.func 226) #[] #[.pointer (some ⟨p, 0, none⟩)]) (.func (Fn.func 227) #[] #[.pointer (some ⟨p, 0, none⟩)])) ∧ w'.cell? ⟨p, 0, none⟩ = some (.func (Fn.func 199) #[] #[]) ∧ Below w.heap.size w w' := by
  go_enter Tryz.func139, Tryz.ntmps139
  go_wp2_with fail
  refine (number_i64 ⟨#[116, 99, 112, 46, 102, 108, 97, 103, 115]⟩ 12 5 _ _ _).mono ?_
  rintro e w1 ⟨rfl, rfl⟩
  unfold rowV
  go_wp2
  exact bodyPost_ret (results_cell_row (p := 2) (ty := 152) rfl _ _ w.heap.size 152 _ (0, 0) _ rfl (three_first _ _ _ _) Tryz.underlying152 rfl (by kernel_rfl)) rfl ⟨w.heap.size + 1, rfl, by simp [go_sem], below3 _ _ _ _⟩

theorem callE_20 : ∀ args W, (callFunc 200 args).run Tryz.prog W = .ok (.enter 200 args) W := fun args W => by simp [go_sem]
set_option maxHeartbeats 400000 in
theorem place_20 : ∀ (W : World) (b : Nat), True → Calls Tryz.prog 200 (#[.pointer (some ⟨b, 0, none⟩)] ++ #[]) W fun e W' => e = .returned (.pointer (some ⟨b, 36, none⟩)) ∧ ∃ nq, W' = W.drewN nq := by
  intro w b _
  simp only [Array.append_empty]
  go_enter Tryz.func200, Tryz.ntmps200
  go_wp2
  go_ret
  exact ⟨rfl, 0, rfl⟩
set_option maxHeartbeats 1000000 in
theorem row_21 (w : World) : Calls Tryz.prog 139 #[.int .i64 21] w fun e w' =>
    ∃ p, e = .returned (rowV ⟨#[99, 116, 46, 115, 116, 97, 116, 101]⟩ 8 0 (.func (Fn.func 226) #[] #[.pointer (some ⟨p, 0, none⟩)]) (.func (Fn.func 227) #[] #[.pointer (some ⟨p, 0, none⟩)])) ∧ w'.cell? ⟨p, 0, none⟩ = some (.func (Fn.func 200) #[] #[]) ∧ Below w.heap.size w w' := by
  go_enter Tryz.func139, Tryz.ntmps139
  go_wp2_with fail
  refine (number_i64 ⟨#[99, 116, 46, 115, 116, 97, 116, 101]⟩ 8 0 _ _ _).mono ?_
  rintro e w1 ⟨rfl, rfl⟩
  unfold rowV
  go_wp2
  exact bodyPost_ret (results_cell_row (p := 2) (ty := 152) rfl _ _ w.heap.size 152 _ (0, 0) _ rfl (three_first _ _ _ _) Tryz.underlying152 rfl (by kernel_rfl)) rfl ⟨w.heap.size + 1, rfl, by simp [go_sem], below3 _ _ _ _⟩

theorem callE_21 : ∀ args W, (callFunc 201 args).run Tryz.prog W = .ok (.enter 201 args) W := fun args W => by simp [go_sem]
set_option maxHeartbeats 400000 in
theorem place_21 : ∀ (W : World) (b : Nat), True → Calls Tryz.prog 201 (#[.pointer (some ⟨b, 0, none⟩)] ++ #[]) W fun e W' => e = .returned (.pointer (some ⟨b, 37, none⟩)) ∧ ∃ nq, W' = W.drewN nq := by
  intro w b _
  simp only [Array.append_empty]
  go_enter Tryz.func201, Tryz.ntmps201
  go_wp2
  go_ret
  exact ⟨rfl, 0, rfl⟩
set_option maxHeartbeats 1000000 in
theorem row_22 (w : World) : Calls Tryz.prog 139 #[.int .i64 22] w fun e w' =>
    ∃ p, e = .returned (rowV ⟨#[100, 97, 116, 97, 112, 97, 116, 104]⟩ 24 0 (.func (Fn.func 226) #[] #[.pointer (some ⟨p, 0, none⟩)]) (.func (Fn.func 227) #[] #[.pointer (some ⟨p, 0, none⟩)])) ∧ w'.cell? ⟨p, 0, none⟩ = some (.func (Fn.func 201) #[] #[]) ∧ Below w.heap.size w w' := by
  go_enter Tryz.func139, Tryz.ntmps139
  go_wp2_with fail
  refine (number_i64 ⟨#[100, 97, 116, 97, 112, 97, 116, 104]⟩ 24 0 _ _ _).mono ?_
  rintro e w1 ⟨rfl, rfl⟩
  unfold rowV
  go_wp2
  exact bodyPost_ret (results_cell_row (p := 2) (ty := 152) rfl _ _ w.heap.size 152 _ (0, 0) _ rfl (three_first _ _ _ _) Tryz.underlying152 rfl (by kernel_rfl)) rfl ⟨w.heap.size + 1, rfl, by simp [go_sem], below3 _ _ _ _⟩

theorem callE_22 : ∀ args W, (callFunc 202 args).run Tryz.prog W = .ok (.enter 202 args) W := fun args W => by simp [go_sem]
set_option maxHeartbeats 400000 in
theorem place_22 : ∀ (W : World) (b : Nat), True → Calls Tryz.prog 202 (#[.pointer (some ⟨b, 0, none⟩)] ++ #[]) W fun e W' => e = .returned (.pointer (some ⟨b, 38, none⟩)) ∧ ∃ nq, W' = W.drewN nq := by
  intro w b _
  simp only [Array.append_empty]
  go_enter Tryz.func202, Tryz.ntmps202
  go_wp2
  go_ret
  exact ⟨rfl, 0, rfl⟩
set_option maxHeartbeats 1000000 in
theorem row_23 (w : World) : Calls Tryz.prog 139 #[.int .i64 23] w fun e w' =>
    ∃ p, e = .returned (rowV ⟨#[105, 110, 112, 111, 114, 116]⟩ 16 0 (.func (Fn.func 226) #[] #[.pointer (some ⟨p, 0, none⟩)]) (.func (Fn.func 227) #[] #[.pointer (some ⟨p, 0, none⟩)])) ∧ w'.cell? ⟨p, 0, none⟩ = some (.func (Fn.func 202) #[] #[]) ∧ Below w.heap.size w w' := by
  go_enter Tryz.func139, Tryz.ntmps139
  go_wp2_with fail
  refine (number_i64 ⟨#[105, 110, 112, 111, 114, 116]⟩ 16 0 _ _ _).mono ?_
  rintro e w1 ⟨rfl, rfl⟩
  unfold rowV
  go_wp2
  exact bodyPost_ret (results_cell_row (p := 2) (ty := 152) rfl _ _ w.heap.size 152 _ (0, 0) _ rfl (three_first _ _ _ _) Tryz.underlying152 rfl (by kernel_rfl)) rfl ⟨w.heap.size + 1, rfl, by simp [go_sem], below3 _ _ _ _⟩

theorem callE_23 : ∀ args W, (callFunc 203 args).run Tryz.prog W = .ok (.enter 203 args) W := fun args W => by simp [go_sem]
set_option maxHeartbeats 400000 in
theorem place_23 : ∀ (W : World) (b : Nat), True → Calls Tryz.prog 203 (#[.pointer (some ⟨b, 0, none⟩)] ++ #[]) W fun e W' => e = .returned (.pointer (some ⟨b, 39, none⟩)) ∧ ∃ nq, W' = W.drewN nq := by
  intro w b _
  simp only [Array.append_empty]
  go_enter Tryz.func203, Tryz.ntmps203
  go_wp2
  go_ret
  exact ⟨rfl, 0, rfl⟩
set_option maxHeartbeats 1000000 in
theorem row_24 (w : World) : Calls Tryz.prog 139 #[.int .i64 24] w fun e w' =>
    ∃ p, e = .returned (rowV ⟨#[111, 117, 116, 112, 111, 114, 116]⟩ 16 0 (.func (Fn.func 226) #[] #[.pointer (some ⟨p, 0, none⟩)]) (.func (Fn.func 227) #[] #[.pointer (some ⟨p, 0, none⟩)])) ∧ w'.cell? ⟨p, 0, none⟩ = some (.func (Fn.func 203) #[] #[]) ∧ Below w.heap.size w w' := by
  go_enter Tryz.func139, Tryz.ntmps139
  go_wp2_with fail
  refine (number_i64 ⟨#[111, 117, 116, 112, 111, 114, 116]⟩ 16 0 _ _ _).mono ?_
  rintro e w1 ⟨rfl, rfl⟩
  unfold rowV
  go_wp2
  exact bodyPost_ret (results_cell_row (p := 2) (ty := 152) rfl _ _ w.heap.size 152 _ (0, 0) _ rfl (three_first _ _ _ _) Tryz.underlying152 rfl (by kernel_rfl)) rfl ⟨w.heap.size + 1, rfl, by simp [go_sem], below3 _ _ _ _⟩
end Go.Proofs.YtikbjckcnidimaaGreatDoor
