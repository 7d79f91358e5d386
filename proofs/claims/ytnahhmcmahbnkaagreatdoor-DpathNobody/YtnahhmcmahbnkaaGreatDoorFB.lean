/- The rows of all fields, by number. No condition. -/
import Derived.Test.YtnahhmcmahbnkaaGreatDoorFA
namespace Go.Proofs.YtnahhmcmahbnkaaGreatDoor
open Go.RowKit

theorem three_first (w : World) (A B C : Obj) : (((w.alloc A).alloc B).alloc C).heap[w.heap.size]? = some A := (heap_alloc_old _ _ (by simp; omega)).trans (two_first _ _ _)
theorem four_first (w : World) (A B C D : Obj) : ((((w.alloc A).alloc B).alloc C).alloc D).heap[w.heap.size]? = some A := (heap_alloc_old _ _ (by simp; omega)).trans (three_first _ _ _ _)
theorem below3 (w : World) (A B C : Obj) : Below w.heap.size w (((w.alloc A).alloc B).alloc C) := (below2 w A B).alloc (by simp; omega) C
theorem below4 (w : World) (A B C D : Obj) : Below w.heap.size w ((((w.alloc A).alloc B).alloc C).alloc D) := (below3 w A B C).alloc (by simp; omega) D

theorem callE_1 : ∀ args W, (callFunc 157 args).run Tryz.prog W = .ok (.enter 157 args) W := fun args W => by simp [go_sem]
set_option maxHeartbeats 400000 in
theorem place_1 : ∀ (W : World) (b : Nat), True → Calls Tryz.prog 157 (#[.pointer (some ⟨b, 0, none⟩)] ++ #[]) W fun e W' => e = .returned (.pointer (some ⟨b, 0, none⟩)) ∧ ∃ nq, W' = W.drewN nq := by
  intro w b _
  simp only [Array.append_empty]
  go_enter Tryz.func157, Tryz.ntmps157
  go_wp2
  go_ret
  exact ⟨rfl, 0, rfl⟩
set_option maxHeartbeats 1000000 in
theorem row_1 (w : World) : Calls Tryz.prog 103 #[.int .i64 1] w fun e w' =>
    ∃ p, e = .returned (rowV ⟨#[101, 116, 104, 46, 100, 115, 116]⟩ 48 0 (.func (Fn.func 209) #[] #[.pointer (some ⟨p, 0, none⟩)]) (.func (Fn.func 210) #[] #[.pointer (some ⟨p, 0, none⟩)])) ∧ w'.cell? ⟨p, 0, none⟩ = some (.func (Fn.func 157) #[] #[]) ∧ Below w.heap.size w w' := by
  go_enter Tryz.func103, Tryz.ntmps103
  go_wp2_with fail
  refine (number_u64 ⟨#[101, 116, 104, 46, 100, 115, 116]⟩ 48 0 _ _ _).mono ?_
  rintro e w1 ⟨rfl, rfl⟩
  unfold rowV
  go_wp2
  exact bodyPost_ret (results_cell_row (p := 2) (ty := 215) rfl _ _ w.heap.size 215 _ (0, 0) _ rfl (three_first _ _ _ _) Tryz.underlying215 rfl (by kernel_rfl)) rfl ⟨w.heap.size + 1, rfl, by simp [go_sem], below3 _ _ _ _⟩

theorem callE_2 : ∀ args W, (callFunc 158 args).run Tryz.prog W = .ok (.enter 158 args) W := fun args W => by simp [go_sem]
set_option maxHeartbeats 400000 in
theorem place_2 : ∀ (W : World) (b : Nat), True → Calls Tryz.prog 158 (#[.pointer (some ⟨b, 0, none⟩)] ++ #[]) W fun e W' => e = .returned (.pointer (some ⟨b, 1, none⟩)) ∧ ∃ nq, W' = W.drewN nq := by
  intro w b _
  simp only [Array.append_empty]
  go_enter Tryz.func158, Tryz.ntmps158
  go_wp2
  go_ret
  exact ⟨rfl, 0, rfl⟩
set_option maxHeartbeats 1000000 in
theorem row_2 (w : World) : Calls Tryz.prog 103 #[.int .i64 2] w fun e w' =>
    ∃ p, e = .returned (rowV ⟨#[101, 116, 104, 46, 115, 114, 99]⟩ 48 0 (.func (Fn.func 209) #[] #[.pointer (some ⟨p, 0, none⟩)]) (.func (Fn.func 210) #[] #[.pointer (some ⟨p, 0, none⟩)])) ∧ w'.cell? ⟨p, 0, none⟩ = some (.func (Fn.func 158) #[] #[]) ∧ Below w.heap.size w w' := by
  go_enter Tryz.func103, Tryz.ntmps103
  go_wp2_with fail
  refine (number_u64 ⟨#[101, 116, 104, 46, 115, 114, 99]⟩ 48 0 _ _ _).mono ?_
  rintro e w1 ⟨rfl, rfl⟩
  unfold rowV
  go_wp2
  exact bodyPost_ret (results_cell_row (p := 2) (ty := 215) rfl _ _ w.heap.size 215 _ (0, 0) _ rfl (three_first _ _ _ _) Tryz.underlying215 rfl (by kernel_rfl)) rfl ⟨w.heap.size + 1, rfl, by simp [go_sem], below3 _ _ _ _⟩

theorem callE_3 : ∀ args W, (callFunc 160 args).run Tryz.prog W = .ok (.enter 160 args) W := fun args W => by simp [go_sem]
set_option maxHeartbeats 400000 in
theorem place_3 : ∀ (W : World) (b : Nat), True → Calls Tryz.prog 160 (#[.pointer (some ⟨b, 0, none⟩)] ++ #[]) W fun e W' => e = .returned (.pointer (some ⟨b, 4, none⟩)) ∧ ∃ nq, W' = W.drewN nq := by
  intro w b _
  simp only [Array.append_empty]
  go_enter Tryz.func160, Tryz.ntmps160
  go_wp2
  go_ret
  exact ⟨rfl, 0, rfl⟩
set_option maxHeartbeats 1000000 in
theorem row_3 (w : World) : Calls Tryz.prog 103 #[.int .i64 3] w fun e w' =>
    ∃ p, e = .returned (rowV ⟨#[101, 116, 104, 46, 116, 121, 112, 101]⟩ 16 0 (.func (Fn.func 211) #[] #[.pointer (some ⟨p, 0, none⟩)]) (.func (Fn.func 212) #[] #[.pointer (some ⟨p, 0, none⟩)])) ∧ w'.cell? ⟨p, 0, none⟩ = some (.func (Fn.func 160) #[] #[]) ∧ Below w.heap.size w w' := by
  go_enter Tryz.func103, Tryz.ntmps103
  go_wp2_with fail
  refine (number_i64 ⟨#[101, 116, 104, 46, 116, 121, 112, 101]⟩ 16 0 _ _ _).mono ?_
  rintro e w1 ⟨rfl, rfl⟩
  unfold rowV
  go_wp2
  exact bodyPost_ret (results_cell_row (p := 2) (ty := 215) rfl _ _ w.heap.size 215 _ (0, 0) _ rfl (three_first _ _ _ _) Tryz.underlying215 rfl (by kernel_rfl)) rfl ⟨w.heap.size + 1, rfl, by simp [go_sem], below3 _ _ _ _⟩

theorem callE_4 : ∀ args W, (callFunc 163 args).run Tryz.prog W = .ok (.enter 163 args) W := fun args W => by simp [go_sem]
set_option maxHeartbeats 400000 in
theorem place_4 : ∀ (W : World) (b : Nat), True → Calls Tryz.prog 163 (#[.pointer (some ⟨b, 0, none⟩)] ++ #[]) W fun e W' => e = .returned (.pointer (some ⟨b, 6, none⟩)) ∧ ∃ nq, W' = W.drewN nq := by
  intro w b _
  simp only [Array.append_empty]
  go_enter Tryz.func163, Tryz.ntmps163
  go_wp2
  go_ret
  exact ⟨rfl, 0, rfl⟩
set_option maxHeartbeats 1000000 in
theorem row_5 (w : World) : Calls Tryz.prog 103 #[.int .i64 5] w fun e w' =>
    ∃ p, e = .returned (rowV ⟨#[97, 114, 112, 46, 111, 112]⟩ 16 1 (.func (Fn.func 211) #[] #[.pointer (some ⟨p, 0, none⟩)]) (.func (Fn.func 212) #[] #[.pointer (some ⟨p, 0, none⟩)])) ∧ w'.cell? ⟨p, 0, none⟩ = some (.func (Fn.func 163) #[] #[]) ∧ Below w.heap.size w w' := by
  go_enter Tryz.func103, Tryz.ntmps103
  go_wp2_with fail
  refine (number_i64 ⟨#[97, 114, 112, 46, 111, 112]⟩ 16 1 _ _ _).mono ?_
  rintro e w1 ⟨rfl, rfl⟩
  unfold rowV
  go_wp2
  exact bodyPost_ret (results_cell_row (p := 2) (ty := 215) rfl _ _ w.heap.size 215 _ (0, 0) _ rfl (three_first _ _ _ _) Tryz.underlying215 rfl (by kernel_rfl)) rfl ⟨w.heap.size + 1, rfl, by simp [go_sem], below3 _ _ _ _⟩

theorem callE_5 : ∀ args W, (callFunc 164 args).run Tryz.prog W = .ok (.enter 164 args) W := fun args W => by simp [go_sem]
set_option maxHeartbeats 400000 in
theorem place_5 : ∀ (W : World) (b : Nat), True → Calls Tryz.prog 164 (#[.pointer (some ⟨b, 0, none⟩)] ++ #[]) W fun e W' => e = .returned (.pointer (some ⟨b, 7, none⟩)) ∧ ∃ nq, W' = W.drewN nq := by
  intro w b _
  simp only [Array.append_empty]
  go_enter Tryz.func164, Tryz.ntmps164
  go_wp2
  go_ret
  exact ⟨rfl, 0, rfl⟩
set_option maxHeartbeats 1000000 in
theorem row_6 (w : World) : Calls Tryz.prog 103 #[.int .i64 6] w fun e w' =>
    ∃ p, e = .returned (rowV ⟨#[97, 114, 112, 46, 115, 104, 97]⟩ 48 1 (.func (Fn.func 209) #[] #[.pointer (some ⟨p, 0, none⟩)]) (.func (Fn.func 210) #[] #[.pointer (some ⟨p, 0, none⟩)])) ∧ w'.cell? ⟨p, 0, none⟩ = some (.func (Fn.func 164) #[] #[]) ∧ Below w.heap.size w w' := by
  go_enter Tryz.func103, Tryz.ntmps103
  go_wp2_with fail
  refine (number_u64 ⟨#[97, 114, 112, 46, 115, 104, 97]⟩ 48 1 _ _ _).mono ?_
  rintro e w1 ⟨rfl, rfl⟩
  unfold rowV
  go_wp2
  exact bodyPost_ret (results_cell_row (p := 2) (ty := 215) rfl _ _ w.heap.size 215 _ (0, 0) _ rfl (three_first _ _ _ _) Tryz.underlying215 rfl (by kernel_rfl)) rfl ⟨w.heap.size + 1, rfl, by simp [go_sem], below3 _ _ _ _⟩

theorem callE_6 : ∀ args W, (callFunc 166 args).run Tryz.prog W = .ok (.enter 166 args) W := fun args W => by simp [go_sem]
set_option maxHeartbeats 400000 in
theorem place_6 : ∀ (W : World) (b : Nat), True → Calls Tryz.prog 166 (#[.pointer (some ⟨b, 0, none⟩)] ++ #[]) W fun e W' => e = .returned (.pointer (some ⟨b, 8, none⟩)) ∧ ∃ nq, W' = W.drewN nq := by
  intro w b _
  simp only [Array.append_empty]
  go_enter Tryz.func166, Tryz.ntmps166
  go_wp2
  go_ret
  exact ⟨rfl, 0, rfl⟩
set_option maxHeartbeats 1000000 in
theorem row_7 (w : World) : Calls Tryz.prog 103 #[.int .i64 7] w fun e w' =>
    ∃ p, e = .returned (rowV ⟨#[97, 114, 112, 46, 115, 112, 97]⟩ 32 1 (.func (Fn.func 213) #[] #[.pointer (some ⟨p, 0, none⟩)]) (.func (Fn.func 214) #[] #[.pointer (some ⟨p, 0, none⟩)])) ∧ w'.cell? ⟨p, 0, none⟩ = some (.func (Fn.func 166) #[] #[]) ∧ Below w.heap.size w w' := by
  go_enter Tryz.func103, Tryz.ntmps103
  go_wp2_with fail
  refine (number_u32 ⟨#[97, 114, 112, 46, 115, 112, 97]⟩ 32 1 _ _ _).mono ?_
  rintro e w1 ⟨rfl, rfl⟩
  unfold rowV
  go_wp2
  exact bodyPost_ret (results_cell_row (p := 2) (ty := 215) rfl _ _ w.heap.size 215 _ (0, 0) _ rfl (three_first _ _ _ _) Tryz.underlying215 rfl (by kernel_rfl)) rfl ⟨w.heap.size + 1, rfl, by simp [go_sem], below3 _ _ _ _⟩

theorem callE_7 : ∀ args W, (callFunc 167 args).run Tryz.prog W = .ok (.enter 167 args) W := fun args W => by simp [go_sem]
set_option maxHeartbeats 400000 in
theorem place_7 : ∀ (W : World) (b : Nat), True → Calls Tryz.prog 167 (#[.pointer (some ⟨b, 0, none⟩)] ++ #[]) W fun e W' => e = .returned (.pointer (some ⟨b, 9, none⟩)) ∧ ∃ nq, W' = W.drewN nq := by
  intro w b _
  simp only [Array.append_empty]
  go_enter Tryz.func167, Tryz.ntmps167
  go_wp2
  go_ret
  exact ⟨rfl, 0, rfl⟩
set_option maxHeartbeats 1000000 in
theorem row_8 (w : World) : Calls Tryz.prog 103 #[.int .i64 8] w fun e w' =>
    ∃ p, e = .returned (rowV ⟨#[97, 114, 112, 46, 116, 104, 97]⟩ 48 1 (.func (Fn.func 209) #[] #[.pointer (some ⟨p, 0, none⟩)]) (.func (Fn.func 210) #[] #[.pointer (some ⟨p, 0, none⟩)])) ∧ w'.cell? ⟨p, 0, none⟩ = some (.func (Fn.func 167) #[] #[]) ∧ Below w.heap.size w w' := by
  go_enter Tryz.func103, Tryz.ntmps103
  go_wp2_with fail
  refine (number_u64 ⟨#[97, 114, 112, 46, 116, 104, 97]⟩ 48 1 _ _ _).mono ?_
  rintro e w1 ⟨rfl, rfl⟩
  unfold rowV
  go_wp2
  exact bodyPost_ret (results_cell_row (p := 2) (ty := 215) rfl _ _ w.heap.size 215 _ (0, 0) _ rfl (three_first _ _ _ _) Tryz.underlying215 rfl (by kernel_rfl)) rfl ⟨w.heap.size + 1, rfl, by simp [go_sem], below3 _ _ _ _⟩

theorem callE_8 : ∀ args W, (callFunc 168 args).run Tryz.prog W = .ok (.enter 168 args) W := fun args W => by simp [go_sem]
set_option maxHeartbeats 400000 in
theorem place_8 : ∀ (W : World) (b : Nat), True → Calls Tryz.prog 168 (#[.pointer (some ⟨b, 0, none⟩)] ++ #[]) W fun e W' => e = .returned (.pointer (some ⟨b, 10, none⟩)) ∧ ∃ nq, W' = W.drewN nq := by
  intro w b _
  simp only [Array.append_empty]
  go_enter Tryz.func168, Tryz.ntmps168
  go_wp2
  go_ret
  exact ⟨rfl, 0, rfl⟩
set_option maxHeartbeats 1000000 in
theorem row_9 (w : World) : Calls Tryz.prog 103 #[.int .i64 9] w fun e w' =>
    ∃ p, e = .returned (rowV ⟨#[97, 114, 112, 46, 116, 112, 97]⟩ 32 1 (.func (Fn.func 213) #[] #[.pointer (some ⟨p, 0, none⟩)]) (.func (Fn.func 214) #[] #[.pointer (some ⟨p, 0, none⟩)])) ∧ w'.cell? ⟨p, 0, none⟩ = some (.func (Fn.func 168) #[] #[]) ∧ Below w.heap.size w w' := by
  go_enter Tryz.func103, Tryz.ntmps103
  go_wp2_with fail
  refine (number_u32 ⟨#[97, 114, 112, 46, 116, 112, 97]⟩ 32 1 _ _ _).mono ?_
  rintro e w1 ⟨rfl, rfl⟩
  unfold rowV
  go_wp2
  exact bodyPost_ret (results_cell_row (p := 2) (ty := 215) rfl _ _ w.heap.size 215 _ (0, 0) _ rfl (three_first _ _ _ _) Tryz.underlying215 rfl (by kernel_rfl)) rfl ⟨w.heap.size + 1, rfl, by simp [go_sem], below3 _ _ _ _⟩

theorem callE_9 : ∀ args W, (callFunc 169 args).run Tryz.prog W = .ok (.enter 169 args) W := fun args W => by simp [go_sem]
set_option maxHeartbeats 400000 in
theorem place_9 : ∀ (W : World) (b : Nat), True → Calls Tryz.prog 169 (#[.pointer (some ⟨b, 0, none⟩)] ++ #[]) W fun e W' => e = .returned (.pointer (some ⟨b, 17, none⟩)) ∧ ∃ nq, W' = W.drewN nq := by
  intro w b _
  simp only [Array.append_empty]
  go_enter Tryz.func169, Tryz.ntmps169
  go_wp2
  go_ret
  exact ⟨rfl, 0, rfl⟩
set_option maxHeartbeats 1000000 in
theorem row_10 (w : World) : Calls Tryz.prog 103 #[.int .i64 10] w fun e w' =>
    ∃ p, e = .returned (rowV ⟨#[105, 112, 52, 46, 115, 114, 99]⟩ 32 2 (.func (Fn.func 213) #[] #[.pointer (some ⟨p, 0, none⟩)]) (.func (Fn.func 214) #[] #[.pointer (some ⟨p, 0, none⟩)])) ∧ w'.cell? ⟨p, 0, none⟩ = some (.func (Fn.func 169) #[] #[]) ∧ Below w.heap.size w w' := by
  go_enter Tryz.func103, Tryz.ntmps103
  go_wp2_with fail
  refine (number_u32 ⟨#[105, 112, 52, 46, 115, 114, 99]⟩ 32 2 _ _ _).mono ?_
  rintro e w1 ⟨rfl, rfl⟩
  unfold rowV
  go_wp2
  exact bodyPost_ret (results_cell_row (p := 2) (ty := 215) rfl _ _ w.heap.size 215 _ (0, 0) _ rfl (three_first _ _ _ _) Tryz.underlying215 rfl (by kernel_rfl)) rfl ⟨w.heap.size + 1, rfl, by simp [go_sem], below3 _ _ _ _⟩

theorem callE_10 : ∀ args W, (callFunc 170 args).run Tryz.prog W = .ok (.enter 170 args) W := fun args W => by simp [go_sem]
set_option maxHeartbeats 400000 in
theorem place_10 : ∀ (W : World) (b : Nat), True → Calls Tryz.prog 170 (#[.pointer (some ⟨b, 0, none⟩)] ++ #[]) W fun e W' => e = .returned (.pointer (some ⟨b, 18, none⟩)) ∧ ∃ nq, W' = W.drewN nq := by
  intro w b _
  simp only [Array.append_empty]
  go_enter Tryz.func170, Tryz.ntmps170
  go_wp2
  go_ret
  exact ⟨rfl, 0, rfl⟩
set_option maxHeartbeats 1000000 in
theorem row_11 (w : World) : Calls Tryz.prog 103 #[.int .i64 11] w fun e w' =>
    ∃ p, e = .returned (rowV ⟨#[105, 112, 52, 46, 100, 115, 116]⟩ 32 2 (.func (Fn.func 213) #[] #[.pointer (some ⟨p, 0, none⟩)]) (.func (Fn.func 214) #[] #[.pointer (some ⟨p, 0, none⟩)])) ∧ w'.cell? ⟨p, 0, none⟩ = some (.func (Fn.func 170) #[] #[]) ∧ Below w.heap.size w w' := by
  go_enter Tryz.func103, Tryz.ntmps103
  go_wp2_with fail
  refine (number_u32 ⟨#[105, 112, 52, 46, 100, 115, 116]⟩ 32 2 _ _ _).mono ?_
  rintro e w1 ⟨rfl, rfl⟩
  unfold rowV
  go_wp2
  exact bodyPost_ret (results_cell_row (p := 2) (ty := 215) rfl _ _ w.heap.size 215 _ (0, 0) _ rfl (three_first _ _ _ _) Tryz.underlying215 rfl (by kernel_rfl)) rfl ⟨w.heap.size + 1, rfl, by simp [go_sem], below3 _ _ _ _⟩

theorem callE_11 : ∀ args W, (callFunc 171 args).run Tryz.prog W = .ok (.enter 171 args) W := fun args W => by simp [go_sem]
set_option maxHeartbeats 400000 in
theorem place_11 : ∀ (W : World) (b : Nat), True → Calls Tryz.prog 171 (#[.pointer (some ⟨b, 0, none⟩)] ++ #[]) W fun e W' => e = .returned (.pointer (some ⟨b, 16, none⟩)) ∧ ∃ nq, W' = W.drewN nq := by
  intro w b _
  simp only [Array.append_empty]
  go_enter Tryz.func171, Tryz.ntmps171
  go_wp2
  go_ret
  exact ⟨rfl, 0, rfl⟩
set_option maxHeartbeats 1000000 in
theorem row_12 (w : World) : Calls Tryz.prog 103 #[.int .i64 12] w fun e w' =>
    ∃ p, e = .returned (rowV ⟨#[105, 112, 46, 112, 114, 111, 116, 111]⟩ 8 2 (.func (Fn.func 211) #[] #[.pointer (some ⟨p, 0, none⟩)]) (.func (Fn.func 212) #[] #[.pointer (some ⟨p, 0, none⟩)])) ∧ w'.cell? ⟨p, 0, none⟩ = some (.func (Fn.func 171) #[] #[]) ∧ Below w.heap.size w w' := by
  go_enter Tryz.func103, Tryz.ntmps103
  go_wp2_with fail
  refine (number_i64 ⟨#[105, 112, 46, 112, 114, 111, 116, 111]⟩ 8 2 _ _ _).mono ?_
  rintro e w1 ⟨rfl, rfl⟩
  unfold rowV
  go_wp2
  exact bodyPost_ret (results_cell_row (p := 2) (ty := 215) rfl _ _ w.heap.size 215 _ (0, 0) _ rfl (three_first _ _ _ _) Tryz.underlying215 rfl (by kernel_rfl)) rfl ⟨w.heap.size + 1, rfl, by simp [go_sem], below3 _ _ _ _⟩

theorem callE_12 : ∀ args W, (callFunc 172 args).run Tryz.prog W = .ok (.enter 172 args) W := fun args W => by simp [go_sem]
set_option maxHeartbeats 400000 in
theorem place_12 : ∀ (W : World) (b : Nat), True → Calls Tryz.prog 172 (#[.pointer (some ⟨b, 0, none⟩)] ++ #[]) W fun e W' => e = .returned (.pointer (some ⟨b, 15, none⟩)) ∧ ∃ nq, W' = W.drewN nq := by
  intro w b _
  simp only [Array.append_empty]
  go_enter Tryz.func172, Tryz.ntmps172
  go_wp2
  go_ret
  exact ⟨rfl, 0, rfl⟩
set_option maxHeartbeats 1000000 in
theorem row_13 (w : World) : Calls Tryz.prog 103 #[.int .i64 13] w fun e w' =>
    ∃ p, e = .returned (rowV ⟨#[105, 112, 46, 116, 116, 108]⟩ 8 2 (.func (Fn.func 211) #[] #[.pointer (some ⟨p, 0, none⟩)]) (.func (Fn.func 212) #[] #[.pointer (some ⟨p, 0, none⟩)])) ∧ w'.cell? ⟨p, 0, none⟩ = some (.func (Fn.func 172) #[] #[]) ∧ Below w.heap.size w w' := by
  go_enter Tryz.func103, Tryz.ntmps103
  go_wp2_with fail
  refine (number_i64 ⟨#[105, 112, 46, 116, 116, 108]⟩ 8 2 _ _ _).mono ?_
  rintro e w1 ⟨rfl, rfl⟩
  unfold rowV
  go_wp2
  exact bodyPost_ret (results_cell_row (p := 2) (ty := 215) rfl _ _ w.heap.size 215 _ (0, 0) _ rfl (three_first _ _ _ _) Tryz.underlying215 rfl (by kernel_rfl)) rfl ⟨w.heap.size + 1, rfl, by simp [go_sem], below3 _ _ _ _⟩

theorem callE_13 : ∀ args W, (callFunc 173 args).run Tryz.prog W = .ok (.enter 173 args) W := fun args W => by simp [go_sem]
set_option maxHeartbeats 400000 in
theorem place_13 : ∀ (W : World) (b : Nat), True → Calls Tryz.prog 173 (#[.pointer (some ⟨b, 0, none⟩)] ++ #[]) W fun e W' => e = .returned (.pointer (some ⟨b, 12, none⟩)) ∧ ∃ nq, W' = W.drewN nq := by
  intro w b _
  simp only [Array.append_empty]
  go_enter Tryz.func173, Tryz.ntmps173
  go_wp2
  go_ret
  exact ⟨rfl, 0, rfl⟩
set_option maxHeartbeats 1000000 in
theorem row_14 (w : World) : Calls Tryz.prog 103 #[.int .i64 14] w fun e w' =>
    ∃ p, e = .returned (rowV ⟨#[105, 112, 46, 116, 111, 115]⟩ 8 2 (.func (Fn.func 211) #[] #[.pointer (some ⟨p, 0, none⟩)]) (.func (Fn.func 212) #[] #[.pointer (some ⟨p, 0, none⟩)])) ∧ w'.cell? ⟨p, 0, none⟩ = some (.func (Fn.func 173) #[] #[]) ∧ Below w.heap.size w w' := by
  go_enter Tryz.func103, Tryz.ntmps103
  go_wp2_with fail
  refine (number_i64 ⟨#[105, 112, 46, 116, 111, 115]⟩ 8 2 _ _ _).mono ?_
  rintro e w1 ⟨rfl, rfl⟩
  unfold rowV
  go_wp2
  exact bodyPost_ret (results_cell_row (p := 2) (ty := 215) rfl _ _ w.heap.size 215 _ (0, 0) _ rfl (three_first _ _ _ _) Tryz.underlying215 rfl (by kernel_rfl)) rfl ⟨w.heap.size + 1, rfl, by simp [go_sem], below3 _ _ _ _⟩

theorem callE_14 : ∀ args W, (callFunc 174 args).run Tryz.prog W = .ok (.enter 174 args) W := fun args W => by simp [go_sem]
set_option maxHeartbeats 400000 in
theorem place_14 : ∀ (W : World) (b : Nat), True → Calls Tryz.prog 174 (#[.pointer (some ⟨b, 0, none⟩)] ++ #[]) W fun e W' => e = .returned (.pointer (some ⟨b, 14, none⟩)) ∧ ∃ nq, W' = W.drewN nq := by
  intro w b _
  simp only [Array.append_empty]
  go_enter Tryz.func174, Tryz.ntmps174
  go_wp2
  go_ret
  exact ⟨rfl, 0, rfl⟩
set_option maxHeartbeats 1000000 in
theorem row_15 (w : World) : Calls Tryz.prog 103 #[.int .i64 15] w fun e w' =>
    ∃ p, e = .returned (rowV ⟨#[105, 112, 46, 102, 114, 97, 103]⟩ 16 2 (.func (Fn.func 211) #[] #[.pointer (some ⟨p, 0, none⟩)]) (.func (Fn.func 212) #[] #[.pointer (some ⟨p, 0, none⟩)])) ∧ w'.cell? ⟨p, 0, none⟩ = some (.func (Fn.func 174) #[] #[]) ∧ Below w.heap.size w w' := by
  go_enter Tryz.func103, Tryz.ntmps103
  go_wp2_with fail
  refine (number_i64 ⟨#[105, 112, 46, 102, 114, 97, 103]⟩ 16 2 _ _ _).mono ?_
  rintro e w1 ⟨rfl, rfl⟩
  unfold rowV
  go_wp2
  exact bodyPost_ret (results_cell_row (p := 2) (ty := 215) rfl _ _ w.heap.size 215 _ (0, 0) _ rfl (three_first _ _ _ _) Tryz.underlying215 rfl (by kernel_rfl)) rfl ⟨w.heap.size + 1, rfl, by simp [go_sem], below3 _ _ _ _⟩

theorem callE_15 : ∀ args W, (callFunc 175 args).run Tryz.prog W = .ok (.enter 175 args) W := fun args W => by simp [go_sem]
set_option maxHeartbeats 400000 in
theorem place_15 : ∀ (W : World) (b : Nat), True → Calls Tryz.prog 175 (#[.pointer (some ⟨b, 0, none⟩)] ++ #[]) W fun e W' => e = .returned (.pointer (some ⟨b, 21, none⟩)) ∧ ∃ nq, W' = W.drewN nq := by
  intro w b _
  simp only [Array.append_empty]
  go_enter Tryz.func175, Tryz.ntmps175
  go_wp2
  go_ret
  exact ⟨rfl, 0, rfl⟩
set_option maxHeartbeats 1000000 in
theorem row_16 (w : World) : Calls Tryz.prog 103 #[.int .i64 16] w fun e w' =>
    ∃ p, e = .returned (rowV ⟨#[105, 99, 109, 112, 46, 116, 121, 112, 101]⟩ 8 3 (.func (Fn.func 211) #[] #[.pointer (some ⟨p, 0, none⟩)]) (.func (Fn.func 212) #[] #[.pointer (some ⟨p, 0, none⟩)])) ∧ w'.cell? ⟨p, 0, none⟩ = some (.func (Fn.func 175) #[] #[]) ∧ Below w.heap.size w w' := by
  go_enter Tryz.func103, Tryz.ntmps103
  go_wp2_with fail
  refine (number_i64 ⟨#[105, 99, 109, 112, 46, 116, 121, 112, 101]⟩ 8 3 _ _ _).mono ?_
  rintro e w1 ⟨rfl, rfl⟩
  unfold rowV
  go_wp2
  exact bodyPost_ret (results_cell_row (p := 2) (ty := 215) rfl _ _ w.heap.size 215 _ (0, 0) _ rfl (three_first _ _ _ _) Tryz.underlying215 rfl (by kernel_rfl)) rfl ⟨w.heap.size + 1, rfl, by simp [go_sem], below3 _ _ _ _⟩

theorem callE_16 : ∀ args W, (callFunc 176 args).run Tryz.prog W = .ok (.enter 176 args) W := fun args W => by simp [go_sem]
set_option maxHeartbeats 400000 in
theorem place_16 : ∀ (W : World) (b : Nat), True → Calls Tryz.prog 176 (#[.pointer (some ⟨b, 0, none⟩)] ++ #[]) W fun e W' => e = .returned (.pointer (some ⟨b, 22, none⟩)) ∧ ∃ nq, W' = W.drewN nq := by
  intro w b _
  simp only [Array.append_empty]
  go_enter Tryz.func176, Tryz.ntmps176
  go_wp2
  go_ret
  exact ⟨rfl, 0, rfl⟩
set_option maxHeartbeats 1000000 in
theorem row_17 (w : World) : Calls Tryz.prog 103 #[.int .i64 17] w fun e w' =>
    ∃ p, e = .returned (rowV ⟨#[105, 99, 109, 112, 46, 99, 111, 100, 101]⟩ 8 3 (.func (Fn.func 211) #[] #[.pointer (some ⟨p, 0, none⟩)]) (.func (Fn.func 212) #[] #[.pointer (some ⟨p, 0, none⟩)])) ∧ w'.cell? ⟨p, 0, none⟩ = some (.func (Fn.func 176) #[] #[]) ∧ Below w.heap.size w w' := by
  go_enter Tryz.func103, Tryz.ntmps103
  go_wp2_with fail
  refine (number_i64 ⟨#[105, 99, 109, 112, 46, 99, 111, 100, 101]⟩ 8 3 _ _ _).mono ?_
  rintro e w1 ⟨rfl, rfl⟩
  unfold rowV
  go_wp2
  exact bodyPost_ret (results_cell_row (p := 2) (ty := 215) rfl _ _ w.heap.size 215 _ (0, 0) _ rfl (three_first _ _ _ _) Tryz.underlying215 rfl (by kernel_rfl)) rfl ⟨w.heap.size + 1, rfl, by simp [go_sem], below3 _ _ _ _⟩

theorem callE_17 : ∀ args W, (callFunc 177 args).run Tryz.prog W = .ok (.enter 177 args) W := fun args W => by simp [go_sem]
set_option maxHeartbeats 400000 in
theorem place_17 : ∀ (W : World) (b : Nat), True → Calls Tryz.prog 177 (#[.pointer (some ⟨b, 0, none⟩)] ++ #[]) W fun e W' => e = .returned (.pointer (some ⟨b, 24, none⟩)) ∧ ∃ nq, W' = W.drewN nq := by
  intro w b _
  simp only [Array.append_empty]
  go_enter Tryz.func177, Tryz.ntmps177
  go_wp2
  go_ret
  exact ⟨rfl, 0, rfl⟩
set_option maxHeartbeats 1000000 in
theorem row_18 (w : World) : Calls Tryz.prog 103 #[.int .i64 18] w fun e w' =>
    ∃ p, e = .returned (rowV ⟨#[116, 112, 46, 115, 114, 99]⟩ 16 4 (.func (Fn.func 211) #[] #[.pointer (some ⟨p, 0, none⟩)]) (.func (Fn.func 212) #[] #[.pointer (some ⟨p, 0, none⟩)])) ∧ w'.cell? ⟨p, 0, none⟩ = some (.func (Fn.func 177) #[] #[]) ∧ Below w.heap.size w w' := by
  go_enter Tryz.func103, Tryz.ntmps103
  go_wp2_with fail
  refine (number_i64 ⟨#[116, 112, 46, 115, 114, 99]⟩ 16 4 _ _ _).mono ?_
  rintro e w1 ⟨rfl, rfl⟩
  unfold rowV
  go_wp2
  exact bodyPost_ret (results_cell_row (p := 2) (ty := 215) rfl _ _ w.heap.size 215 _ (0, 0) _ rfl (three_first _ _ _ _) Tryz.underlying215 rfl (by kernel_rfl)) rfl ⟨w.heap.size + 1, rfl, by simp [go_sem], below3 _ _ _ _⟩

theorem callE_18 : ∀ args W, (callFunc 178 args).run Tryz.prog W = .ok (.enter 178 args) W := fun args W => by simp [go_sem]
set_option maxHeartbeats 400000 in
theorem place_18 : ∀ (W : World) (b : Nat), True → Calls Tryz.prog 178 (#[.pointer (some ⟨b, 0, none⟩)] ++ #[]) W fun e W' => e = .returned (.pointer (some ⟨b, 25, none⟩)) ∧ ∃ nq, W' = W.drewN nq := by
  intro w b _
  simp only [Array.append_empty]
  go_enter Tryz.func178, Tryz.ntmps178
  go_wp2
  go_ret
  exact ⟨rfl, 0, rfl⟩
set_option maxHeartbeats 1000000 in
theorem row_19 (w : World) : Calls Tryz.prog 103 #[.int .i64 19] w fun e w' =>
    ∃ p, e = .returned (rowV ⟨#[116, 112, 46, 100, 115, 116]⟩ 16 4 (.func (Fn.func 211) #[] #[.pointer (some ⟨p, 0, none⟩)]) (.func (Fn.func 212) #[] #[.pointer (some ⟨p, 0, none⟩)])) ∧ w'.cell? ⟨p, 0, none⟩ = some (.func (Fn.func 178) #[] #[]) ∧ Below w.heap.size w w' := by
  go_enter Tryz.func103, Tryz.ntmps103
  go_wp2_with fail
  refine (number_i64 ⟨#[116, 112, 46, 100, 115, 116]⟩ 16 4 _ _ _).mono ?_
  rintro e w1 ⟨rfl, rfl⟩
  unfold rowV
  go_wp2
  exact bodyPost_ret (results_cell_row (p := 2) (ty := 215) rfl _ _ w.heap.size 215 _ (0, 0) _ rfl (three_first _ _ _ _) Tryz.underlying215 rfl (by kernel_rfl)) rfl ⟨w.heap.size + 1, rfl, by simp [go_sem], below3 _ _ _ _⟩

theorem callE_19 : ∀ args W, (callFunc 179 args).run Tryz.prog W = .ok (.enter 179 args) W := fun args W => by simp [go_sem]
set_option maxHeartbeats 400000 in
theorem place_19 : ∀ (W : World) (b : Nat), True → Calls Tryz.prog 179 (#[.pointer (some ⟨b, 0, none⟩)] ++ #[]) W fun e W' => e = .returned (.pointer (some ⟨b, 29, none⟩)) ∧ ∃ nq, W' = W.drewN nq := by
  intro w b _
  simp only [Array.append_empty]
  go_enter Tryz.func179, Tryz.ntmps179
  go_wp2
  go_ret
  exact ⟨rfl, 0, rfl⟩
set_option maxHeartbeats 1000000 in
theorem row_20 (w : World) : Calls Tryz.prog 103 #[.int .i64 20] w fun e w' =>
    ∃ p, e = .returned (rowV ⟨#[116, 99, 112, 46, 102, 108, 97, 103, 115]⟩ 12 5 (.func (Fn.func 211) #[] #[.pointer (some ⟨p, 0, none⟩)]) (.func (Fn.func 212) #[] #[.pointer (some ⟨p, 0, none⟩)])) ∧ w'.cell? ⟨p, 0, none⟩ = some (.func (Fn.func 179) #[] #[]) ∧ Below w.heap.size w w' := by
  go_enter Tryz.func103, Tryz.ntmps103
  go_wp2_with fail
  refine (number_i64 ⟨#[116, 99, 112, 46, 102, 108, 97, 103, 115]⟩ 12 5 _ _ _).mono ?_
  rintro e w1 ⟨rfl, rfl⟩
  unfold rowV
  go_wp2
  exact bodyPost_ret (results_cell_row (p := 2) (ty := 215) rfl _ _ w.heap.size 215 _ (0, 0) _ rfl (three_first _ _ _ _) Tryz.underlying215 rfl (by kernel_rfl)) rfl ⟨w.heap.size + 1, rfl, by simp [go_sem], below3 _ _ _ _⟩

theorem callE_20 : ∀ args W, (callFunc 180 args).run Tryz.prog W = .ok (.enter 180 args) W := fun args W => by simp [go_sem]
set_option maxHeartbeats 400000 in
theorem place_20 : ∀ (W : World) (b : Nat), True → Calls Tryz.prog 180 (#[.pointer (some ⟨b, 0, none⟩)] ++ #[]) W fun e W' => e = .returned (.pointer (some ⟨b, 36, none⟩)) ∧ ∃ nq, W' = W.drewN nq := by
  intro w b _
  simp only [Array.append_empty]
  go_enter Tryz.func180, Tryz.ntmps180
  go_wp2
  go_ret
  exact ⟨rfl, 0, rfl⟩
set_option maxHeartbeats 1000000 in
theorem row_21 (w : World) : Calls Tryz.prog 103 #[.int .i64 21] w fun e w' =>
    ∃ p, e = .returned (rowV ⟨#[99, 116, 46, 115, 116, 97, 116, 101]⟩ 8 0 (.func (Fn.func 211) #[] #[.pointer (some ⟨p, 0, none⟩)]) (.func (Fn.func 212) #[] #[.pointer (some ⟨p, 0, none⟩)])) ∧ w'.cell? ⟨p, 0, none⟩ = some (.func (Fn.func 180) #[] #[]) ∧ Below w.heap.size w w' := by
  go_enter Tryz.func103, Tryz.ntmps103
  go_wp2_with fail
  refine (number_i64 ⟨#[99, 116, 46, 115, 116, 97, 116, 101]⟩ 8 0 _ _ _).mono ?_
  rintro e w1 ⟨rfl, rfl⟩
  unfold rowV
  go_wp2
  exact bodyPost_ret (results_cell_row (p := 2) (ty := 215) rfl _ _ w.heap.size 215 _ (0, 0) _ rfl (three_first _ _ _ _) Tryz.underlying215 rfl (by kernel_rfl)) rfl ⟨w.heap.size + 1, rfl, by simp [go_sem], below3 _ _ _ _⟩

theorem callE_21 : ∀ args W, (callFunc 181 args).run Tryz.prog W = .ok (.enter 181 args) W := fun args W => by simp [go_sem]
set_option maxHeartbeats 400000 in
theorem place_21 : ∀ (W : World) (b : Nat), True → Calls Tryz.prog 181 (#[.pointer (some ⟨b, 0, none⟩)] ++ #[]) W fun e W' => e = .returned (.pointer (some ⟨b, 37, none⟩)) ∧ ∃ nq, W' = W.drewN nq := by
  intro w b _
  simp only [Array.append_empty]
  go_enter Tryz.func181, Tryz.ntmps181
  go_wp2
  go_ret
  exact ⟨rfl, 0, rfl⟩
set_option maxHeartbeats 1000000 in
theorem row_22 (w : World) : Calls Tryz.prog 103 #[.int .i64 22] w fun e w' =>
    ∃ p, e = .returned (rowV ⟨#[100, 97, 116, 97, 112, 97, 116, 104]⟩ 24 0 (.func (Fn.func 211) #[] #[.pointer (some ⟨p, 0, none⟩)]) (.func (Fn.func 212) #[] #[.pointer (some ⟨p, 0, none⟩)])) ∧ w'.cell? ⟨p, 0, none⟩ = some (.func (Fn.func 181) #[] #[]) ∧ Below w.heap.size w w' := by
  go_enter Tryz.func103, Tryz.ntmps103
  go_wp2_with fail
  refine (number_i64 ⟨#[100, 97, 116, 97, 112, 97, 116, 104]⟩ 24 0 _ _ _).mono ?_
  rintro e w1 ⟨rfl, rfl⟩
  unfold rowV
  go_wp2
  exact bodyPost_ret (results_cell_row (p := 2) (ty := 215) rfl _ _ w.heap.size 215 _ (0, 0) _ rfl (three_first _ _ _ _) Tryz.underlying215 rfl (by kernel_rfl)) rfl ⟨w.heap.size + 1, rfl, by simp [go_sem], below3 _ _ _ _⟩

theorem callE_22 : ∀ args W, (callFunc 182 args).run Tryz.prog W = .ok (.enter 182 args) W := fun args W => by simp [go_sem]
set_option maxHeartbeats 400000 in
theorem place_22 : ∀ (W : World) (b : Nat), True → Calls Tryz.prog 182 (#[.pointer (some ⟨b, 0, none⟩)] ++ #[]) W fun e W' => e = .returned (.pointer (some ⟨b, 38, none⟩)) ∧ ∃ nq, W' = W.drewN nq := by
  intro w b _
  simp only [Array.append_empty]
  go_enter Tryz.func182, Tryz.ntmps182
  go_wp2
  go_ret
  exact ⟨rfl, 0, rfl⟩
set_option maxHeartbeats 1000000 in
theorem row_23 (w : World) : Calls Tryz.prog 103 #[.int .i64 23] w fun e w' =>
    ∃ p, e = .returned (rowV ⟨#[105, 110, 112, 111, 114, 116]⟩ 16 0 (.func (Fn.func 211) #[] #[.pointer (some ⟨p, 0, none⟩)]) (.func (Fn.func 212) #[] #[.pointer (some ⟨p, 0, none⟩)])) ∧ w'.cell? ⟨p, 0, none⟩ = some (.func (Fn.func 182) #[] #[]) ∧ Below w.heap.size w w' := by
  go_enter Tryz.func103, Tryz.ntmps103
  go_wp2_with fail
  refine (number_i64 ⟨#[105, 110, 112, 111, 114, 116]⟩ 16 0 _ _ _).mono ?_
  rintro e w1 ⟨rfl, rfl⟩
  unfold rowV
  go_wp2
  exact bodyPost_ret (results_cell_row (p := 2) (ty := 215) rfl _ _ w.heap.size 215 _ (0, 0) _ rfl (three_first _ _ _ _) Tryz.underlying215 rfl (by kernel_rfl)) rfl ⟨w.heap.size + 1, rfl, by simp [go_sem], below3 _ _ _ _⟩

theorem callE_23 : ∀ args W, (callFunc 183 args).run Tryz.prog W = .ok (.enter 183 args) W := fun args W => by simp [go_sem]
set_option maxHeartbeats 400000 in
theorem place_23 : ∀ (W : World) (b : Nat), True → Calls Tryz.prog 183 (#[.pointer (some ⟨b, 0, none⟩)] ++ #[]) W fun e W' => e = .returned (.pointer (some ⟨b, 39, none⟩)) ∧ ∃ nq, W' = W.drewN nq := by
  intro w b _
  simp only [Array.append_empty]
  go_enter Tryz.func183, Tryz.ntmps183
  go_wp2
  go_ret
  exact ⟨rfl, 0, rfl⟩
set_option maxHeartbeats 1000000 in
theorem row_24 (w : World) : Calls Tryz.prog 103 #[.int .i64 24] w fun e w' =>
    ∃ p, e = .returned (rowV ⟨#[111, 117, 116, 112, 111, 114, 116]⟩ 16 0 (.func (Fn.func 211) #[] #[.pointer (some ⟨p, 0, none⟩)]) (.func (Fn.func 212) #[] #[.pointer (some ⟨p, 0, none⟩)])) ∧ w'.cell? ⟨p, 0, none⟩ = some (.func (Fn.func 183) #[] #[]) ∧ Below w.heap.size w w' := by
  go_enter Tryz.func103, Tryz.ntmps103
  go_wp2_with fail
  refine (number_i64 ⟨#[111, 117, 116, 112, 111, 114, 116]⟩ 16 0 _ _ _).mono ?_
  rintro e w1 ⟨rfl, rfl⟩
  unfold rowV
  go_wp2
  exact bodyPost_ret (results_cell_row (p := 2) (ty := 215) rfl _ _ w.heap.size 215 _ (0, 0) _ rfl (three_first _ _ _ _) Tryz.underlying215 rfl (by kernel_rfl)) rfl ⟨w.heap.size + 1, rfl, by simp [go_sem], below3 _ _ _ _⟩
end Go.Proofs.YtnahhmcmahbnkaaGreatDoor
