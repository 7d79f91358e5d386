/- The rows of vlan.tag, of the registers and of no field. No condition. -/
import Derived.Test.YtijeakggeichcaaGreatDoorFB
namespace Go.Proofs.YtijeakggeichcaaGreatDoor
open Go.RowKit


set_option maxHeartbeats 400000 in
theorem small_0 (w : World) : Calls Tryz.prog 147 #[.int .i64 0] w fun e w' => e = .returned (.string ⟨#[48]⟩) ∧ w' = w := by
  go_enter Tryz.func147, Tryz.ntmps147
  go_wp2
  go_ret
  exact ⟨rfl, rfl⟩
set_option maxHeartbeats 400000 in
theorem fmt_0 (w : World) : Calls Tryz.prog 146 #[.int .i64 0, .int .i64 10] w fun e w' => e = .returned (.string ⟨#[48]⟩) ∧ w' = w := by
  go_enter Tryz.func146, Tryz.ntmps146
  go_wp2_with fail
  refine (small_0 _).mono ?_
  rintro e w1 ⟨rfl, rfl⟩
  go_wp2
  go_ret
  exact ⟨rfl, rfl⟩
set_option maxHeartbeats 400000 in
theorem itoai_0 (w : World) : Calls Tryz.prog 134 #[.int .i64 0] w fun e w' => e = .returned (.string ⟨#[48]⟩) ∧ w' = w := by
  go_enter Tryz.func134, Tryz.ntmps134
  go_wp2_with fail
  refine (fmt_0 _).mono ?_
  rintro e w1 ⟨rfl, rfl⟩
  go_wp2
  go_ret
  exact ⟨rfl, rfl⟩
set_option maxHeartbeats 400000 in
theorem itoa_0 (w : World) : Calls Tryz.prog 88 #[.int .i64 0] w fun e w' => e = .returned (.string ⟨#[48]⟩) ∧ w' = w := by
  go_enter Tryz.func88, Tryz.ntmps88
  go_wp2_with fail
  refine (itoai_0 _).mono ?_
  rintro e w1 ⟨rfl, rfl⟩
  go_wp2
  go_ret
  exact ⟨rfl, rfl⟩

set_option maxHeartbeats 400000 in
theorem small_1 (w : World) : Calls Tryz.prog 147 #[.int .i64 1] w fun e w' => e = .returned (.string ⟨#[49]⟩) ∧ w' = w := by
  go_enter Tryz.func147, Tryz.ntmps147
  go_wp2
  go_ret
  exact ⟨rfl, rfl⟩
set_option maxHeartbeats 400000 in
theorem fmt_1 (w : World) : Calls Tryz.prog 146 #[.int .i64 1, .int .i64 10] w fun e w' => e = .returned (.string ⟨#[49]⟩) ∧ w' = w := by
  go_enter Tryz.func146, Tryz.ntmps146
  go_wp2_with fail
  refine (small_1 _).mono ?_
  rintro e w1 ⟨rfl, rfl⟩
  go_wp2
  go_ret
  exact ⟨rfl, rfl⟩
set_option maxHeartbeats 400000 in
theorem itoai_1 (w : World) : Calls Tryz.prog 134 #[.int .i64 1] w fun e w' => e = .returned (.string ⟨#[49]⟩) ∧ w' = w := by
  go_enter Tryz.func134, Tryz.ntmps134
  go_wp2_with fail
  refine (fmt_1 _).mono ?_
  rintro e w1 ⟨rfl, rfl⟩
  go_wp2
  go_ret
  exact ⟨rfl, rfl⟩
set_option maxHeartbeats 400000 in
theorem itoa_1 (w : World) : Calls Tryz.prog 88 #[.int .i64 1] w fun e w' => e = .returned (.string ⟨#[49]⟩) ∧ w' = w := by
  go_enter Tryz.func88, Tryz.ntmps88
  go_wp2_with fail
  refine (itoai_1 _).mono ?_
  rintro e w1 ⟨rfl, rfl⟩
  go_wp2
  go_ret
  exact ⟨rfl, rfl⟩

set_option maxHeartbeats 400000 in
theorem small_2 (w : World) : Calls Tryz.prog 147 #[.int .i64 2] w fun e w' => e = .returned (.string ⟨#[50]⟩) ∧ w' = w := by
  go_enter Tryz.func147, Tryz.ntmps147
  go_wp2
  go_ret
  exact ⟨rfl, rfl⟩
set_option maxHeartbeats 400000 in
theorem fmt_2 (w : World) : Calls Tryz.prog 146 #[.int .i64 2, .int .i64 10] w fun e w' => e = .returned (.string ⟨#[50]⟩) ∧ w' = w := by
  go_enter Tryz.func146, Tryz.ntmps146
  go_wp2_with fail
  refine (small_2 _).mono ?_
  rintro e w1 ⟨rfl, rfl⟩
  go_wp2
  go_ret
  exact ⟨rfl, rfl⟩
set_option maxHeartbeats 400000 in
theorem itoai_2 (w : World) : Calls Tryz.prog 134 #[.int .i64 2] w fun e w' => e = .returned (.string ⟨#[50]⟩) ∧ w' = w := by
  go_enter Tryz.func134, Tryz.ntmps134
  go_wp2_with fail
  refine (fmt_2 _).mono ?_
  rintro e w1 ⟨rfl, rfl⟩
  go_wp2
  go_ret
  exact ⟨rfl, rfl⟩
set_option maxHeartbeats 400000 in
theorem itoa_2 (w : World) : Calls Tryz.prog 88 #[.int .i64 2] w fun e w' => e = .returned (.string ⟨#[50]⟩) ∧ w' = w := by
  go_enter Tryz.func88, Tryz.ntmps88
  go_wp2_with fail
  refine (itoai_2 _).mono ?_
  rintro e w1 ⟨rfl, rfl⟩
  go_wp2
  go_ret
  exact ⟨rfl, rfl⟩

set_option maxHeartbeats 400000 in
theorem small_3 (w : World) : Calls Tryz.prog 147 #[.int .i64 3] w fun e w' => e = .returned (.string ⟨#[51]⟩) ∧ w' = w := by
  go_enter Tryz.func147, Tryz.ntmps147
  go_wp2
  go_ret
  exact ⟨rfl, rfl⟩
set_option maxHeartbeats 400000 in
theorem fmt_3 (w : World) : Calls Tryz.prog 146 #[.int .i64 3, .int .i64 10] w fun e w' => e = .returned (.string ⟨#[51]⟩) ∧ w' = w := by
  go_enter Tryz.func146, Tryz.ntmps146
  go_wp2_with fail
  refine (small_3 _).mono ?_
  rintro e w1 ⟨rfl, rfl⟩
  go_wp2
  go_ret
  exact ⟨rfl, rfl⟩
set_option maxHeartbeats 400000 in
theorem itoai_3 (w : World) : Calls Tryz.prog 134 #[.int .i64 3] w fun e w' => e = .returned (.string ⟨#[51]⟩) ∧ w' = w := by
  go_enter Tryz.func134, Tryz.ntmps134
  go_wp2_with fail
  refine (fmt_3 _).mono ?_
  rintro e w1 ⟨rfl, rfl⟩
  go_wp2
  go_ret
  exact ⟨rfl, rfl⟩
set_option maxHeartbeats 400000 in
theorem itoa_3 (w : World) : Calls Tryz.prog 88 #[.int .i64 3] w fun e w' => e = .returned (.string ⟨#[51]⟩) ∧ w' = w := by
  go_enter Tryz.func88, Tryz.ntmps88
  go_wp2_with fail
  refine (itoai_3 _).mono ?_
  rintro e w1 ⟨rfl, rfl⟩
  go_wp2
  go_ret
  exact ⟨rfl, rfl⟩

theorem callE_24 : ∀ args W, (callFunc 119 args).run Tryz.prog W = .ok (.enter 119 args) W := fun args W => by simp [go_sem]

set_option maxHeartbeats 400000 in
theorem placeR_0 (q : Nat) : ∀ (W : World) (b : Nat), W.cell? ⟨q, 0, none⟩ = some (.int .i64 0) → Calls Tryz.prog 119 (#[.pointer (some ⟨b, 0, none⟩)] ++ #[.pointer (some ⟨q, 0, none⟩)]) W fun e W' => e = .returned (.pointer (some ⟨b, 40, none⟩)) ∧ ∃ nq, W' = W.drewN nq := by
  intro w b hq
  simp only [List.append_toArray, List.cons_append, List.nil_append]
  go_enter Tryz.func119, Tryz.ntmps119
  go_wp2
  go_quiet (fail)
  go_wp2
  go_ret
  exact ⟨rfl, _, rfl⟩
set_option maxHeartbeats 1000000 in
theorem row_25 (w : World) : Calls Tryz.prog 65 #[.int .i64 25] w fun e w' =>
    ∃ p q, e = .returned (rowV ⟨#[114, 101, 103, 48]⟩ 32 0 (.func (Fn.func 140) #[] #[.pointer (some ⟨p, 0, none⟩)]) (.func (Fn.func 141) #[] #[.pointer (some ⟨p, 0, none⟩)])) ∧ w'.cell? ⟨p, 0, none⟩ = some (.func (Fn.func 119) #[] #[.pointer (some ⟨q, 0, none⟩)]) ∧ w'.cell? ⟨q, 0, none⟩ = some (.int .i64 0) ∧ Below w.heap.size w w' := by
  go_enter Tryz.func65, Tryz.ntmps65
  go_wp2_with fail
  refine (itoa_0 _).mono ?_
  rintro e w1 ⟨rfl, rfl⟩
  go_wp2_with fail
  refine (number_u32 ⟨#[114, 101, 103, 48]⟩ 32 0 _ _ _).mono ?_
  rintro e w1 ⟨rfl, rfl⟩
  unfold rowV
  go_wp2
  exact bodyPost_ret (results_cell_row (p := 2) (ty := 148) rfl _ _ w.heap.size 148 _ (0, 0) _ rfl (four_first _ _ _ _ _) Tryz.underlying148 rfl (by kernel_rfl)) rfl ⟨w.heap.size + 1 + 1, w.heap.size + 1, rfl, by simp [go_sem], by simp [go_sem], below4 _ _ _ _ _⟩

set_option maxHeartbeats 400000 in
theorem placeR_1 (q : Nat) : ∀ (W : World) (b : Nat), W.cell? ⟨q, 0, none⟩ = some (.int .i64 1) → Calls Tryz.prog 119 (#[.pointer (some ⟨b, 0, none⟩)] ++ #[.pointer (some ⟨q, 0, none⟩)]) W fun e W' => e = .returned (.pointer (some ⟨b, 41, none⟩)) ∧ ∃ nq, W' = W.drewN nq := by
  intro w b hq
  simp only [List.append_toArray, List.cons_append, List.nil_append]
  go_enter Tryz.func119, Tryz.ntmps119
  go_wp2
  go_quiet (fail)
  go_wp2
  go_ret
  exact ⟨rfl, _, rfl⟩
set_option maxHeartbeats 1000000 in
theorem row_26 (w : World) : Calls Tryz.prog 65 #[.int .i64 26] w fun e w' =>
    ∃ p q, e = .returned (rowV ⟨#[114, 101, 103, 49]⟩ 32 0 (.func (Fn.func 140) #[] #[.pointer (some ⟨p, 0, none⟩)]) (.func (Fn.func 141) #[] #[.pointer (some ⟨p, 0, none⟩)])) ∧ w'.cell? ⟨p, 0, none⟩ = some (.func (Fn.func 119) #[] #[.pointer (some ⟨q, 0, none⟩)]) ∧ w'.cell? ⟨q, 0, none⟩ = some (.int .i64 1) ∧ Below w.heap.size w w' := by
  go_enter Tryz.func65, Tryz.ntmps65
  go_wp2_with fail
  refine (itoa_1 _).mono ?_
  rintro e w1 ⟨rfl, rfl⟩
  go_wp2_with fail
  refine (number_u32 ⟨#[114, 101, 103, 49]⟩ 32 0 _ _ _).mono ?_
  rintro e w1 ⟨rfl, rfl⟩
  unfold rowV
  go_wp2
  exact bodyPost_ret (results_cell_row (p := 2) (ty := 148) rfl _ _ w.heap.size 148 _ (0, 0) _ rfl (four_first _ _ _ _ _) Tryz.underlying148 rfl (by kernel_rfl)) rfl ⟨w.heap.size + 1 + 1, w.heap.size + 1, rfl, by simp [go_sem], by simp [go_sem], below4 _ _ _ _ _⟩

set_option maxHeartbeats 400000 in
theorem placeR_2 (q : Nat) : ∀ (W : World) (b : Nat), W.cell? ⟨q, 0, none⟩ = some (.int .i64 2) → Calls Tryz.prog 119 (#[.pointer (some ⟨b, 0, none⟩)] ++ #[.pointer (some ⟨q, 0, none⟩)]) W fun e W' => e = .returned (.pointer (some ⟨b, 42, none⟩)) ∧ ∃ nq, W' = W.drewN nq := by
  intro w b hq
  simp only [List.append_toArray, List.cons_append, List.nil_append]
  go_enter Tryz.func119, Tryz.ntmps119
  go_wp2
  go_quiet (fail)
  go_wp2
  go_ret
  exact ⟨rfl, _, rfl⟩
set_option maxHeartbeats 1000000 in
theorem row_27 (w : World) : Calls Tryz.prog 65 #[.int .i64 27] w fun e w' =>
    ∃ p q, e = .returned (rowV ⟨#[114, 101, 103, 50]⟩ 32 0 (.func (Fn.func 140) #[] #[.pointer (some ⟨p, 0, none⟩)]) (.func (Fn.func 141) #[] #[.pointer (some ⟨p, 0, none⟩)])) ∧ w'.cell? ⟨p, 0, none⟩ = some (.func (Fn.func 119) #[] #[.pointer (some ⟨q, 0, none⟩)]) ∧ w'.cell? ⟨q, 0, none⟩ = some (.int .i64 2) ∧ Below w.heap.size w w' := by
  go_enter Tryz.func65, Tryz.ntmps65
  go_wp2_with fail
  refine (itoa_2 _).mono ?_
  rintro e w1 ⟨rfl, rfl⟩
  go_wp2_with fail
  refine (number_u32 ⟨#[114, 101, 103, 50]⟩ 32 0 _ _ _).mono ?_
  rintro e w1 ⟨rfl, rfl⟩
  unfold rowV
  go_wp2
  exact bodyPost_ret (results_cell_row (p := 2) (ty := 148) rfl _ _ w.heap.size 148 _ (0, 0) _ rfl (four_first _ _ _ _ _) Tryz.underlying148 rfl (by kernel_rfl)) rfl ⟨w.heap.size + 1 + 1, w.heap.size + 1, rfl, by simp [go_sem], by simp [go_sem], below4 _ _ _ _ _⟩

set_option maxHeartbeats 400000 in
theorem placeR_3 (q : Nat) : ∀ (W : World) (b : Nat), W.cell? ⟨q, 0, none⟩ = some (.int .i64 3) → Calls Tryz.prog 119 (#[.pointer (some ⟨b, 0, none⟩)] ++ #[.pointer (some ⟨q, 0, none⟩)]) W fun e W' => e = .returned (.pointer (some ⟨b, 43, none⟩)) ∧ ∃ nq, W' = W.drewN nq := by
  intro w b hq
  simp only [List.append_toArray, List.cons_append, List.nil_append]
  go_enter Tryz.func119, Tryz.ntmps119
  go_wp2
  go_quiet (fail)
  go_wp2
  go_ret
  exact ⟨rfl, _, rfl⟩
set_option maxHeartbeats 1000000 in
theorem row_28 (w : World) : Calls Tryz.prog 65 #[.int .i64 28] w fun e w' =>
    ∃ p q, e = .returned (rowV ⟨#[114, 101, 103, 51]⟩ 32 0 (.func (Fn.func 140) #[] #[.pointer (some ⟨p, 0, none⟩)]) (.func (Fn.func 141) #[] #[.pointer (some ⟨p, 0, none⟩)])) ∧ w'.cell? ⟨p, 0, none⟩ = some (.func (Fn.func 119) #[] #[.pointer (some ⟨q, 0, none⟩)]) ∧ w'.cell? ⟨q, 0, none⟩ = some (.int .i64 3) ∧ Below w.heap.size w w' := by
  go_enter Tryz.func65, Tryz.ntmps65
  go_wp2_with fail
  refine (itoa_3 _).mono ?_
  rintro e w1 ⟨rfl, rfl⟩
  go_wp2_with fail
  refine (number_u32 ⟨#[114, 101, 103, 51]⟩ 32 0 _ _ _).mono ?_
  rintro e w1 ⟨rfl, rfl⟩
  unfold rowV
  go_wp2
  exact bodyPost_ret (results_cell_row (p := 2) (ty := 148) rfl _ _ w.heap.size 148 _ (0, 0) _ rfl (four_first _ _ _ _ _) Tryz.underlying148 rfl (by kernel_rfl)) rfl ⟨w.heap.size + 1 + 1, w.heap.size + 1, rfl, by simp [go_sem], by simp [go_sem], below4 _ _ _ _ _⟩

theorem row_4 (w : World) : Calls Tryz.prog 65 #[.int .i64 4] w fun e w' =>
    e = .returned (rowV ⟨#[118, 108, 97, 110, 46, 116, 97, 103]⟩ 17 0 (.func (Fn.func 96) #[] #[]) (.func (Fn.func 97) #[] #[])) ∧ Below w.heap.size w w' := by
  go_enter Tryz.func65, Tryz.ntmps65
  go_wp2
  exact bodyPost_ret (results_cell_row (p := 2) (ty := 148) rfl _ _ w.heap.size 148 _ (0, 0) _ rfl (heap_alloc_new _ _) Tryz.underlying148 rfl (by kernel_rfl)) rfl ⟨rfl, below1 _ _⟩
theorem row_none (f : Int) (hf : f < 1 ∨ 28 < f) (w : World) : Calls Tryz.prog 65 #[.int .i64 f] w fun e w' =>
    e = .returned (rowV ⟨#[]⟩ 0 0 .nilFunc .nilFunc) ∧ Below w.heap.size w w' := by
  have h1 : (f == 1) = false := by simp; omega
  have h2 : (f == 2) = false := by simp; omega
  have h3 : (f == 3) = false := by simp; omega
  have h4 : (f == 4) = false := by simp; omega
  have h5 : (f == 5) = false := by simp; omega
  have h6 : (f == 6) = false := by simp; omega
  have h7 : (f == 7) = false := by simp; omega
  have h8 : (f == 8) = false := by simp; omega
  have h9 : (f == 9) = false := by simp; omega
  have h10 : (f == 10) = false := by simp; omega
  have h11 : (f == 11) = false := by simp; omega
  have h12 : (f == 12) = false := by simp; omega
  have h13 : (f == 13) = false := by simp; omega
  have h14 : (f == 14) = false := by simp; omega
  have h15 : (f == 15) = false := by simp; omega
  have h16 : (f == 16) = false := by simp; omega
  have h17 : (f == 17) = false := by simp; omega
  have h18 : (f == 18) = false := by simp; omega
  have h19 : (f == 19) = false := by simp; omega
  have h20 : (f == 20) = false := by simp; omega
  have h21 : (f == 21) = false := by simp; omega
  have h22 : (f == 22) = false := by simp; omega
  have h23 : (f == 23) = false := by simp; omega
  have h24 : (f == 24) = false := by simp; omega
  have h25 : (f == 25) = false := by simp; omega
  have h26 : (f == 26) = false := by simp; omega
  have h27 : (f == 27) = false := by simp; omega
  have h28 : (f == 28) = false := by simp; omega
  clear hf
  go_enter Tryz.func65, Tryz.ntmps65
  go_wp2
  exact bodyPost_ret (results_cell_row (p := 2) (ty := 148) rfl _ _ w.heap.size 148 _ (0, 0) _ rfl (heap_alloc_new _ _) Tryz.underlying148 rfl (by kernel_rfl)) rfl ⟨rfl, below1 _ _⟩
end Go.Proofs.YtijeakggeichcaaGreatDoor
