/- The rows of vlan.tag, of the registers and of no field. No condition. -/
import Derived.Test.YtnahhmcmahbnkaaGreatDoorFB
namespace Go.Proofs.YtnahhmcmahbnkaaGreatDoor
open Go.RowKit


set_option maxHeartbeats 400000 in
theorem small_0 (w : World) : Calls Tryz.prog 185 #[.int .i64 0] w fun e w' => e = .returned (.string ⟨#[48]⟩) ∧ w' = w := by
  go_enter Tryz.func185, Tryz.ntmps185
  go_wp2
  go_ret
  exact ⟨rfl, rfl⟩
set_option maxHeartbeats 400000 in
theorem fmt_0 (w : World) : Calls Tryz.prog 105 #[.int .i64 0, .int .i64 10] w fun e w' => e = .returned (.string ⟨#[48]⟩) ∧ w' = w := by
  go_enter Tryz.func105, Tryz.ntmps105
  go_wp2_with fail
  refine (small_0 _).mono ?_
  rintro e w1 ⟨rfl, rfl⟩
  go_wp2
  go_ret
  exact ⟨rfl, rfl⟩
set_option maxHeartbeats 400000 in
theorem itoai_0 (w : World) : Calls Tryz.prog 76 #[.int .i64 0] w fun e w' => e = .returned (.string ⟨#[48]⟩) ∧ w' = w := by
  go_enter Tryz.func76, Tryz.ntmps76
  go_wp2_with fail
  refine (fmt_0 _).mono ?_
  rintro e w1 ⟨rfl, rfl⟩
  go_wp2
  go_ret
  exact ⟨rfl, rfl⟩
set_option maxHeartbeats 400000 in
theorem itoa_0 (w : World) : Calls Tryz.prog 49 #[.int .i64 0] w fun e w' => e = .returned (.string ⟨#[48]⟩) ∧ w' = w := by
  go_enter Tryz.func49, Tryz.ntmps49
  go_wp2_with fail
  refine (itoai_0 _).mono ?_
  rintro e w1 ⟨rfl, rfl⟩
  go_wp2
  go_ret
  exact ⟨rfl, rfl⟩

set_option maxHeartbeats 400000 in
theorem small_1 (w : World) : Calls Tryz.prog 185 #[.int .i64 1] w fun e w' => e = .returned (.string ⟨#[49]⟩) ∧ w' = w := by
  go_enter Tryz.func185, Tryz.ntmps185
  go_wp2
  go_ret
  exact ⟨rfl, rfl⟩
set_option maxHeartbeats 400000 in
theorem fmt_1 (w : World) : Calls Tryz.prog 105 #[.int .i64 1, .int .i64 10] w fun e w' => e = .returned (.string ⟨#[49]⟩) ∧ w' = w := by
  go_enter Tryz.func105, Tryz.ntmps105
  go_wp2_with fail
  refine (small_1 _).mono ?_
  rintro e w1 ⟨rfl, rfl⟩
  go_wp2
  go_ret
  exact ⟨rfl, rfl⟩
set_option maxHeartbeats 400000 in
theorem itoai_1 (w : World) : Calls Tryz.prog 76 #[.int .i64 1] w fun e w' => e = .returned (.string ⟨#[49]⟩) ∧ w' = w := by
  go_enter Tryz.func76, Tryz.ntmps76
  go_wp2_with fail
  refine (fmt_1 _).mono ?_
  rintro e w1 ⟨rfl, rfl⟩
  go_wp2
  go_ret
  exact ⟨rfl, rfl⟩
set_option maxHeartbeats 400000 in
theorem itoa_1 (w : World) : Calls Tryz.prog 49 #[.int .i64 1] w fun e w' => e = .returned (.string ⟨#[49]⟩) ∧ w' = w := by
  go_enter Tryz.func49, Tryz.ntmps49
  go_wp2_with fail
  refine (itoai_1 _).mono ?_
  rintro e w1 ⟨rfl, rfl⟩
  go_wp2
  go_ret
  exact ⟨rfl, rfl⟩

set_option maxHeartbeats 400000 in
theorem small_2 (w : World) : Calls Tryz.prog 185 #[.int .i64 2] w fun e w' => e = .returned (.string ⟨#[50]⟩) ∧ w' = w := by
  go_enter Tryz.func185, Tryz.ntmps185
  go_wp2
  go_ret
  exact ⟨rfl, rfl⟩
set_option maxHeartbeats 400000 in
theorem fmt_2 (w : World) : Calls Tryz.prog 105 #[.int .i64 2, .int .i64 10] w fun e w' => e = .returned (.string ⟨#[50]⟩) ∧ w' = w := by
  go_enter Tryz.func105, Tryz.ntmps105
  go_wp2_with fail
  refine (small_2 _).mono ?_
  rintro e w1 ⟨rfl, rfl⟩
  go_wp2
  go_ret
  exact ⟨rfl, rfl⟩
set_option maxHeartbeats 400000 in
theorem itoai_2 (w : World) : Calls Tryz.prog 76 #[.int .i64 2] w fun e w' => e = .returned (.string ⟨#[50]⟩) ∧ w' = w := by
  go_enter Tryz.func76, Tryz.ntmps76
  go_wp2_with fail
  refine (fmt_2 _).mono ?_
  rintro e w1 ⟨rfl, rfl⟩
  go_wp2
  go_ret
  exact ⟨rfl, rfl⟩
set_option maxHeartbeats 400000 in
theorem itoa_2 (w : World) : Calls Tryz.prog 49 #[.int .i64 2] w fun e w' => e = .returned (.string ⟨#[50]⟩) ∧ w' = w := by
  go_enter Tryz.func49, Tryz.ntmps49
  go_wp2_with fail
  refine (itoai_2 _).mono ?_
  rintro e w1 ⟨rfl, rfl⟩
  go_wp2
  go_ret
  exact ⟨rfl, rfl⟩

set_option maxHeartbeats 400000 in
theorem small_3 (w : World) : Calls Tryz.prog 185 #[.int .i64 3] w fun e w' => e = .returned (.string ⟨#[51]⟩) ∧ w' = w := by
  go_enter Tryz.func185, Tryz.ntmps185
  go_wp2
  go_ret
  exact ⟨rfl, rfl⟩
set_option maxHeartbeats 400000 in
theorem fmt_3 (w : World) : Calls Tryz.prog 105 #[.int .i64 3, .int .i64 10] w fun e w' => e = .returned (.string ⟨#[51]⟩) ∧ w' = w := by
  go_enter Tryz.func105, Tryz.ntmps105
  go_wp2_with fail
  refine (small_3 _).mono ?_
  rintro e w1 ⟨rfl, rfl⟩
  go_wp2
  go_ret
  exact ⟨rfl, rfl⟩
set_option maxHeartbeats 400000 in
theorem itoai_3 (w : World) : Calls Tryz.prog 76 #[.int .i64 3] w fun e w' => e = .returned (.string ⟨#[51]⟩) ∧ w' = w := by
  go_enter Tryz.func76, Tryz.ntmps76
  go_wp2_with fail
  refine (fmt_3 _).mono ?_
  rintro e w1 ⟨rfl, rfl⟩
  go_wp2
  go_ret
  exact ⟨rfl, rfl⟩
set_option maxHeartbeats 400000 in
theorem itoa_3 (w : World) : Calls Tryz.prog 49 #[.int .i64 3] w fun e w' => e = .returned (.string ⟨#[51]⟩) ∧ w' = w := by
  go_enter Tryz.func49, Tryz.ntmps49
  go_wp2_with fail
  refine (itoai_3 _).mono ?_
  rintro e w1 ⟨rfl, rfl⟩
  go_wp2
  go_ret
  exact ⟨rfl, rfl⟩

theorem callE_24 : ∀ args W, (callFunc 184 args).run Tryz.prog W = .ok (.enter 184 args) W := fun args W => by simp [go_sem]

set_option maxHeartbeats 400000 in
theorem placeR_0 (q : Nat) : ∀ (W : World) (b : Nat), W.cell? ⟨q, 0, none⟩ = some (.int .i64 0) → Calls Tryz.prog 184 (#[.pointer (some ⟨b, 0, none⟩)] ++ #[.pointer (some ⟨q, 0, none⟩)]) W fun e W' => e = .returned (.pointer (some ⟨b, 40, none⟩)) ∧ ∃ nq, W' = W.drewN nq := by
  intro w b hq
  simp only [List.append_toArray, List.cons_append, List.nil_append]
  go_enter Tryz.func184, Tryz.ntmps184
  go_wp2
  go_quiet (fail)
  go_wp2
  go_ret
  exact ⟨rfl, _, rfl⟩
set_option maxHeartbeats 1000000 in
theorem row_25 (w : World) : Calls Tryz.prog 103 #[.int .i64 25] w fun e w' =>
    ∃ p q, e = .returned (rowV ⟨#[114, 101, 103, 48]⟩ 32 0 (.func (Fn.func 213) #[] #[.pointer (some ⟨p, 0, none⟩)]) (.func (Fn.func 214) #[] #[.pointer (some ⟨p, 0, none⟩)])) ∧ w'.cell? ⟨p, 0, none⟩ = some (.func (Fn.func 184) #[] #[.pointer (some ⟨q, 0, none⟩)]) ∧ w'.cell? ⟨q, 0, none⟩ = some (.int .i64 0) ∧ Below w.heap.size w w' := by
  go_enter Tryz.func103, Tryz.ntmps103
  go_wp2_with fail
  refine (itoa_0 _).mono ?_
  rintro e w1 ⟨rfl, rfl⟩
  go_wp2_with fail
  refine (number_u32 ⟨#[114, 101, 103, 48]⟩ 32 0 _ _ _).mono ?_
  rintro e w1 ⟨rfl, rfl⟩
  unfold rowV
  go_wp2
  exact bodyPost_ret (results_cell_row (p := 2) (ty := 215) rfl _ _ w.heap.size 215 _ (0, 0) _ rfl (four_first _ _ _ _ _) Tryz.underlying215 rfl (by kernel_rfl)) rfl ⟨w.heap.size + 1 + 1, w.heap.size + 1, rfl, by simp [go_sem], by simp [go_sem], below4 _ _ _ _ _⟩

set_option maxHeartbeats 400000 in
theorem placeR_1 (q : Nat) : ∀ (W : World) (b : Nat), W.cell? ⟨q, 0, none⟩ = some (.int .i64 1) → Calls Tryz.prog 184 (#[.pointer (some ⟨b, 0, none⟩)] ++ #[.pointer (some ⟨q, 0, none⟩)]) W fun e W' => e = .returned (.pointer (some ⟨b, 41, none⟩)) ∧ ∃ nq, W' = W.drewN nq := by
  intro w b hq
  simp only [List.append_toArray, List.cons_append, List.nil_append]
  go_enter Tryz.func184, Tryz.ntmps184
  go_wp2
  go_quiet (fail)
  go_wp2
  go_ret
  exact ⟨rfl, _, rfl⟩
set_option maxHeartbeats 1000000 in
theorem row_26 (w : World) : Calls Tryz.prog 103 #[.int .i64 26] w fun e w' =>
    ∃ p q, e = .returned (rowV ⟨#[114, 101, 103, 49]⟩ 32 0 (.func (Fn.func 213) #[] #[.pointer (some ⟨p, 0, none⟩)]) (.func (Fn.func 214) #[] #[.pointer (some ⟨p, 0, none⟩)])) ∧ w'.cell? ⟨p, 0, none⟩ = some (.func (Fn.func 184) #[] #[.pointer (some ⟨q, 0, none⟩)]) ∧ w'.cell? ⟨q, 0, none⟩ = some (.int .i64 1) ∧ Below w.heap.size w w' := by
  go_enter Tryz.func103, Tryz.ntmps103
  go_wp2_with fail
  refine (itoa_1 _).mono ?_
  rintro e w1 ⟨rfl, rfl⟩
  go_wp2_with fail
  refine (number_u32 ⟨#[114, 101, 103, 49]⟩ 32 0 _ _ _).mono ?_
  rintro e w1 ⟨rfl, rfl⟩
  unfold rowV
  go_wp2
  exact bodyPost_ret (results_cell_row (p := 2) (ty := 215) rfl _ _ w.heap.size 215 _ (0, 0) _ rfl (four_first _ _ _ _ _) Tryz.underlying215 rfl (by kernel_rfl)) rfl ⟨w.heap.size + 1 + 1, w.heap.size + 1, rfl, by simp [go_sem], by simp [go_sem], below4 _ _ _ _ _⟩

set_option maxHeartbeats 400000 in
theorem placeR_2 (q : Nat) : ∀ (W : World) (b : Nat), W.cell? ⟨q, 0, none⟩ = some (.int .i64 2) → Calls Tryz.prog 184 (#[.pointer (some ⟨b, 0, none⟩)] ++ #[.pointer (some ⟨q, 0, none⟩)]) W fun e W' => e = .returned (.pointer (some ⟨b, 42, none⟩)) ∧ ∃ nq, W' = W.drewN nq := by
  intro w b hq
  simp only [List.append_toArray, List.cons_append, List.nil_append]
  go_enter Tryz.func184, Tryz.ntmps184
  go_wp2
  go_quiet (fail)
  go_wp2
  go_ret
  exact ⟨rfl, _, rfl⟩
set_option maxHeartbeats 1000000 in
theorem row_27 (w : World) : Calls Tryz.prog 103 #[.int .i64 27] w fun e w' =>
    ∃ p q, e = .returned (rowV ⟨#[114, 101, 103, 50]⟩ 32 0 (.func (Fn.func 213) #[] #[.pointer (some ⟨p, 0, none⟩)]) (.func (Fn.func 214) #[] #[.pointer (some ⟨p, 0, none⟩)])) ∧ w'.cell? ⟨p, 0, none⟩ = some (.func (Fn.func 184) #[] #[.pointer (some ⟨q, 0, none⟩)]) ∧ w'.cell? ⟨q, 0, none⟩ = some (.int .i64 2) ∧ Below w.heap.size w w' := by
  go_enter Tryz.func103, Tryz.ntmps103
  go_wp2_with fail
  refine (itoa_2 _).mono ?_
  rintro e w1 ⟨rfl, rfl⟩
  go_wp2_with fail
  refine (number_u32 ⟨#[114, 101, 103, 50]⟩ 32 0 _ _ _).mono ?_
  rintro e w1 ⟨rfl, rfl⟩
  unfold rowV
  go_wp2
  exact bodyPost_ret (results_cell_row (p := 2) (ty := 215) rfl _ _ w.heap.size 215 _ (0, 0) _ rfl (four_first _ _ _ _ _) Tryz.underlying215 rfl (by kernel_rfl)) rfl ⟨w.heap.size + 1 + 1, w.heap.size + 1, rfl, by simp [go_sem], by simp [go_sem], below4 _ _ _ _ _⟩

set_option maxHeartbeats 400000 in
theorem placeR_3 (q : Nat) : ∀ (W : World) (b : Nat), W.cell? ⟨q, 0, none⟩ = some (.int .i64 3) → Calls Tryz.prog 184 (#[.pointer (some ⟨b, 0, none⟩)] ++ #[.pointer (some ⟨q, 0, none⟩)]) W fun e W' => e = .returned (.pointer (some ⟨b, 43, none⟩)) ∧ ∃ nq, W' = W.drewN nq := by
  intro w b hq
  simp only [List.append_toArray, List.cons_append, List.nil_append]
  go_enter Tryz.func184, Tryz.ntmps184
  go_wp2
  go_quiet (fail)
  go_wp2
  go_ret
  exact ⟨rfl, _, rfl⟩
set_option maxHeartbeats 1000000 in
theorem row_28 (w : World) : Calls Tryz.prog 103 #[.int .i64 28] w fun e w' =>
    ∃ p q, e = .returned (rowV ⟨#[114, 101, 103, 51]⟩ 32 0 (.func (Fn.func 213) #[] #[.pointer (some ⟨p, 0, none⟩)]) (.func (Fn.func 214) #[] #[.pointer (some ⟨p, 0, none⟩)])) ∧ w'.cell? ⟨p, 0, none⟩ = some (.func (Fn.func 184) #[] #[.pointer (some ⟨q, 0, none⟩)]) ∧ w'.cell? ⟨q, 0, none⟩ = some (.int .i64 3) ∧ Below w.heap.size w w' := by
  go_enter Tryz.func103, Tryz.ntmps103
  go_wp2_with fail
  refine (itoa_3 _).mono ?_
  rintro e w1 ⟨rfl, rfl⟩
  go_wp2_with fail
  refine (number_u32 ⟨#[114, 101, 103, 51]⟩ 32 0 _ _ _).mono ?_
  rintro e w1 ⟨rfl, rfl⟩
  unfold rowV
  go_wp2
  exact bodyPost_ret (results_cell_row (p := 2) (ty := 215) rfl _ _ w.heap.size 215 _ (0, 0) _ rfl (four_first _ _ _ _ _) Tryz.underlying215 rfl (by kernel_rfl)) rfl ⟨w.heap.size + 1 + 1, w.heap.size + 1, rfl, by simp [go_sem], by simp [go_sem], below4 _ _ _ _ _⟩

theorem row_4 (w : World) : Calls Tryz.prog 103 #[.int .i64 4] w fun e w' =>
    e = .returned (rowV ⟨#[118, 108, 97, 110, 46, 116, 97, 103]⟩ 17 0 (.func (Fn.func 161) #[] #[]) (.func (Fn.func 162) #[] #[])) ∧ Below w.heap.size w w' := by
  go_enter Tryz.func103, Tryz.ntmps103
  go_wp2
  exact bodyPost_ret (results_cell_row (p := 2) (ty := 215) rfl _ _ w.heap.size 215 _ (0, 0) _ rfl (heap_alloc_new _ _) Tryz.underlying215 rfl (by kernel_rfl)) rfl ⟨rfl, below1 _ _⟩
theorem row_none (f : Int) (hf : f < 1 ∨ 28 < f) (w : World) : Calls Tryz.prog 103 #[.int .i64 f] w fun e w' =>
    e = .returned (rowV ⟨#[]⟩ 0 0 .nilFunc .nilFunc) ∧ Below w.heap.size w w' := by
  have h1 : (f == 1) = false := by simp; omega
  have h2 : (f == 2) = false := by simp; omega
  have h3 : (f == 3) = false := by simp; omega
  have h4 : (f == 4) = false := by simp; omega
  have h5 : (f == 5) = false := by simp; omega
  have h6 : (f == 6) = false := by simp; omega
  have h7 : (f == 7) = false := by simp; omega
  have h8 : (f == 8) = false := by simp; omega
  have h9 : (f == 9) = false := by simp; omega
  have h10 : (f == 10) = false := by simp; omega
  have h11 : (f == 11) = false := by simp; omega
  have h12 : (f == 12) = false := by simp; omega
  have h13 : (f == 13) = false := by simp; omega
  have h14 : (f == 14) = false := by simp; omega
  have h15 : (f == 15) = false := by simp; omega
  have h16 : (f == 16) = false := by simp; omega
  have h17 : (f == 17) = false := by simp; omega
  have h18 : (f == 18) = false := by simp; omega
  have h19 : (f == 19) = false := by simp; omega
  have h20 : (f == 20) = false := by simp; omega
  have h21 : (f == 21) = false := by simp; omega
  have h22 : (f == 22) = false := by simp; omega
  have h23 : (f == 23) = false := by simp; omega
  have h24 : (f == 24) = false := by simp; omega
  have h25 : (f == 25) = false := by simp; omega
  have h26 : (f == 26) = false := by simp; omega
  have h27 : (f == 27) = false := by simp; omega
  have h28 : (f == 28) = false := by simp; omega
  clear hf
  go_enter Tryz.func103, Tryz.ntmps103
  go_wp2
  exact bodyPost_ret (results_cell_row (p := 2) (ty := 215) rfl _ _ w.heap.size 215 _ (0, 0) _ rfl (heap_alloc_new _ _) Tryz.underlying215 rfl (by kernel_rfl)) rfl ⟨rfl, below1 _ _⟩
end Go.Proofs.YtnahhmcmahbnkaaGreatDoor
/- vlan.tag read and written; which packets have a field; small functions of the table. Conditions: the State has its cells. -/
namespace Go.Proofs.YtnahhmcmahbnkaaGreatDoor
open Go.RowKit
theorem info_size {c : Array Value} (h : c.size = 49) : (Tryz.prog.info? 38).map (·.size) = some c.size := by rw [h]; exact size49
theorem two_below {w w2 : World} {A B : Obj} (h : w2 = (w.alloc A).alloc B) : Below w.heap.size w w2 := by subst h; exact below2 w A B
def tagNo (cs : Array Value) : Array Value := (cs.setIfInBounds 2 (.bool false)).setIfInBounds 3 (.int .i64 0)
def tagYes (cs : Array Value) (v : Int) : Array Value := ((tagNo cs).setIfInBounds 2 (.bool true)).setIfInBounds 3 (.int .i64 (wrap64 (IntKind.u64.wrap (v - 65536))))
theorem tagNo_size (cs : Array Value) : (tagNo cs).size = cs.size := by simp [tagNo]
theorem tagYes_size (cs : Array Value) (v : Int) : (tagYes cs v).size = cs.size := by simp [tagYes, tagNo]
theorem tagNo_one {cs : Array Value} (h : cs.all (·.oneCell') = true) : (tagNo cs).all (·.oneCell') = true := set_one (set_one h rfl) rfl
theorem tagYes_one {cs : Array Value} (h : cs.all (·.oneCell') = true) (v : Int) : (tagYes cs v).all (·.oneCell') = true := set_one (set_one (tagNo_one h) rfl) rfl

set_option maxHeartbeats 2000000 in
set_option maxRecDepth 20000 in
theorem writeTag_no (cs : Array Value) (t v : Int) (b : Bool) (hs : cs.size = 49) (h1 : cs.all (·.oneCell') = true) (h2 : cs[2]? = some (.bool b)) (h3 : cs[3]? = some (.int .i64 t)) (hv : (bits BinOp.and IntKind.u64 v 65536 != 0) = false) (w : World) :
    Calls Tryz.prog 162 #[.agg cs, .int .u64 v] w fun e w' => e = .returned (.agg (tagNo cs)) ∧ Below w.heap.size w w' := by
  have g1 : (cs.setIfInBounds 2 (.bool false))[2]? = some (.bool false) := Array.getElem?_setIfInBounds_self_of_lt (by omega)
  have g2 : ((cs.setIfInBounds 2 (.bool false)).setIfInBounds 3 (.int .i64 0))[3]? = some (.int .i64 0) := Array.getElem?_setIfInBounds_self_of_lt (by rw [Array.size_setIfInBounds]; omega)
  have h1' : Array.all ((cs.setIfInBounds 2 (.bool false)).setIfInBounds 3 (.int .i64 0)) (·.oneCell') = true := tagNo_one h1
  have hs' : Array.size ((cs.setIfInBounds 2 (.bool false)).setIfInBounds 3 (.int .i64 0)) = 49 := by simp [hs]
  have hi' := info_size hs'
  have H1 : Hid _ := h1'
  have HI : Hid _ := hi'
  have HS : Hid _ := hs'
  clear hs h1 h1' hi' hs'
  go_enter Tryz.func162, Tryz.ntmps162
  go_wp2_with (first
    | refine wpList_load_row rfl 38 _ rfl w.heap.size rfl 38 ((cs.setIfInBounds 2 (.bool false)).setIfInBounds 3 (.int .i64 0)) (0, 0) _ (two_first _ _ _) Tryz.underlying38 rfl HI.out ?_
    | refine wpList_store_new rfl 38 _ _ rfl _ ((cs.setIfInBounds 2 (.bool false)).setIfInBounds 3 (.int .i64 0)) (w.heap.size + 1) (by simp) rfl rfl HI.out (Eq.trans (b := 49) rfl HS.out.symm) H1.out ?_
    | fail)
  exact bodyPost_ret (results_cell_row (p := 4) (ty := 38) rfl _ _ (w.heap.size + 1) 38 ((cs.setIfInBounds 2 (.bool false)).setIfInBounds 3 (.int .i64 0)) (0, 0) _ rfl (two_last _ _ _) Tryz.underlying38 rfl HI.out) rfl ⟨rfl, below2 _ _ _⟩

set_option maxHeartbeats 400000 in
set_option maxRecDepth 20000 in
theorem writeTag_yes (cs : Array Value) (t v : Int) (b : Bool) (hs : cs.size = 49) (h1 : cs.all (·.oneCell') = true) (h2 : cs[2]? = some (.bool b)) (h3 : cs[3]? = some (.int .i64 t)) (hv : (bits BinOp.and IntKind.u64 v 65536 != 0) = true) (w : World) :
    Calls Tryz.prog 162 #[.agg cs, .int .u64 v] w fun e w' => e = .returned (.agg (tagYes cs v)) ∧ Below w.heap.size w w' := by
  have g1 : (cs.setIfInBounds 2 (.bool false))[2]? = some (.bool false) := Array.getElem?_setIfInBounds_self_of_lt (by omega)
  have g2 : ((cs.setIfInBounds 2 (.bool false)).setIfInBounds 3 (.int .i64 0))[3]? = some (.int .i64 0) := Array.getElem?_setIfInBounds_self_of_lt (by rw [Array.size_setIfInBounds]; omega)
  have h1' : Array.all ((((cs.setIfInBounds 2 (.bool false)).setIfInBounds 3 (.int .i64 0)).setIfInBounds 2 (.bool true)).setIfInBounds 3 (.int .i64 (wrap64 (IntKind.u64.wrap (v - 65536))))) (·.oneCell') = true := tagYes_one h1 v
  have hs' : Array.size ((((cs.setIfInBounds 2 (.bool false)).setIfInBounds 3 (.int .i64 0)).setIfInBounds 2 (.bool true)).setIfInBounds 3 (.int .i64 (wrap64 (IntKind.u64.wrap (v - 65536))))) = 49 := by simp [hs]
  have hi' := info_size hs'
  have H1 : Hid _ := h1'
  have HI : Hid _ := hi'
  have HS : Hid _ := hs'
  clear hs h1 h1' hi' hs'
  go_enter Tryz.func162, Tryz.ntmps162
  generalize hX : wrap64 (IntKind.u64.wrap (v - 65536)) = X at *
  go_wp2_with (first
    | refine wpList_load_row rfl 38 _ rfl w.heap.size rfl 38 _ (0, 0) _ (two_first _ _ _) Tryz.underlying38 rfl ?_ ?_
    | refine wpList_store_new rfl 38 _ _ rfl _ _ (w.heap.size + 1) (by simp) rfl rfl ?_ ?_ ?_ ?_
    | fail)
  · exact HI.out
  · exact HI.out
  · exact Eq.trans (b := 49) rfl HS.out.symm
  · exact H1.out
  · refine bodyPost_ret (results_cell_row (p := 4) (ty := 38) rfl _ _ (w.heap.size + 1) 38 _ (0, 0) _ rfl (two_last _ _ _) Tryz.underlying38 rfl ?_) rfl ⟨by subst hX; rfl, below2 _ _ _⟩
    exact HI.out


set_option maxHeartbeats 400000 in
theorem readTag_yes (cs : Array Value) (t : Int) (h2 : cs[2]? = some (.bool true)) (h3 : cs[3]? = some (.int .i64 t)) (w : World) :
    Calls Tryz.prog 161 #[.agg cs] w fun e w' => e = .returned (.int .u64 (IntKind.u64.wrap (IntKind.u64.wrap t + 65536))) ∧ Below w.heap.size w w' := by
  go_enter Tryz.func161, Tryz.ntmps161
  go_wp2
  go_ret
  exact ⟨rfl, below1 _ _⟩
set_option maxHeartbeats 400000 in
theorem readTag_no (cs : Array Value) (h2 : cs[2]? = some (.bool false)) (w : World) :
    Calls Tryz.prog 161 #[.agg cs] w fun e w' => e = .returned (.int .u64 0) ∧ Below w.heap.size w w' := by
  go_enter Tryz.func161, Tryz.ntmps161
  go_wp2
  go_ret
  exact ⟨rfl, below1 _ _⟩
set_option maxHeartbeats 400000 in
theorem isField_any (name : ByteArray) (bits of_ : Int) (R S : Value) (w : World) : Calls Tryz.prog 150 #[rowV name bits of_ R S] w fun e w' => e = .returned (.bool !name.toList.isEmpty) ∧ Below w.heap.size w w' := by
  unfold rowV
  go_enter Tryz.func150, Tryz.ntmps150
  go_wp2
  go_ret
  exact ⟨rfl, below1 _ _⟩
theorem ones_val : ∀ n, n ≤ 48 → IntKind.u64.wrap (IntKind.u64.wrap (2 ^ n) - 1) = (2 ^ n - 1 : Int) := by decide +kernel
set_option maxHeartbeats 400000 in
theorem ones_any (n : Nat) (hn : n ≤ 48) (w : World) : Calls Tryz.prog 152 #[.int .i64 n] w fun e w' => e = .returned (.int .u64 (2 ^ n - 1)) ∧ w' = w := by
  go_enter Tryz.func152, Tryz.ntmps152
  go_wp2
  go_ret
  exact ⟨congrArg (fun x => Ending.returned (.int .u64 x)) (ones_val n hn), rfl⟩
set_option maxHeartbeats 400000 in
theorem isFixed_any (f : Int) (w : World) : Calls Tryz.prog 225 #[.int .i64 f] w fun e w' => e = .returned (.bool (f == 3 || f == 12 || f == 15)) ∧ w' = w := by
  cases h3 : (f == 3) <;> cases h12 : (f == 12) <;> cases h15 : (f == 15) <;>
  · go_enter Tryz.func225, Tryz.ntmps225
    go_wp2
    go_ret
    exact ⟨rfl, rfl⟩

/-- Has a packet a field of that sort? -/
def ofB (which : Nat) (arp ip : Bool) (kind : Int) : Bool :=
  match which with
  | 1 => arp
  | 2 => ip
  | 3 => ip && kind == 1
  | 4 => ip && (kind == 2 || kind == 3)
  | 5 => ip && kind == 3
  | _ => true
set_option maxHeartbeats 1000000 in
theorem isOf_any (which : Nat) (hw : which ≤ 5) (ps : Array Value) (arp ip : Bool) (kind : Int) (h5 : ps[5]? = some (.bool arp)) (h11 : ps[11]? = some (.bool ip)) (h20 : ps[20]? = some (.int .i64 kind)) (w : World) :
    Calls Tryz.prog 151 #[.agg ps, .int .i64 which] w fun e w' => e = .returned (.bool (ofB which arp ip kind)) ∧ Below w.heap.size w w' := by
  have hB := below1 w (.cells ps 33)
  have HB : Hid _ := hB
  clear hB
  match which, hw with
  | 0, _ | 1, _ | 2, _ =>
    go_enter Tryz.func151, Tryz.ntmps151
    go_wp2
    go_ret
    exact ⟨rfl, HB.out⟩
  | 3, _ | 5, _ =>
    cases ip <;> cases h1 : (kind == 1) <;> cases h3 : (kind == 3) <;>
    · go_enter Tryz.func151, Tryz.ntmps151
      go_wp2
      go_ret
      exact ⟨by simp [ofB, h1, h3], HB.out⟩
  | 4, _ =>
    cases ip <;> cases h1 : (kind == 2) <;> cases h3 : (kind == 3) <;>
    · go_enter Tryz.func151, Tryz.ntmps151
      go_wp2
      go_ret
      exact ⟨by simp [ofB, h1, h3], HB.out⟩
end Go.Proofs.YtnahhmcmahbnkaaGreatDoor
