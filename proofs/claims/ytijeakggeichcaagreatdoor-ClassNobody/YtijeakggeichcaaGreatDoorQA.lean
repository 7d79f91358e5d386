/- The order of rules: cmp.Compare, cmp.Or, inOrder; New, isMade. Conditions: as said. -/
import Derived.Test.YtijeakggeichcaaGreatDoorMI
import Derived.Lib.Hide
namespace Go.Proofs.YtijeakggeichcaaGreatDoor
open Go.RowKit
def cmpI (x y : Int) : Int := if x < y then -1 else if y < x then 1 else 0
def orI : List Int → Int
  | [] => 0
  | c :: r => if c = 0 then orI r else c
theorem isNaN_int (x : Int) (w : World) : Calls Tryz.prog 70 #[.int .i64 x] w fun e w' => e = .returned (.bool false) ∧ w' = w := by
  go_enter Tryz.func70, Tryz.ntmps70
  go_wp2
  go_ret
  exact ⟨by simp, rfl⟩
set_option linter.unusedSimpArgs false in
set_option maxRecDepth 20000 in
theorem compare_int (x y : Int) (w : World) : Calls Tryz.prog 46 #[.int .i64 x, .int .i64 y] w fun e w' => e = .returned (.int .i64 (cmpI x y)) ∧ w' = w := by
  have h1 := isNaN_int x w
  have h2 := isNaN_int y w
  unfold cmpI
  by_cases d1 : x < y
  all_goals by_cases d2 : y < x
  all_goals try (exfalso; omega)
  all_goals go_enter Tryz.func46, Tryz.ntmps46
  all_goals go_wp2_with (go_at_call 70; first | (refine h1.mono ?_; rintro e w' ⟨rfl, rfl⟩) | (refine h2.mono ?_; rintro e w' ⟨rfl, rfl⟩) | fail)
  all_goals go_ret
  all_goals exact ⟨by simp [d1, d2], rfl⟩
set_option maxRecDepth 20000 in
set_option maxHeartbeats 2000000 in
theorem or2_any (c0 c1 : Int) (g : Nat) (w : World) (h0 : w.cell? ⟨g, 0, none⟩ = some (.int .i64 c0)) (h1 : w.cell? ⟨g, 1, none⟩ = some (.int .i64 c1)) :
    Calls Tryz.prog 45 #[.slice (some ⟨g, 0, none⟩) 2 2] w fun e w' => e = .returned (.int .i64 (orI [c0, c1])) ∧ w' = w := by
  by_cases d0 : c0 = 0
  rotate_left
  · go_enter Tryz.func45, Tryz.ntmps45
    go_wp2
    go_rounds 1
    all_goals go_wp2
    all_goals go_ret
    all_goals exact ⟨by simp [orI, d0], rfl⟩
  by_cases d1 : c1 = 0
  · go_enter Tryz.func45, Tryz.ntmps45
    go_wp2
    go_rounds 3
    all_goals go_wp2
    all_goals go_ret
    all_goals exact ⟨by simp [orI, d0, d1], rfl⟩
  · go_enter Tryz.func45, Tryz.ntmps45
    go_wp2
    go_rounds 2
    all_goals go_wp2
    all_goals go_ret
    all_goals exact ⟨by simp [orI, d0, d1], rfl⟩
/-- A rule by its cells. -/
abbrev ruC (p : Int) (s : Value) (id : Int) : Array Value := #[.int .i64 p, s, .int .i64 id]
/-- The order of two rules. -/
def ordI (p a q b : Int) : Int := orI [cmpI q p, cmpI a b]
set_option linter.unusedSimpArgs false in
set_option maxRecDepth 20000 in
set_option maxRecDepth 20000 in
set_option maxHeartbeats 4000000 in
theorem inOrder_any (p a q b : Int) (s t : Value) (w : World) : Calls Tryz.prog 24 #[.agg (ruC p s a), .agg (ruC q t b)] w fun e w' => e = .returned (.int .i64 (ordI p a q b)) ∧ Below w.heap.size w w' := by
  have KC : Hid (∀ W, (∃ n, W = ((w.alloc (.cells (ruC p s a) 29)).alloc (.cells (ruC q t b) 29)).drewN n ∨ ∃ o, W = (((w.alloc (.cells (ruC p s a) 29)).alloc (.cells (ruC q t b) 29)).alloc o).drew) → W.cell? ⟨w.heap.size, 0, none⟩ = some (.int .i64 p) ∧ W.cell? ⟨w.heap.size, 2, none⟩ = some (.int .i64 a) ∧
      W.cell? ⟨w.heap.size + 1, 0, none⟩ = some (.int .i64 q) ∧ W.cell? ⟨w.heap.size + 1, 2, none⟩ = some (.int .i64 b)) := by
    show ∀ W, _
    rintro W ⟨n, hq⟩
    have x := two_first w (.cells (ruC p s a) 29) (.cells (ruC q t b) 29)
    have y := two_last w (.cells (ruC p s a) 29) (.cells (ruC q t b) 29)
    have x' : W.heap[w.heap.size]? = some (.cells (ruC p s a) 29 (0, 0)) := by
      rcases hq with rfl | ⟨o, rfl⟩
      · exact x
      · exact (heap_alloc_old ((w.alloc (.cells (ruC p s a) 29)).alloc (.cells (ruC q t b) 29)) o (lt_of_heap x)).trans x
    have y' : W.heap[w.heap.size + 1]? = some (.cells (ruC q t b) 29 (0, 0)) := by
      rcases hq with rfl | ⟨o, rfl⟩
      · exact y
      · exact (heap_alloc_old ((w.alloc (.cells (ruC p s a) 29)).alloc (.cells (ruC q t b) 29)) o (lt_of_heap y)).trans y
    exact ⟨cell_row x' 0, cell_row x' 2, cell_row y' 0, cell_row y' 2⟩
  have HOR : Hid (∀ c0 c1, Calls Tryz.prog 45 #[.slice (some ⟨w.heap.size + 1 + 1, 0, none⟩) 2 2] ((((w.alloc (.cells (ruC p s a) 29)).alloc (.cells (ruC q t b) 29)).alloc (.cells #[.int .i64 c0, .int .i64 c1] 3)).drew) fun e w' => e = .returned (.int .i64 (orI [c0, c1])) ∧ w' = (((w.alloc (.cells (ruC p s a) 29)).alloc (.cells (ruC q t b) 29)).alloc (.cells #[.int .i64 c0, .int .i64 c1] 3)).drew) := by
    show ∀ c0 c1, _
    intro c0 c1
    have h := heap_alloc_new ((w.alloc (.cells (ruC p s a) 29)).alloc (.cells (ruC q t b) 29)) (.cells #[.int .i64 c0, .int .i64 c1] 3)
    rw [show ((w.alloc (.cells (ruC p s a) 29)).alloc (.cells (ruC q t b) 29)).heap.size = w.heap.size + 1 + 1 by simp] at h
    have h' : (((w.alloc (.cells (ruC p s a) 29)).alloc (.cells (ruC q t b) 29)).alloc (.cells #[.int .i64 c0, .int .i64 c1] 3)).drew.heap[w.heap.size + 1 + 1]? = _ := h
    exact or2_any c0 c1 (w.heap.size + 1 + 1) _ (cell_row h' 0) (cell_row h' 1)
  unfold ordI
  go_enter Tryz.func24, Tryz.ntmps24
  go_wp2_with fail
  refine wp_region_held_drew (S := (fun W => W.cell? ⟨w.heap.size, 0, none⟩ = some (.int .i64 p) ∧ W.cell? ⟨w.heap.size, 2, none⟩ = some (.int .i64 a) ∧ W.cell? ⟨w.heap.size + 1, 0, none⟩ = some (.int .i64 q) ∧ W.cell? ⟨w.heap.size + 1, 2, none⟩ = some (.int .i64 b))) (by kernel_rfl) ?_ (fun hHeld => ?_)
  · exact KC.out _ ⟨1, .inl rfl⟩
  refine wpAnyH_take (i := 0) (v := ?_) rfl (by kernel_rfl) (by kernel_rfl) (by kernel_rfl) (fun _ _ _ h => h) (Or.inl ⟨by rfl, ?_⟩) (by assumption) ?_
  rotate_left
  · (intro w hSw; (try dsimp only at hSw); go_simp; try with_reducible rfl)
  try simp only [List.getElem_toArray, List.getElem_cons_zero, List.getElem_cons_succ, Act.put, List.setIfInBounds_toArray, List.set_cons_zero, List.set_cons_succ]
  refine wpAnyH_take (i := 1) (v := ?_) rfl (by kernel_rfl) (by kernel_rfl) (by kernel_rfl) (fun _ _ _ h => h) (Or.inl ⟨by rfl, ?_⟩) (by assumption) ?_
  rotate_left
  · (intro w hSw; (try dsimp only at hSw); go_simp; try with_reducible rfl)
  try simp only [List.getElem_toArray, List.getElem_cons_zero, List.getElem_cons_succ, Act.put, List.setIfInBounds_toArray, List.set_cons_zero, List.set_cons_succ]
  refine wpAnyH_take (i := 2) (v := ?_) rfl (by kernel_rfl) (by kernel_rfl) (by kernel_rfl) (fun _ _ _ h => h) (Or.inl ⟨by rfl, ?_⟩) (by assumption) ?_
  rotate_left
  · (intro w hSw; (try dsimp only at hSw); go_simp; try with_reducible rfl)
  try simp only [List.getElem_toArray, List.getElem_cons_zero, List.getElem_cons_succ, Act.put, List.setIfInBounds_toArray, List.set_cons_zero, List.set_cons_succ]
  refine wpAnyH_take (i := 3) (v := ?_) rfl (by kernel_rfl) (by kernel_rfl) (by kernel_rfl) (fun _ _ _ h => h) (Or.inl ⟨by rfl, ?_⟩) (by assumption) ?_
  rotate_left
  · (intro w hSw; (try dsimp only at hSw); go_simp; try with_reducible rfl)
  try simp only [List.getElem_toArray, List.getElem_cons_zero, List.getElem_cons_succ, Act.put, List.setIfInBounds_toArray, List.set_cons_zero, List.set_cons_succ]
  refine wpAnyH_take (i := 5) (v := ?_) rfl (by kernel_rfl) (by kernel_rfl) (by kernel_rfl) (fun _ _ _ h => h) (Or.inl ⟨by rfl, ?_⟩) (by assumption) ?_
  rotate_left
  · (intro w hSw; (try dsimp only at hSw); go_simp; try with_reducible rfl)
  try simp only [List.getElem_toArray, List.getElem_cons_zero, List.getElem_cons_succ, Act.put, List.setIfInBounds_toArray, List.set_cons_zero, List.set_cons_succ]
  refine wpAnyH_take (i := 6) (v := ?_) rfl (by kernel_rfl) (by kernel_rfl) (by kernel_rfl) (fun _ _ _ h => h) (Or.inl ⟨by rfl, ?_⟩) (by assumption) ?_
  rotate_left
  · (intro w hSw; (try dsimp only at hSw); go_simp; try with_reducible rfl)
  try simp only [List.getElem_toArray, List.getElem_cons_zero, List.getElem_cons_succ, Act.put, List.setIfInBounds_toArray, List.set_cons_zero, List.set_cons_succ]
  refine wpAnyH_take (i := 7) (v := ?_) rfl (by kernel_rfl) (by kernel_rfl) (by kernel_rfl) (fun _ _ _ h => h) (Or.inl ⟨by rfl, ?_⟩) (by assumption) ?_
  rotate_left
  · (intro w hSw; (try dsimp only at hSw); go_simp; try with_reducible rfl)
  try simp only [List.getElem_toArray, List.getElem_cons_zero, List.getElem_cons_succ, Act.put, List.setIfInBounds_toArray, List.set_cons_zero, List.set_cons_succ]
  refine wpAnyH_take (i := 8) (v := ?_) rfl (by kernel_rfl) (by kernel_rfl) (by kernel_rfl) (fun _ _ _ h => h) (Or.inl ⟨by rfl, ?_⟩) (by assumption) ?_
  rotate_left
  · (intro w hSw; (try dsimp only at hSw); go_simp; try with_reducible rfl)
  try simp only [List.getElem_toArray, List.getElem_cons_zero, List.getElem_cons_succ, Act.put, List.setIfInBounds_toArray, List.set_cons_zero, List.set_cons_succ]
  refine wpAnyH_ready (rs := [4]) (by kernel_rfl) (by simp) ?_
  refine AllReadyH.cons (o := _) rfl (fun K hK => ?_) AllReadyH.nil
  go_simp
  refine (compare_int _ _ _).mono ?_
  rintro e Wp ⟨rfl, hwp⟩
  rw [hwp]
  clear hwp
  go_wp2_with fail
  refine hK.out _ _ (KC.out _ ⟨1, .inl rfl⟩) (fun hHeld2 => ?_)
  clear hK K hHeld
  have hHeld := hHeld2
  clear hHeld2
  try simp only [List.getElem_toArray, List.getElem_cons_zero, List.getElem_cons_succ, Act.put, List.setIfInBounds_toArray, List.set_cons_zero, List.set_cons_succ]
  refine wpAnyH_ready (rs := [9]) (by kernel_rfl) (by simp) ?_
  refine AllReadyH.cons (o := _) rfl (fun K hK => ?_) AllReadyH.nil
  go_simp
  refine (compare_int _ _ _).mono ?_
  rintro e Wp ⟨rfl, hwp⟩
  rw [hwp]
  clear hwp
  go_wp2_with fail
  refine hK.out _ _ (KC.out _ ⟨1, .inl rfl⟩) (fun hHeld2 => ?_)
  clear hK K hHeld
  have hHeld := hHeld2
  clear hHeld2
  try simp only [List.getElem_toArray, List.getElem_cons_zero, List.getElem_cons_succ, Act.put, List.setIfInBounds_toArray, List.set_cons_zero, List.set_cons_succ]
  refine wpAnyH_ready (rs := [10]) (by kernel_rfl) (by simp) ?_
  refine AllReadyH.cons (o := _) rfl (fun K hK => ?_) AllReadyH.nil
  go_simp
  refine hK.out _ _ (KC.out _ ⟨0, .inr ⟨_, rfl⟩⟩) (fun hHeld2 => ?_)
  clear hK K hHeld
  have hHeld := hHeld2
  clear hHeld2
  try simp only [List.getElem_toArray, List.getElem_cons_zero, List.getElem_cons_succ, Act.put, List.setIfInBounds_toArray, List.set_cons_zero, List.set_cons_succ]
  refine wpAnyH_ready (rs := [11]) (by kernel_rfl) (by simp) ?_
  refine AllReadyH.cons (o := _) rfl (fun K hK => ?_) AllReadyH.nil
  go_simp
  refine (HOR.out _ _).mono ?_
  rintro e Wp ⟨rfl, hwp⟩
  rw [hwp]
  clear hwp
  go_wp2_with fail
  refine hK.out _ _ (KC.out _ ⟨0, .inr ⟨_, rfl⟩⟩) (fun hHeld2 => ?_)
  clear hK K hHeld
  have hHeld := hHeld2
  clear hHeld2
  try simp only [List.getElem_toArray, List.getElem_cons_zero, List.getElem_cons_succ, Act.put, List.setIfInBounds_toArray, List.set_cons_zero, List.set_cons_succ]
  refine wpAnyH_take (i := 12) (v := ?_) rfl (by kernel_rfl) (by kernel_rfl) (by kernel_rfl) (fun _ _ _ h => h) (Or.inl ⟨by rfl, ?_⟩) (by assumption) ?_
  rotate_left
  · (intro w hSw; (try dsimp only at hSw); go_simp; try with_reducible rfl)
  try simp only [List.getElem_toArray, List.getElem_cons_zero, List.getElem_cons_succ, Act.put, List.setIfInBounds_toArray, List.set_cons_zero, List.set_cons_succ]
  clear hHeld
  refine wpAnyH_done (by kernel_rfl) ?_ _
  go_wp2
  go_ret
  exact ⟨rfl, (below3 w _ _ _).drew⟩
theorem eql_pclass (a : Addr) (W : World) : (binOp .eql 24 (.pointer (some a)) (.pointer none)).run Tryz.prog W = .ok (.bool false) W := by
  first | kernel_rfl | simp [binOp, go_sem]
theorem neq_pclass (a : Addr) (W : World) : (binOp .neq 24 (.pointer (some a)) (.pointer none)).run Tryz.prog W = .ok (.bool true) W := by
  first | kernel_rfl | simp [binOp, go_sem]
theorem neq_pclass0 (W : World) : (binOp .neq 24 (.pointer none) (.pointer none)).run Tryz.prog W = .ok (.bool false) W := by
  first | kernel_rfl | simp [binOp, go_sem]
theorem neq_rmap (r : Nat) (W : World) : (binOp .neq 63 (.map (some r)) (.map none)).run Tryz.prog W = .ok (.bool true) W := by
  first | kernel_rfl | simp [binOp, go_sem]
/-- A classifier by its cells. -/
abbrev clC (rb tb : Nat) : Array Value := #[.map (some rb), .map (some tb)]
set_option maxRecDepth 20000 in
set_option maxHeartbeats 1000000 in
theorem isMade_yes {cb rb tb : Nat} {w : World} (h : w.heap[cb]? = some (.cells (clC rb tb) 66 (0, 0))) : Calls Tryz.prog 17 #[.pointer (some ⟨cb, 0, none⟩)] w fun e w' => e = .returned (.bool true) ∧ w' = w := by
  have h1 := neq_pclass
  have h2 := neq_rmap rb
  have c0 : w.cell? ⟨cb, 0, none⟩ = some (.map (some rb)) := cell_row h 0
  clear h
  go_enter Tryz.func17, Tryz.ntmps17
  go_wp2
  go_ret
  exact ⟨rfl, rfl⟩
set_option maxRecDepth 20000 in
set_option maxHeartbeats 1000000 in
theorem isMade_no (w : World) : Calls Tryz.prog 17 #[.pointer none] w fun e w' => e = .returned (.bool false) ∧ w' = w := by
  have h1 := neq_pclass0
  go_enter Tryz.func17, Tryz.ntmps17
  go_wp2
  go_ret
  exact ⟨rfl, rfl⟩
set_option maxRecDepth 20000 in
set_option maxHeartbeats 1000000 in
theorem new_any (w : World) : Calls Tryz.prog 7 #[] w fun e w' => e = .returned (.pointer (some ⟨w.heap.size + 1 + 1, 0, none⟩)) ∧ w' = ((w.alloc (.map #[] 0)).alloc (.map #[] 0)).alloc (.cells (clC w.heap.size (w.heap.size + 1)) 66) := by
  have hmm := @run_makeMap Tryz.prog
  go_enter Tryz.func7, Tryz.ntmps7
  go_wp2
  go_ret
  exact ⟨rfl, rfl⟩
end Go.Proofs.YtijeakggeichcaaGreatDoor
