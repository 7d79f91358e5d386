/- The order of a Program's rows. Conditions: the rows can be read and have no terms. -/
import Derived.Test.YtnahhmcmahbnkaaGreatDoorWL
import Derived.Deep.DeepMust
import Derived.Deep.RegionHeld
import Derived.Lib.Hide
namespace Go.Proofs.YtnahhmcmahbnkaaGreatDoor
open Go.RowKit Go.Sort
theorem isNaN_str (s : ByteArray) (w : World) : Calls Tryz.prog 54 #[.string s] w fun e w' => e = .returned (.bool false) ∧ w' = w := by
  go_enter Tryz.func54, Tryz.ntmps54
  go_wp2
  go_ret
  exact ⟨by simp, rfl⟩
set_option maxRecDepth 20000 in
theorem compare_none (w : World) : Calls Tryz.prog 32 #[.string ⟨#[]⟩, .string ⟨#[]⟩] w fun e w' => e = .returned (.int .i64 0) ∧ w' = w := by
  have h1 := isNaN_str ⟨#[]⟩ w
  go_enter Tryz.func32, Tryz.ntmps32
  go_wp2_with (go_at_call 54; first | (refine h1.mono ?_; rintro e w' ⟨rfl, rfl⟩) | fail)
  go_ret
  exact ⟨rfl, rfl⟩
set_option maxRecDepth 20000 in
set_option maxHeartbeats 2000000 in
theorem or3_any (c0 c1 c2 : Int) (g : Nat) (w : World) (h0 : w.cell? ⟨g, 0, none⟩ = some (.int .i64 c0)) (h1 : w.cell? ⟨g, 1, none⟩ = some (.int .i64 c1)) (h2 : w.cell? ⟨g, 2, none⟩ = some (.int .i64 c2)) :
    Calls Tryz.prog 30 #[.slice (some ⟨g, 0, none⟩) 3 3] w fun e w' => e = .returned (.int .i64 (orI [c0, c1, c2])) ∧ w' = w := by
  by_cases d0 : c0 = 0
  rotate_left
  · go_enter Tryz.func30, Tryz.ntmps30
    go_wp2
    go_rounds 1
    all_goals go_wp2
    all_goals go_ret
    all_goals exact ⟨by simp [orI, d0], rfl⟩
  by_cases d1 : c1 = 0
  rotate_left
  · go_enter Tryz.func30, Tryz.ntmps30
    go_wp2
    go_rounds 2
    all_goals go_wp2
    all_goals go_ret
    all_goals exact ⟨by simp [orI, d0, d1], rfl⟩
  by_cases d2 : c2 = 0
  · go_enter Tryz.func30, Tryz.ntmps30
    go_wp2
    go_rounds 4
    all_goals go_wp2
    all_goals go_ret
    all_goals exact ⟨by simp [orI, d0, d1, d2], rfl⟩
  · go_enter Tryz.func30, Tryz.ntmps30
    go_wp2
    go_rounds 3
    all_goals go_wp2
    all_goals go_ret
    all_goals exact ⟨by simp [orI, d0, d1, d2], rfl⟩
def ordR (t p u q : Int) : Int := orI [cmpI t u, cmpI q p, 0]
set_option linter.unusedSimpArgs false in
set_option maxRecDepth 20000 in
set_option maxHeartbeats 4000000 in
theorem rowOrder_any (x y : Nat) (t p u q : Int) (a b : Value) (w : World) (hx : w.heap[x]? = some (.cells (rwC t p (.slice none 0 0) a ⟨#[]⟩) 84 (0, 0))) (hy : w.heap[y]? = some (.cells (rwC u q (.slice none 0 0) b ⟨#[]⟩) 84 (0, 0))) :
    Calls Tryz.prog 15 #[.pointer (some ⟨x, 0, none⟩), .pointer (some ⟨y, 0, none⟩)] w fun e w' => e = .returned (.int .i64 (ordR t p u q)) ∧ ∃ n os, w' = grow (w.drewN n) os := by
  have KX : Hid (∀ W : World, (∀ k, k < w.heap.size → W.heap[k]? = w.heap[k]?) → (fun W : World => (W.cell? ⟨x, 0, none⟩ = some (.int .i64 t) ∧ W.cell? ⟨x, 1, none⟩ = some (.int .i64 p) ∧ W.cell? ⟨x, 4, none⟩ = some (.string ⟨#[]⟩)) ∧ W.cell? ⟨y, 0, none⟩ = some (.int .i64 u) ∧ W.cell? ⟨y, 1, none⟩ = some (.int .i64 q) ∧ W.cell? ⟨y, 4, none⟩ = some (.string ⟨#[]⟩)) W) := fun W h => ⟨⟨cell_row ((h _ (lt_of_heap hx)).trans hx) 0, cell_row ((h _ (lt_of_heap hx)).trans hx) 1, cell_row ((h _ (lt_of_heap hx)).trans hx) 4⟩, cell_row ((h _ (lt_of_heap hy)).trans hy) 0, cell_row ((h _ (lt_of_heap hy)).trans hy) 1, cell_row ((h _ (lt_of_heap hy)).trans hy) 4⟩
  have HOR : Hid (∀ c0 c1 c2, Calls Tryz.prog 30 #[.slice (some ⟨w.heap.size, 0, none⟩) 3 3] ((w.alloc (.cells #[.int .i64 c0, .int .i64 c1, .int .i64 c2] 3)).drew) fun e w' => e = .returned (.int .i64 (orI [c0, c1, c2])) ∧ w' = (w.alloc (.cells #[.int .i64 c0, .int .i64 c1, .int .i64 c2] 3)).drew) := by
    show ∀ c0 c1 c2, _
    intro c0 c1 c2
    have h := heap_alloc_new w (.cells #[.int .i64 c0, .int .i64 c1, .int .i64 c2] 3)
    have h' : (w.alloc (.cells #[.int .i64 c0, .int .i64 c1, .int .i64 c2] 3)).drew.heap[w.heap.size]? = _ := h
    exact or3_any c0 c1 c2 w.heap.size _ (cell_row h' 0) (cell_row h' 1) (cell_row h' 2)
  clear hx hy
  unfold ordR
  go_enter Tryz.func15, Tryz.ntmps15
  go_wp2_with fail
  refine wp_region_held_drew (S := (fun W : World => (W.cell? ⟨x, 0, none⟩ = some (.int .i64 t) ∧ W.cell? ⟨x, 1, none⟩ = some (.int .i64 p) ∧ W.cell? ⟨x, 4, none⟩ = some (.string ⟨#[]⟩)) ∧ W.cell? ⟨y, 0, none⟩ = some (.int .i64 u) ∧ W.cell? ⟨y, 1, none⟩ = some (.int .i64 q) ∧ W.cell? ⟨y, 4, none⟩ = some (.string ⟨#[]⟩))) (by kernel_rfl) ?_ (fun hHeld => ?_)
  · exact KX.out _ (fun _ _ => rfl)
  refine wpAnyH_take (i := 0) (v := ?_) rfl (by kernel_rfl) (by kernel_rfl) (by kernel_rfl) (fun _ _ _ h => h) (Or.inl ⟨by rfl, ?_⟩) (by assumption) ?_
  rotate_left
  · (intro w hSw; (try dsimp only at hSw); go_simp; try with_reducible rfl)
  try simp only [List.getElem_toArray, List.getElem_cons_zero, List.getElem_cons_succ, Act.put, List.setIfInBounds_toArray, List.set_cons_zero, List.set_cons_succ]
  refine wpAnyH_take (i := 1) (v := ?_) rfl (by kernel_rfl) (by kernel_rfl) (by kernel_rfl) (fun _ _ _ h => h) (Or.inl ⟨by rfl, ?_⟩) (by assumption) ?_
  rotate_left
  · (intro w hSw; (try dsimp only at hSw); go_simp; try with_reducible rfl)
  try simp only [List.getElem_toArray, List.getElem_cons_zero, List.getElem_cons_succ, Act.put, List.setIfInBounds_toArray, List.set_cons_zero, List.set_cons_succ]
  refine wpAnyH_take (i := 2) (v := ?_) rfl (by kernel_rfl) (by kernel_rfl) (by kernel_rfl) (fun _ _ _ h => h) (Or.inl ⟨by rfl, ?_⟩) (by assumption) ?_
  rotate_left
  · (intro w hSw; (try dsimp only at hSw); go_simp; try with_reducible rfl)
  try simp only [List.getElem_toArray, List.getElem_cons_zero, List.getElem_cons_succ, Act.put, List.setIfInBounds_toArray, List.set_cons_zero, List.set_cons_succ]
  refine wpAnyH_take (i := 3) (v := ?_) rfl (by kernel_rfl) (by kernel_rfl) (by kernel_rfl) (fun _ _ _ h => h) (Or.inl ⟨by rfl, ?_⟩) (by assumption) ?_
  rotate_left
  · (intro w hSw; (try dsimp only at hSw); go_simp; try with_reducible rfl)
  try simp only [List.getElem_toArray, List.getElem_cons_zero, List.getElem_cons_succ, Act.put, List.setIfInBounds_toArray, List.set_cons_zero, List.set_cons_succ]
  refine wpAnyH_take (i := 4) (v := ?_) rfl (by kernel_rfl) (by kernel_rfl) (by kernel_rfl) (fun _ _ _ h => h) (Or.inl ⟨by rfl, ?_⟩) (by assumption) ?_
  rotate_left
  · (intro w hSw; (try dsimp only at hSw); go_simp; try with_reducible rfl)
  try simp only [List.getElem_toArray, List.getElem_cons_zero, List.getElem_cons_succ, Act.put, List.setIfInBounds_toArray, List.set_cons_zero, List.set_cons_succ]
  refine wpAnyH_take (i := 5) (v := ?_) rfl (by kernel_rfl) (by kernel_rfl) (by kernel_rfl) (fun _ _ _ h => h) (Or.inl ⟨by rfl, ?_⟩) (by assumption) ?_
  rotate_left
  · (intro w hSw; (try dsimp only at hSw); go_simp; try with_reducible rfl)
  try simp only [List.getElem_toArray, List.getElem_cons_zero, List.getElem_cons_succ, Act.put, List.setIfInBounds_toArray, List.set_cons_zero, List.set_cons_succ]
  refine wpAnyH_take (i := 6) (v := ?_) rfl (by kernel_rfl) (by kernel_rfl) (by kernel_rfl) (fun _ _ _ h => h) (Or.inl ⟨by rfl, ?_⟩) (by assumption) ?_
  rotate_left
  · (intro w hSw; (try dsimp only at hSw); go_simp; try with_reducible rfl)
  try simp only [List.getElem_toArray, List.getElem_cons_zero, List.getElem_cons_succ, Act.put, List.setIfInBounds_toArray, List.set_cons_zero, List.set_cons_succ]
  refine wpAnyH_take (i := 7) (v := ?_) rfl (by kernel_rfl) (by kernel_rfl) (by kernel_rfl) (fun _ _ _ h => h) (Or.inl ⟨by rfl, ?_⟩) (by assumption) ?_
  rotate_left
  · (intro w hSw; (try dsimp only at hSw); go_simp; try with_reducible rfl)
  try simp only [List.getElem_toArray, List.getElem_cons_zero, List.getElem_cons_succ, Act.put, List.setIfInBounds_toArray, List.set_cons_zero, List.set_cons_succ]
  refine wpAnyH_take (i := 8) (v := ?_) rfl (by kernel_rfl) (by kernel_rfl) (by kernel_rfl) (fun _ _ _ h => h) (Or.inl ⟨by rfl, ?_⟩) (by assumption) ?_
  rotate_left
  · (intro w hSw; (try dsimp only at hSw); go_simp; try with_reducible rfl)
  try simp only [List.getElem_toArray, List.getElem_cons_zero, List.getElem_cons_succ, Act.put, List.setIfInBounds_toArray, List.set_cons_zero, List.set_cons_succ]
  refine wpAnyH_take (i := 9) (v := ?_) rfl (by kernel_rfl) (by kernel_rfl) (by kernel_rfl) (fun _ _ _ h => h) (Or.inl ⟨by rfl, ?_⟩) (by assumption) ?_
  rotate_left
  · (intro w hSw; (try dsimp only at hSw); go_simp; try with_reducible rfl)
  try simp only [List.getElem_toArray, List.getElem_cons_zero, List.getElem_cons_succ, Act.put, List.setIfInBounds_toArray, List.set_cons_zero, List.set_cons_succ]
  refine wpAnyH_take (i := 11) (v := ?_) rfl (by kernel_rfl) (by kernel_rfl) (by kernel_rfl) (fun _ _ _ h => h) (Or.inl ⟨by rfl, ?_⟩) (by assumption) ?_
  rotate_left
  · (intro w hSw; (try dsimp only at hSw); go_simp; try with_reducible rfl)
  try simp only [List.getElem_toArray, List.getElem_cons_zero, List.getElem_cons_succ, Act.put, List.setIfInBounds_toArray, List.set_cons_zero, List.set_cons_succ]
  refine wpAnyH_take (i := 12) (v := ?_) rfl (by kernel_rfl) (by kernel_rfl) (by kernel_rfl) (fun _ _ _ h => h) (Or.inl ⟨by rfl, ?_⟩) (by assumption) ?_
  rotate_left
  · (intro w hSw; (try dsimp only at hSw); go_simp; try with_reducible rfl)
  try simp only [List.getElem_toArray, List.getElem_cons_zero, List.getElem_cons_succ, Act.put, List.setIfInBounds_toArray, List.set_cons_zero, List.set_cons_succ]
  refine wpAnyH_take (i := 13) (v := ?_) rfl (by kernel_rfl) (by kernel_rfl) (by kernel_rfl) (fun _ _ _ h => h) (Or.inl ⟨by rfl, ?_⟩) (by assumption) ?_
  rotate_left
  · (intro w hSw; (try dsimp only at hSw); go_simp; try with_reducible rfl)
  try simp only [List.getElem_toArray, List.getElem_cons_zero, List.getElem_cons_succ, Act.put, List.setIfInBounds_toArray, List.set_cons_zero, List.set_cons_succ]
  refine wpAnyH_take (i := 14) (v := ?_) rfl (by kernel_rfl) (by kernel_rfl) (by kernel_rfl) (fun _ _ _ h => h) (Or.inl ⟨by rfl, ?_⟩) (by assumption) ?_
  rotate_left
  · (intro w hSw; (try dsimp only at hSw); go_simp; try with_reducible rfl)
  try simp only [List.getElem_toArray, List.getElem_cons_zero, List.getElem_cons_succ, Act.put, List.setIfInBounds_toArray, List.set_cons_zero, List.set_cons_succ]
  refine wpAnyH_take (i := 15) (v := ?_) rfl (by kernel_rfl) (by kernel_rfl) (by kernel_rfl) (fun _ _ _ h => h) (Or.inl ⟨by rfl, ?_⟩) (by assumption) ?_
  rotate_left
  · (intro w hSw; (try dsimp only at hSw); go_simp; try with_reducible rfl)
  try simp only [List.getElem_toArray, List.getElem_cons_zero, List.getElem_cons_succ, Act.put, List.setIfInBounds_toArray, List.set_cons_zero, List.set_cons_succ]
  refine wpAnyH_take (i := 16) (v := ?_) rfl (by kernel_rfl) (by kernel_rfl) (by kernel_rfl) (fun _ _ _ h => h) (Or.inl ⟨by rfl, ?_⟩) (by assumption) ?_
  rotate_left
  · (intro w hSw; (try dsimp only at hSw); go_simp; try with_reducible rfl)
  try simp only [List.getElem_toArray, List.getElem_cons_zero, List.getElem_cons_succ, Act.put, List.setIfInBounds_toArray, List.set_cons_zero, List.set_cons_succ]
  refine wpAnyH_take (i := 17) (v := ?_) rfl (by kernel_rfl) (by kernel_rfl) (by kernel_rfl) (fun _ _ _ h => h) (Or.inl ⟨by rfl, ?_⟩) (by assumption) ?_
  rotate_left
  · (intro w hSw; (try dsimp only at hSw); go_simp; try with_reducible rfl)
  try simp only [List.getElem_toArray, List.getElem_cons_zero, List.getElem_cons_succ, Act.put, List.setIfInBounds_toArray, List.set_cons_zero, List.set_cons_succ]
  refine wpAnyH_take (i := 18) (v := ?_) rfl (by kernel_rfl) (by kernel_rfl) (by kernel_rfl) (fun _ _ _ h => h) (Or.inl ⟨by rfl, ?_⟩) (by assumption) ?_
  rotate_left
  · (intro w hSw; (try dsimp only at hSw); go_simp; try with_reducible rfl)
  try simp only [List.getElem_toArray, List.getElem_cons_zero, List.getElem_cons_succ, Act.put, List.setIfInBounds_toArray, List.set_cons_zero, List.set_cons_succ]
  refine wpAnyH_take (i := 19) (v := ?_) rfl (by kernel_rfl) (by kernel_rfl) (by kernel_rfl) (fun _ _ _ h => h) (Or.inl ⟨by rfl, ?_⟩) (by assumption) ?_
  rotate_left
  · (intro w hSw; (try dsimp only at hSw); go_simp; try with_reducible rfl)
  try simp only [List.getElem_toArray, List.getElem_cons_zero, List.getElem_cons_succ, Act.put, List.setIfInBounds_toArray, List.set_cons_zero, List.set_cons_succ]
  refine wpAnyH_take (i := 20) (v := ?_) rfl (by kernel_rfl) (by kernel_rfl) (by kernel_rfl) (fun _ _ _ h => h) (Or.inl ⟨by rfl, ?_⟩) (by assumption) ?_
  rotate_left
  · (intro w hSw; (try dsimp only at hSw); go_simp; try with_reducible rfl)
  try simp only [List.getElem_toArray, List.getElem_cons_zero, List.getElem_cons_succ, Act.put, List.setIfInBounds_toArray, List.set_cons_zero, List.set_cons_succ]
  refine wpAnyH_take (i := 22) (v := ?_) rfl (by kernel_rfl) (by kernel_rfl) (by kernel_rfl) (fun _ _ _ h => h) (Or.inl ⟨by rfl, ?_⟩) (by assumption) ?_
  rotate_left
  · (intro w hSw; (try dsimp only at hSw); go_simp; try with_reducible rfl)
  try simp only [List.getElem_toArray, List.getElem_cons_zero, List.getElem_cons_succ, Act.put, List.setIfInBounds_toArray, List.set_cons_zero, List.set_cons_succ]
  refine wpAnyH_take (i := 23) (v := ?_) rfl (by kernel_rfl) (by kernel_rfl) (by kernel_rfl) (fun _ _ _ h => h) (Or.inl ⟨by rfl, ?_⟩) (by assumption) ?_
  rotate_left
  · (intro w hSw; (try dsimp only at hSw); go_simp; try with_reducible rfl)
  try simp only [List.getElem_toArray, List.getElem_cons_zero, List.getElem_cons_succ, Act.put, List.setIfInBounds_toArray, List.set_cons_zero, List.set_cons_succ]
  refine wpAnyH_take (i := 24) (v := ?_) rfl (by kernel_rfl) (by kernel_rfl) (by kernel_rfl) (fun _ _ _ h => h) (Or.inl ⟨by rfl, ?_⟩) (by assumption) ?_
  rotate_left
  · (intro w hSw; (try dsimp only at hSw); go_simp; try with_reducible rfl)
  try simp only [List.getElem_toArray, List.getElem_cons_zero, List.getElem_cons_succ, Act.put, List.setIfInBounds_toArray, List.set_cons_zero, List.set_cons_succ]
  refine wpAnyH_take (i := 25) (v := ?_) rfl (by kernel_rfl) (by kernel_rfl) (by kernel_rfl) (fun _ _ _ h => h) (Or.inl ⟨by rfl, ?_⟩) (by assumption) ?_
  rotate_left
  · (intro w hSw; (try dsimp only at hSw); go_simp; try with_reducible rfl)
  try simp only [List.getElem_toArray, List.getElem_cons_zero, List.getElem_cons_succ, Act.put, List.setIfInBounds_toArray, List.set_cons_zero, List.set_cons_succ]
  refine wpAnyH_take (i := 26) (v := ?_) rfl (by kernel_rfl) (by kernel_rfl) (by kernel_rfl) (fun _ _ _ h => h) (Or.inl ⟨by rfl, ?_⟩) (by assumption) ?_
  rotate_left
  · (intro w hSw; (try dsimp only at hSw); go_simp; try with_reducible rfl)
  try simp only [List.getElem_toArray, List.getElem_cons_zero, List.getElem_cons_succ, Act.put, List.setIfInBounds_toArray, List.set_cons_zero, List.set_cons_succ]
  refine wpAnyH_take (i := 27) (v := ?_) rfl (by kernel_rfl) (by kernel_rfl) (by kernel_rfl) (fun _ _ _ h => h) (Or.inl ⟨by rfl, ?_⟩) (by assumption) ?_
  rotate_left
  · (intro w hSw; (try dsimp only at hSw); go_simp; try with_reducible rfl)
  try simp only [List.getElem_toArray, List.getElem_cons_zero, List.getElem_cons_succ, Act.put, List.setIfInBounds_toArray, List.set_cons_zero, List.set_cons_succ]
  refine wpAnyH_take (i := 28) (v := ?_) rfl (by kernel_rfl) (by kernel_rfl) (by kernel_rfl) (fun _ _ _ h => h) (Or.inl ⟨by rfl, ?_⟩) (by assumption) ?_
  rotate_left
  · (intro w hSw; (try dsimp only at hSw); go_simp; try with_reducible rfl)
  try simp only [List.getElem_toArray, List.getElem_cons_zero, List.getElem_cons_succ, Act.put, List.setIfInBounds_toArray, List.set_cons_zero, List.set_cons_succ]
  refine wpAnyH_take (i := 29) (v := ?_) rfl (by kernel_rfl) (by kernel_rfl) (by kernel_rfl) (fun _ _ _ h => h) (Or.inl ⟨by rfl, ?_⟩) (by assumption) ?_
  rotate_left
  · (intro w hSw; (try dsimp only at hSw); go_simp; try with_reducible rfl)
  try simp only [List.getElem_toArray, List.getElem_cons_zero, List.getElem_cons_succ, Act.put, List.setIfInBounds_toArray, List.set_cons_zero, List.set_cons_succ]
  refine wpAnyH_ready (rs := [10]) (by kernel_rfl) (by simp) ?_
  refine AllReadyH.cons (o := _) rfl (fun K hK => ?_) AllReadyH.nil
  go_simp
  refine (compare_int t u _).mono ?_
  rintro e Wp ⟨rfl, hwp⟩
  rw [hwp]
  clear hwp
  go_wp2_with fail
  refine hK.out _ _ (hHeld) (fun hHeld2 => ?_)
  clear hK K hHeld
  have hHeld := hHeld2
  clear hHeld2
  try simp only [List.getElem_toArray, List.getElem_cons_zero, List.getElem_cons_succ, Act.put, List.setIfInBounds_toArray, List.set_cons_zero, List.set_cons_succ]
  refine wpAnyH_ready (rs := [21]) (by kernel_rfl) (by simp) ?_
  refine AllReadyH.cons (o := _) rfl (fun K hK => ?_) AllReadyH.nil
  go_simp
  refine (compare_int q p _).mono ?_
  rintro e Wp ⟨rfl, hwp⟩
  rw [hwp]
  clear hwp
  go_wp2_with fail
  refine hK.out _ _ (hHeld) (fun hHeld2 => ?_)
  clear hK K hHeld
  have hHeld := hHeld2
  clear hHeld2
  try simp only [List.getElem_toArray, List.getElem_cons_zero, List.getElem_cons_succ, Act.put, List.setIfInBounds_toArray, List.set_cons_zero, List.set_cons_succ]
  refine wpAnyH_ready (rs := [30]) (by kernel_rfl) (by simp) ?_
  refine AllReadyH.cons (o := _) rfl (fun K hK => ?_) AllReadyH.nil
  go_simp
  refine (compare_none _).mono ?_
  rintro e Wp ⟨rfl, hwp⟩
  rw [hwp]
  clear hwp
  go_wp2_with fail
  refine hK.out _ _ (hHeld) (fun hHeld2 => ?_)
  clear hK K hHeld
  have hHeld := hHeld2
  clear hHeld2
  try simp only [List.getElem_toArray, List.getElem_cons_zero, List.getElem_cons_succ, Act.put, List.setIfInBounds_toArray, List.set_cons_zero, List.set_cons_succ]
  refine wpAnyH_ready (rs := [31]) (by kernel_rfl) (by simp) ?_
  refine AllReadyH.cons (o := _) rfl (fun K hK => ?_) AllReadyH.nil
  go_simp
  refine hK.out _ _ (KX.out _ (fun k hk => heap_alloc_old w _ hk)) (fun hHeld2 => ?_)
  clear hK K hHeld
  have hHeld := hHeld2
  clear hHeld2
  try simp only [List.getElem_toArray, List.getElem_cons_zero, List.getElem_cons_succ, Act.put, List.setIfInBounds_toArray, List.set_cons_zero, List.set_cons_succ]
  refine wpAnyH_ready (rs := [32]) (by kernel_rfl) (by simp) ?_
  refine AllReadyH.cons (o := _) rfl (fun K hK => ?_) AllReadyH.nil
  go_simp
  refine Calls.mono (HOR.out _ _ _) ?_
  rintro e Wp ⟨rfl, hwp⟩
  rw [hwp]
  clear hwp
  go_wp2_with fail
  refine hK.out _ _ (KX.out _ (fun k hk => heap_alloc_old w _ hk)) (fun hHeld2 => ?_)
  clear hK K hHeld
  have hHeld := hHeld2
  clear hHeld2
  try simp only [List.getElem_toArray, List.getElem_cons_zero, List.getElem_cons_succ, Act.put, List.setIfInBounds_toArray, List.set_cons_zero, List.set_cons_succ]
  refine wpAnyH_take (i := 33) (v := ?_) rfl (by kernel_rfl) (by kernel_rfl) (by kernel_rfl) (fun _ _ _ h => h) (Or.inl ⟨by rfl, ?_⟩) (by assumption) ?_
  rotate_left
  · (intro w hSw; (try dsimp only at hSw); go_simp; try with_reducible rfl)
  try simp only [List.getElem_toArray, List.getElem_cons_zero, List.getElem_cons_succ, Act.put, List.setIfInBounds_toArray, List.set_cons_zero, List.set_cons_succ]
  clear hHeld
  refine wpAnyH_done (by kernel_rfl) ?_ _
  go_wp2
  go_ret
  exact ⟨rfl, 1, #[.cells #[.int .i64 (cmpI t u), .int .i64 (cmpI q p), .int .i64 0] 3], by simp only [alloc_eq_grow]; rfl⟩
end Go.Proofs.YtnahhmcmahbnkaaGreatDoor
/- A Program's rows in their order. Conditions: as said. -/
namespace Go.Proofs.YtnahhmcmahbnkaaGreatDoor
open Go.RowKit Go.Shelf Go.Sort
def intAt (v : Option Value) : Int := match v with | some (.int _ z) => z | _ => 0
def keyT (W : World) (x : Nat) : Int := intAt (W.cell? ⟨x, 0, none⟩)
def keyP (W : World) (x : Nat) : Int := intAt (W.cell? ⟨x, 1, none⟩)
theorem ordR_neg (t p u q : Int) : ordR t p u q < 0 ↔ t < u ∨ (t = u ∧ q < p) := by
  unfold ordR
  rw [orI_neg, orI_neg, orI_neg, cmpI_neg, cmpI_zero, cmpI_neg, cmpI_zero]
  have h0 : ¬ orI [] < 0 := orI_nil
  constructor
  · rintro (h | ⟨h, h2 | ⟨_, h3 | ⟨_, h4⟩⟩⟩)
    · exact .inl h
    · exact .inr ⟨h, h2⟩
    · omega
    · exact absurd h4 h0
  · rintro (h | ⟨h, h2⟩)
    · exact .inl h
    · exact .inr ⟨h, .inl h2⟩
theorem perm_ptrs {l : List (ByteArray × Value × Nat)} {bs xs : List Nat} {ys : List (ByteArray × Value × Nat)} (hl : l.map (·.2.1) = bs.map pv) (hp : ys.Perm l) (he : ys.map (·.2.1) = xs.map pv) : xs.Perm bs := by
  have h1 : (xs.map pv).Perm (bs.map pv) := by rw [← he, ← hl]; exact hp.map _
  have h2 := h1.map (fun v : Value => match v with | .pointer (some a) => a.block | _ => 0)
  simpa [List.map_map, Function.comp_def, pv] using h2
set_option maxRecDepth 100000 in
set_option maxHeartbeats 4000000 in
theorem sorted_rows {w W0 : World} {T P : Nat → Int} {N : Nat → ByteArray} {R : Nat → Nat → World → Value → Prop} {n : Nat} {b : Nat → Nat} (h : Rws w T P N R n b W0) (hn : n ≤ 65536) :
    Calls Tryz.prog 13 #[.func (Fn.func 29) #[] #[.pointer (some ⟨W0.heap.size, 0, none⟩)], .func (Fn.func 15) #[] #[]] (W0.alloc (.cells #[.map (some w.heap.size)] 68)) fun e W' => ∃ (v : Value) (ys : List Nat), e = .returned v ∧ ys.Perm ((List.range n).map b) ∧ ys.Pairwise (fun x y => 0 ≤ ordR (keyT W0 y) (keyP W0 y) (keyT W0 x) (keyP W0 x)) ∧ W'.ownsRow W0.heap.size 73 1 v ys.length (ys.map pv) ∧ Below W0.heap.size W0 W' := by
  have hcell : (W0.alloc (.cells #[.map (some w.heap.size)] 68)).cell? ⟨W0.heap.size, 0, none⟩ = some (.map (some w.heap.size)) := cell_row (heap_alloc_new W0 _) 0
  have b1 := below1 W0 (.cells #[.map (some w.heap.size)] 68)
  have hlm := lt_of_heap h.map
  have hl : ((List.range n).map fun i => (N i, Value.pointer (some ⟨b i, 0, none⟩), i)).map (·.2.1) = ((List.range n).map b).map pv := by simp [List.map_map, Function.comp_def, pv]
  have hrow : ∀ i, i < n → ∃ ac, W0.heap[b i]? = some (.cells (rwC (T i) (P i) (.slice none 0 0) ac ⟨#[]⟩) 84 (0, 0)) := fun i hi => by
    obtain ⟨ac, _, r1, _⟩ := h.rows i hi
    exact ⟨ac, r1⟩
  have := sortedFunc_pdpathrow (gf := 29) (G := 15) (lb := #[.pointer (some ⟨W0.heap.size, 0, none⟩)]) (S := fun xs => ∃ ys : List (ByteArray × Value × Nat), ys.Perm ((List.range n).map fun i => (N i, Value.pointer (some ⟨b i, 0, none⟩), i)) ∧ ys.map (·.2.1) = xs.map pv) (N := ((List.range n).map fun i => (N i, Value.pointer (some ⟨b i, 0, none⟩), i)).length) (W0.alloc (.cells #[.map (some w.heap.size)] 68)) (by simp; omega)
    (enters_of Tryz.func29 (by kernel_rfl) rfl)
    (fun W hW => vals1_pdpathrow (c := n) (rb := w.heap.size) 5 ((hW.cell (p := ⟨W0.heap.size, 0, none⟩) (by simp)).trans hcell) ((hW.block w.heap.size (by simp; omega)).trans ((heap_alloc_old _ _ hlm).trans h.map)) (by simp; omega) hW.size
      (fun x hx => by obtain ⟨i, hi, rfl⟩ := List.mem_map.1 hx; simpa using hi) (by simpa [List.map_map, Function.comp_def] using List.nodup_range) (fun x hx => by obtain ⟨i, hi, rfl⟩ := List.mem_map.1 hx; exact ⟨b i, rfl⟩) (by omega))
    (fun x => ∃ i, i < n ∧ x = b i) (fun x y => ordR (keyT W0 x) (keyP W0 x) (keyT W0 y) (keyP W0 y)) (enters_of Tryz.func15 (by kernel_rfl) rfl)
    (fun xs hxs => by
      obtain ⟨ys, hp, he⟩ := hxs
      have hpp := perm_ptrs hl hp he
      refine ⟨by have := hpp.length_eq; simp at this; omega, fun y hy => ?_⟩
      obtain ⟨i, hi, rfl⟩ := List.mem_map.1 (hpp.subset hy)
      exact ⟨i, by simpa using hi, rfl⟩)
    (fun W hW x y hx hy => by
      obtain ⟨i, hi, rfl⟩ := hx
      obtain ⟨j, hj, rfl⟩ := hy
      obtain ⟨ai, hri⟩ := hrow i hi
      obtain ⟨aj, hrj⟩ := hrow j hj
      have e1 : keyT W0 (b i) = T i := by unfold keyT; rw [cell_row hri]; rfl
      have e2 : keyP W0 (b i) = P i := by unfold keyP; rw [cell_row hri]; rfl
      have e3 : keyT W0 (b j) = T j := by unfold keyT; rw [cell_row hrj]; rfl
      have e4 : keyP W0 (b j) = P j := by unfold keyP; rw [cell_row hrj]; rfl
      rw [e1, e2, e3, e4]
      have bw := b1.trans (hW.mono (by simp))
      exact rowOrder_any (b i) (b j) (T i) (P i) (T j) (P j) ai aj W ((bw.block _ (lt_of_heap hri)).trans hri) ((bw.block _ (lt_of_heap hrj)).trans hrj))
    ⟨fun x => by rw [decide_eq_false_iff_not, ordR_neg]; omega, fun x y z h1 h2 => by rw [decide_eq_true_eq, ordR_neg] at *; omega, fun x y z h1 h2 => by rw [decide_eq_false_iff_not, ordR_neg] at *; omega⟩
  refine Calls.mono this ?_
  rintro e W' ⟨v, xs, ys, rfl, ⟨zs, hp, he⟩, hperm, hpw, hown, hb⟩
  exact ⟨v, ys, rfl, hperm.trans (perm_ptrs hl hp he), hpw, own_base hown (by simp), b1.trans (hb.mono (by simp))⟩
end Go.Proofs.YtnahhmcmahbnkaaGreatDoor
