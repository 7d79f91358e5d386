/- A flow laid into a table that has none. Conditions: as said. -/
import Derived.Test.YtnahhmcmahbnkaaGreatDoorGXAtoXB
import Derived.Deep.DeepMust
import Derived.Deep.RegionHeld
import Derived.Lib.Hide
import Derived.Test.YtnahhmcmahbnkaaGreatDoorWL
namespace Go.Proofs.YtnahhmcmahbnkaaGreatDoor
open Go.RowKit
theorem cl_new (w : World) (n : Nat) (h : n ≤ w.heap.size) : Cl (((w.alloc (.map #[] 0)).alloc (.map #[] 0)).alloc (.cells (clC w.heap.size (w.heap.size + 1)) 145)) n (w.heap.size + 1 + 1) w.heap.size (w.heap.size + 1) 0 0 [] [] := by
  have s0 : (w.alloc (.map #[] 0)).heap.size = w.heap.size + 1 := by simp
  have s1 : ((w.alloc (.map #[] 0)).alloc (.map #[] 0)).heap.size = w.heap.size + 1 + 1 := by simp
  refine ⟨?_, ?_, ?_, by omega, h, by omega, fun x hx => by simp at hx, by simp⟩
  · have := heap_alloc_new ((w.alloc (.map #[] 0)).alloc (.map #[] 0)) (.cells (clC w.heap.size (w.heap.size + 1)) 145)
    rw [s1] at this; exact this
  · rw [heap_alloc_old _ _ (by rw [s1]; omega), heap_alloc_old _ _ (by rw [s0]; omega)]
    exact heap_alloc_new _ _
  · rw [heap_alloc_old _ _ (by rw [s1]; omega)]
    have := heap_alloc_new (w.alloc (.map #[] 0)) (.map #[] 0)
    rw [s0] at this; exact this

theorem eql_pclassN (W : World) : (binOp .eql 78 (.pointer none) (.pointer none)).run Tryz.prog W = .ok (.bool true) W := by
  first | kernel_rfl | simp [binOp, go_sem]
set_option linter.unusedSimpArgs false in
set_option maxRecDepth 100000 in
set_option maxHeartbeats 4000000 in
theorem lay_new (pb t : Nat) (A : Array Value) (ht : t < 64) (p id : Int) (fa : Option Addr) (fm fk : Nat) (w : World) (hA : w.heap[pb]? = some (.cells A 81 (0, 0))) (hc : A[2 + t]? = some (.pointer none)) (hp : 0 ≤ p) (hp2 : p ≤ 65535) (hid : 1 ≤ id) :
    Calls Tryz.prog 16 #[.pointer (some ⟨pb, 0, none⟩), .agg (flC (t : Int) p (.slice none 0 0) (.slice fa fm fk)), .int .i64 id] w fun e w' => e = .returned (.tuple #[]) ∧ ∃ cb rb tm eb tb qb B, w.heap.size < B ∧ Cl w' B cb rb tm 1 1 [(id, .pointer (some ⟨eb, 0, none⟩), 0)] [(⟨#[]⟩, .pointer (some ⟨tb, 0, none⟩), 0)] ∧ TupOk w' (⟨#[]⟩, .pointer (some ⟨tb, 0, none⟩), 0) [] [(keyS [], .pointer (some ⟨qb, 0, none⟩), 0)] ∧ EntAt w' eb p id [] ∧ FirstQ w' (.pointer (some ⟨qb, 0, none⟩)) eb ∧ w'.heap[pb]? = some (.cells (A.setIfInBounds (2 + t) (.pointer (some ⟨cb, 0, none⟩))) 81 (0, 0)) ∧ (∀ g, g < w.heap.size → g ≠ pb → w'.heap[g]? = w.heap[g]?) ∧ w.heap.size ≤ w'.heap.size ∧ w'.os = w.os ∧ w'.tape = w.tape ∧ w'.output = w.output := by
  have R0 : Hid (w.heap[pb]? = some (.cells A 81 (0, 0))) := hA
  have HC : Hid _ := hc
  have b0 := below1 w (.cells (flC (t : Int) p (.slice none 0 0) (.slice fa fm fk)) 52)
  have hpb := lt_of_heap hA
  obtain ⟨V, hV⟩ : ∃ V, V = w.alloc (.cells (flC (t : Int) p (.slice none 0 0) (.slice fa fm fk)) 52) := ⟨_, rfl⟩
  have P0 : Hid (V.heap[pb]? = some (.cells A 81 (0, 0))) := by show _ = _; rw [hV]; exact (b0.block _ hpb).trans hA
  have F0 : Hid (V.heap[w.heap.size]? = some (.cells (flC (t : Int) p (.slice none 0 0) (.slice fa fm fk)) 52 (0, 0))) := by show _ = _; rw [hV]; exact heap_alloc_new _ _
  have htI : (t : Int) < 64 := by omega
  have heq := eql_pclassN
  have OLD0 : Hid ((∀ g, g < w.heap.size → V.heap[g]? = w.heap[g]?) ∧ V.os = w.os ∧ V.tape = w.tape ∧ V.output = w.output) := by rw [hV]; exact ⟨fun g hg => b0.block g hg, b0.os, b0.tape, b0.output⟩
  clear hA hc b0
  go_enter Tryz.func16, Tryz.ntmps16
  go_wp2_with fail
  rw [← hV]
  clear hV
  refine wp_region_held_drew (S := fun W : World => W.cell? ⟨pb, 2 + t, none⟩ = some (.pointer none) ∧ W.cell? ⟨w.heap.size, 0, none⟩ = some (.int .i64 t)) (by kernel_rfl) ?_ (fun hHeld => ?_)
  · exact ⟨(cell_row (W := V.drew) P0.out _).trans HC.out, cell_row (W := V.drew) F0.out 0⟩
  refine wpAnyH_take (i := 0) (v := ?_) rfl (by kernel_rfl) (by kernel_rfl) (by kernel_rfl) (fun _ _ _ h => h) (Or.inl ⟨by rfl, ?_⟩) (by assumption) ?_
  rotate_left
  · (intro w hSw; (try dsimp only at hSw); go_simp; try with_reducible rfl)
  try simp only [List.getElem_toArray, List.getElem_cons_zero, List.getElem_cons_succ, Act.put, List.setIfInBounds_toArray, List.set_cons_zero, List.set_cons_succ]
  refine wpAnyH_take (i := 1) (v := ?_) rfl (by kernel_rfl) (by kernel_rfl) (by kernel_rfl) (fun _ _ _ h => h) (Or.inl ⟨by rfl, ?_⟩) (by assumption) ?_
  rotate_left
  · (intro w hSw; (try dsimp only at hSw); go_simp; try with_reducible rfl)
  try simp only [List.getElem_toArray, List.getElem_cons_zero, List.getElem_cons_succ, Act.put, List.setIfInBounds_toArray, List.set_cons_zero, List.set_cons_succ]
  refine wpAnyH_take (i := 2) (v := ?_) rfl (by kernel_rfl) (by kernel_rfl) (by kernel_rfl) (fun _ _ _ h => h) (Or.inl ⟨by rfl, ?_⟩) (by assumption) ?_
  rotate_left
  · (intro w hSw; (try dsimp only at hSw); go_simp; try with_reducible rfl)
  try simp only [List.getElem_toArray, List.getElem_cons_zero, List.getElem_cons_succ, Act.put, List.setIfInBounds_toArray, List.set_cons_zero, List.set_cons_succ]
  refine wpAnyH_take (i := 3) (v := ?_) rfl (by kernel_rfl) (by kernel_rfl) (by kernel_rfl) (fun _ _ _ h => h) (Or.inl ⟨by rfl, ?_⟩) (by assumption) ?_
  rotate_left
  · (intro w hSw; (try dsimp only at hSw); go_simp; try with_reducible rfl)
  try simp only [List.getElem_toArray, List.getElem_cons_zero, List.getElem_cons_succ, Act.put, List.setIfInBounds_toArray, List.set_cons_zero, List.set_cons_succ]
  refine wpAnyH_take (i := 4) (v := ?_) rfl (by kernel_rfl) (by kernel_rfl) (by kernel_rfl) (fun _ _ _ h => h) (Or.inl ⟨by rfl, ?_⟩) (by assumption) ?_
  rotate_left
  · (intro w hSw; (try dsimp only at hSw); go_simp; try with_reducible rfl)
  try simp only [List.getElem_toArray, List.getElem_cons_zero, List.getElem_cons_succ, Act.put, List.setIfInBounds_toArray, List.set_cons_zero, List.set_cons_succ]
  refine wpAnyH_take (i := 5) (v := ?_) rfl (by kernel_rfl) (by kernel_rfl) (by kernel_rfl) (fun _ _ _ h => h) (Or.inl ⟨by rfl, ?_⟩) (by assumption) ?_
  rotate_left
  · (intro w hSw; (try dsimp only at hSw); go_simp; try with_reducible rfl)
  try simp only [List.getElem_toArray, List.getElem_cons_zero, List.getElem_cons_succ, Act.put, List.setIfInBounds_toArray, List.set_cons_zero, List.set_cons_succ]
  refine wpAnyH_take (i := 6) (v := ?_) rfl (by kernel_rfl) (by kernel_rfl) (by kernel_rfl) (fun _ _ _ h => h) (Or.inl ⟨by rfl, ?_⟩) (by assumption) ?_
  rotate_left
  · (intro w hSw; (try dsimp only at hSw); go_simp; try with_reducible rfl)
  try simp only [List.getElem_toArray, List.getElem_cons_zero, List.getElem_cons_succ, Act.put, List.setIfInBounds_toArray, List.set_cons_zero, List.set_cons_succ]
  refine wpAnyH_take (i := 7) (v := ?_) rfl (by kernel_rfl) (by kernel_rfl) (by kernel_rfl) (fun _ _ _ h => h) (Or.inl ⟨by rfl, ?_⟩) (by assumption) ?_
  rotate_left
  · (intro w hSw; (try dsimp only at hSw); go_simp; try with_reducible rfl)
  try simp only [List.getElem_toArray, List.getElem_cons_zero, List.getElem_cons_succ, Act.put, List.setIfInBounds_toArray, List.set_cons_zero, List.set_cons_succ]
  clear hHeld
  refine wpAnyH_done (by kernel_rfl) ?_ _
  go_wp2_with fail
  have hpw : pb ≠ w.heap.size := by omega
  have HPW : Hid _ := hpw
  refine wp_region_held_drew (S := fun W : World => W.cell? ⟨w.heap.size, 0, none⟩ = some (.int .i64 t) ∧ W.cell? ⟨w.heap.size, 1, none⟩ = some (.int .i64 p)) (by kernel_rfl) ?_ (fun hHeld => ?_)
  · exact ⟨cell_row (W := V.drew.drew) F0.out 0, cell_row (W := V.drew.drew) F0.out 1⟩
  have P1 : Hid (V.drew.drew.heap[pb]? = some (.cells A 81 (0, 0))) := P0.out
  have F1 : Hid (V.drew.drew.heap[w.heap.size]? = some (.cells (flC (t : Int) p (.slice none 0 0) (.slice fa fm fk)) 52 (0, 0))) := F0.out
  clear P0 F0 hpw
  have OLD1 : Hid ((∀ g, g < w.heap.size → V.drew.drew.heap[g]? = w.heap[g]?) ∧ V.drew.drew.os = w.os ∧ V.drew.drew.tape = w.tape ∧ V.drew.drew.output = w.output) := OLD0.out
  obtain ⟨V1, hV1⟩ : ∃ V1, V1 = V.drew.drew := ⟨_, rfl⟩
  rw [← hV1] at hHeld P1 F1 OLD1 ⊢
  clear hV1
  refine wpAnyH_take (i := 0) (v := ?_) rfl (by kernel_rfl) (by kernel_rfl) (by kernel_rfl) (fun _ _ _ h => h) (Or.inl ⟨by rfl, ?_⟩) (by assumption) ?_
  rotate_left
  · (intro w hSw; (try dsimp only at hSw); go_simp; try with_reducible rfl)
  try simp only [List.getElem_toArray, List.getElem_cons_zero, List.getElem_cons_succ, Act.put, List.setIfInBounds_toArray, List.set_cons_zero, List.set_cons_succ]
  refine wpAnyH_take (i := 1) (v := ?_) rfl (by kernel_rfl) (by kernel_rfl) (by kernel_rfl) (fun _ _ _ h => h) (Or.inl ⟨by rfl, ?_⟩) (by assumption) ?_
  rotate_left
  · (intro w hSw; (try dsimp only at hSw); go_simp; try with_reducible rfl)
  try simp only [List.getElem_toArray, List.getElem_cons_zero, List.getElem_cons_succ, Act.put, List.setIfInBounds_toArray, List.set_cons_zero, List.set_cons_succ]
  refine wpAnyH_take (i := 2) (v := ?_) rfl (by kernel_rfl) (by kernel_rfl) (by kernel_rfl) (fun _ _ _ h => h) (Or.inl ⟨by rfl, ?_⟩) (by assumption) ?_
  rotate_left
  · (intro w hSw; (try dsimp only at hSw); go_simp; try with_reducible rfl)
  try simp only [List.getElem_toArray, List.getElem_cons_zero, List.getElem_cons_succ, Act.put, List.setIfInBounds_toArray, List.set_cons_zero, List.set_cons_succ]
  refine wpAnyH_take (i := 4) (v := ?_) rfl (by kernel_rfl) (by kernel_rfl) (by kernel_rfl) (fun _ _ _ h => h) (Or.inl ⟨by rfl, ?_⟩) (by assumption) ?_
  rotate_left
  · (intro w hSw; (try dsimp only at hSw); go_simp; try with_reducible rfl)
  try simp only [List.getElem_toArray, List.getElem_cons_zero, List.getElem_cons_succ, Act.put, List.setIfInBounds_toArray, List.set_cons_zero, List.set_cons_succ]
  refine wpAnyH_take (i := 5) (v := ?_) rfl (by kernel_rfl) (by kernel_rfl) (by kernel_rfl) (fun _ _ _ h => h) (Or.inl ⟨by rfl, ?_⟩) (by assumption) ?_
  rotate_left
  · (intro w hSw; (try dsimp only at hSw); go_simp; try with_reducible rfl)
  try simp only [List.getElem_toArray, List.getElem_cons_zero, List.getElem_cons_succ, Act.put, List.setIfInBounds_toArray, List.set_cons_zero, List.set_cons_succ]
  refine wpAnyH_ready (rs := [3]) (by kernel_rfl) (by simp) ?_
  refine AllReadyH.cons (o := _) rfl (fun K hK => ?_) AllReadyH.nil
  go_simp
  refine Calls.mono (new_any V1) ?_
  rintro e V2 ⟨rfl, hV2⟩
  have CL2 : Hid (Cl V2 V1.heap.size (V1.heap.size + 1 + 1) V1.heap.size (V1.heap.size + 1) 0 0 [] []) := by rw [hV2]; exact cl_new V1 _ (Nat.le_refl _)
  have b2 : Below V1.heap.size V1 V2 := by rw [hV2]; exact (below2 V1 _ _).alloc (by simp; omega) _
  have P2 : Hid _ := (b2.block _ (lt_of_heap P1.out)).trans P1.out
  have F2 : Hid _ := (b2.block _ (lt_of_heap F1.out)).trans F1.out
  have N2 : Hid (pb < V1.heap.size ∧ w.heap.size < V1.heap.size) := ⟨lt_of_heap P1.out, lt_of_heap F1.out⟩
  have OLD : Hid ((∀ g, g < w.heap.size → V2.heap[g]? = w.heap[g]?) ∧ V1.heap.size ≤ V2.heap.size ∧ V2.os = w.os ∧ V2.tape = w.tape ∧ V2.output = w.output) := ⟨fun g hg => (b2.block g (by have := lt_of_heap F1.out; omega)).trans (OLD1.out.1 g hg), b2.size, b2.os.trans OLD1.out.2.1, b2.tape.trans OLD1.out.2.2.1, b2.output.trans OLD1.out.2.2.2⟩
  clear hV2 b2 P1 F1
  obtain ⟨cb, hcb⟩ : ∃ cb, V1.heap.size + 1 + 1 = cb := ⟨_, rfl⟩
  have HCB : Hid (V1.heap.size ≤ cb) := by show _ ≤ _; omega
  rw [hcb] at CL2 ⊢
  clear hcb
  go_wp2_with fail
  refine hK.out _ _ (⟨cell_row F2.out 0, cell_row F2.out 1⟩) (fun hHeld2 => ?_)
  clear hK K hHeld
  have hHeld := hHeld2
  clear hHeld2
  try simp only [List.getElem_toArray, List.getElem_cons_zero, List.getElem_cons_succ, Act.put, List.setIfInBounds_toArray, List.set_cons_zero, List.set_cons_succ]
  refine wpAnyH_take (i := 6) (v := ?_) rfl (by kernel_rfl) (by kernel_rfl) (by kernel_rfl) (fun _ _ _ h => h) (Or.inl ⟨by rfl, ?_⟩) (by assumption) ?_
  rotate_left
  · (intro w hSw; (try dsimp only at hSw); go_simp; try with_reducible rfl)
  try simp only [List.getElem_toArray, List.getElem_cons_zero, List.getElem_cons_succ, Act.put, List.setIfInBounds_toArray, List.set_cons_zero, List.set_cons_succ]
  have c9 : V2.cell? ⟨pb, 2 + t, none⟩ = some (.pointer none) := (cell_row P2.out _).trans HC.out
  have f9 : V2.frozen? ⟨pb, 2 + t, none⟩ = false := frozen_of_row V2 pb _ _ _ P2.out
  refine wpAnyH_ready (rs := [7]) (by kernel_rfl) (by simp) ?_
  refine AllReadyH.cons (o := _) rfl (fun K hK => ?_) AllReadyH.nil
  go_simp
  obtain ⟨V3, hV3⟩ : ∃ V3, V3 = V2.setCell ⟨pb, 2 + t, none⟩ (.pointer (some ⟨cb, 0, none⟩)) := ⟨_, rfl⟩
  rw [← hV3]
  have F3 : Hid (V3.heap[w.heap.size]? = some (.cells (flC (t : Int) p (.slice none 0 0) (.slice fa fm fk)) 52 (0, 0))) := by show _ = _; rw [hV3]; exact (Below.heap_setCell _ _ _ _ (by have := HPW.out; show w.heap.size ≠ pb; omega)).trans F2.out
  have c3 : Hid (V3.cell? ⟨pb, 2 + t, none⟩ = some (.pointer (some ⟨cb, 0, none⟩))) := by show _ = _; rw [hV3]; exact World.cell?_setCell_same' V2 ⟨pb, 2 + t, none⟩ _ (by rw [c9]; rfl)
  have HV3 : Hid _ := hV3
  clear hV3 c9 f9
  refine hK.out _ _ (⟨cell_row F3.out 0, cell_row F3.out 1⟩) (fun hHeld2 => ?_)
  clear hK K hHeld
  have hHeld := hHeld2
  clear hHeld2
  try simp only [List.getElem_toArray, List.getElem_cons_zero, List.getElem_cons_succ, Act.put, List.setIfInBounds_toArray, List.set_cons_zero, List.set_cons_succ]
  clear hHeld
  refine wpAnyH_done (by kernel_rfl) ?_ _
  go_wp2_with fail
  have CL3 : Hid (Cl V3 V1.heap.size cb V1.heap.size (V1.heap.size + 1) 0 0 [] []) := by
    have n1 := N2.out.1
    have far : ∀ g, V1.heap.size ≤ g → V3.heap[g]? = V2.heap[g]? := fun g hg => by rw [HV3.out]; exact Below.heap_setCell _ _ _ _ (by show g ≠ pb; omega)
    have hcb : V1.heap.size ≤ cb := HCB.out
    exact ⟨(far _ hcb).trans CL2.out.c, (far _ (Nat.le_refl _)).trans CL2.out.r, (far _ (by omega)).trans CL2.out.m, CL2.out.ne, CL2.out.br, CL2.out.bm, CL2.out.ptr, CL2.out.len⟩
  have O3 : Hid (V3.heap[pb]? = some (.cells (A.setIfInBounds (2 + t) (.pointer (some ⟨cb, 0, none⟩))) 81 (0, 0)) ∧ (∀ g, g < w.heap.size → g ≠ pb → V3.heap[g]? = w.heap[g]?) ∧ V1.heap.size ≤ V3.heap.size ∧ w.heap.size < V1.heap.size ∧ V3.os = w.os ∧ V3.tape = w.tape ∧ V3.output = w.output) := by
    refine ⟨by rw [HV3.out]; exact row_setCell P2.out _ _, fun g h1 h2 => by rw [HV3.out, Below.heap_setCell _ _ _ _ (by exact h2)]; exact OLD.out.1 g h1, by rw [HV3.out]; simpa using OLD.out.2.1, N2.out.2, by rw [HV3.out]; exact OLD.out.2.2.1, by rw [HV3.out]; exact OLD.out.2.2.2.1, by rw [HV3.out]; exact OLD.out.2.2.2.2⟩
  refine wp_region_held_drew (S := fun W : World => W.cell? ⟨pb, 2 + t, none⟩ = some (.pointer (some ⟨cb, 0, none⟩)) ∧ W.cell? ⟨w.heap.size, 0, none⟩ = some (.int .i64 t) ∧ W.cell? ⟨w.heap.size, 1, none⟩ = some (.int .i64 p) ∧ W.cell? ⟨w.heap.size, 2, none⟩ = some (.slice none 0 0)) (by kernel_rfl) ?_ (fun hHeld => ?_)
  · exact ⟨c3.out, cell_row (W := V3.drew) F3.out 0, cell_row (W := V3.drew) F3.out 1, cell_row (W := V3.drew) F3.out 2⟩
  refine wpAnyH_take (i := 0) (v := ?_) rfl (by kernel_rfl) (by kernel_rfl) (by kernel_rfl) (fun _ _ _ h => h) (Or.inl ⟨by rfl, ?_⟩) (by assumption) ?_
  rotate_left
  · (intro w hSw; (try dsimp only at hSw); go_simp; try with_reducible rfl)
  try simp only [List.getElem_toArray, List.getElem_cons_zero, List.getElem_cons_succ, Act.put, List.setIfInBounds_toArray, List.set_cons_zero, List.set_cons_succ]
  refine wpAnyH_take (i := 1) (v := ?_) rfl (by kernel_rfl) (by kernel_rfl) (by kernel_rfl) (fun _ _ _ h => h) (Or.inl ⟨by rfl, ?_⟩) (by assumption) ?_
  rotate_left
  · (intro w hSw; (try dsimp only at hSw); go_simp; try with_reducible rfl)
  try simp only [List.getElem_toArray, List.getElem_cons_zero, List.getElem_cons_succ, Act.put, List.setIfInBounds_toArray, List.set_cons_zero, List.set_cons_succ]
  refine wpAnyH_take (i := 2) (v := ?_) rfl (by kernel_rfl) (by kernel_rfl) (by kernel_rfl) (fun _ _ _ h => h) (Or.inl ⟨by rfl, ?_⟩) (by assumption) ?_
  rotate_left
  · (intro w hSw; (try dsimp only at hSw); go_simp; try with_reducible rfl)
  try simp only [List.getElem_toArray, List.getElem_cons_zero, List.getElem_cons_succ, Act.put, List.setIfInBounds_toArray, List.set_cons_zero, List.set_cons_succ]
  refine wpAnyH_take (i := 3) (v := ?_) rfl (by kernel_rfl) (by kernel_rfl) (by kernel_rfl) (fun _ _ _ h => h) (Or.inl ⟨by rfl, ?_⟩) (by assumption) ?_
  rotate_left
  · (intro w hSw; (try dsimp only at hSw); go_simp; try with_reducible rfl)
  try simp only [List.getElem_toArray, List.getElem_cons_zero, List.getElem_cons_succ, Act.put, List.setIfInBounds_toArray, List.set_cons_zero, List.set_cons_succ]
  refine wpAnyH_take (i := 4) (v := ?_) rfl (by kernel_rfl) (by kernel_rfl) (by kernel_rfl) (fun _ _ _ h => h) (Or.inl ⟨by rfl, ?_⟩) (by assumption) ?_
  rotate_left
  · (intro w hSw; (try dsimp only at hSw); go_simp; try with_reducible rfl)
  try simp only [List.getElem_toArray, List.getElem_cons_zero, List.getElem_cons_succ, Act.put, List.setIfInBounds_toArray, List.set_cons_zero, List.set_cons_succ]
  refine wpAnyH_take (i := 5) (v := ?_) rfl (by kernel_rfl) (by kernel_rfl) (by kernel_rfl) (fun _ _ _ h => h) (Or.inl ⟨by rfl, ?_⟩) (by assumption) ?_
  rotate_left
  · (intro w hSw; (try dsimp only at hSw); go_simp; try with_reducible rfl)
  try simp only [List.getElem_toArray, List.getElem_cons_zero, List.getElem_cons_succ, Act.put, List.setIfInBounds_toArray, List.set_cons_zero, List.set_cons_succ]
  refine wpAnyH_take (i := 6) (v := ?_) rfl (by kernel_rfl) (by kernel_rfl) (by kernel_rfl) (fun _ _ _ h => h) (Or.inl ⟨by rfl, ?_⟩) (by assumption) ?_
  rotate_left
  · (intro w hSw; (try dsimp only at hSw); go_simp; try with_reducible rfl)
  try simp only [List.getElem_toArray, List.getElem_cons_zero, List.getElem_cons_succ, Act.put, List.setIfInBounds_toArray, List.set_cons_zero, List.set_cons_succ]
  refine wpAnyH_take (i := 7) (v := ?_) rfl (by kernel_rfl) (by kernel_rfl) (by kernel_rfl) (fun _ _ _ h => h) (Or.inl ⟨by rfl, ?_⟩) (by assumption) ?_
  rotate_left
  · (intro w hSw; (try dsimp only at hSw); go_simp; try with_reducible rfl)
  try simp only [List.getElem_toArray, List.getElem_cons_zero, List.getElem_cons_succ, Act.put, List.setIfInBounds_toArray, List.set_cons_zero, List.set_cons_succ]
  refine wpAnyH_take (i := 8) (v := ?_) rfl (by kernel_rfl) (by kernel_rfl) (by kernel_rfl) (fun _ _ _ h => h) (Or.inl ⟨by rfl, ?_⟩) (by assumption) ?_
  rotate_left
  · (intro w hSw; (try dsimp only at hSw); go_simp; try with_reducible rfl)
  try simp only [List.getElem_toArray, List.getElem_cons_zero, List.getElem_cons_succ, Act.put, List.setIfInBounds_toArray, List.set_cons_zero, List.set_cons_succ]
  refine wpAnyH_take (i := 9) (v := ?_) rfl (by kernel_rfl) (by kernel_rfl) (by kernel_rfl) (fun _ _ _ h => h) (Or.inl ⟨by rfl, ?_⟩) (by assumption) ?_
  rotate_left
  · (intro w hSw; (try dsimp only at hSw); go_simp; try with_reducible rfl)
  try simp only [List.getElem_toArray, List.getElem_cons_zero, List.getElem_cons_succ, Act.put, List.setIfInBounds_toArray, List.set_cons_zero, List.set_cons_succ]
  refine wpAnyH_take (i := 10) (v := ?_) rfl (by kernel_rfl) (by kernel_rfl) (by kernel_rfl) (fun _ _ _ h => h) (Or.inl ⟨by rfl, ?_⟩) (by assumption) ?_
  rotate_left
  · (intro w hSw; (try dsimp only at hSw); go_simp; try with_reducible rfl)
  try simp only [List.getElem_toArray, List.getElem_cons_zero, List.getElem_cons_succ, Act.put, List.setIfInBounds_toArray, List.set_cons_zero, List.set_cons_succ]
  refine wpAnyH_take (i := 11) (v := ?_) rfl (by kernel_rfl) (by kernel_rfl) (by kernel_rfl) (fun _ _ _ h => h) (Or.inl ⟨by rfl, ?_⟩) (by assumption) ?_
  rotate_left
  · (intro w hSw; (try dsimp only at hSw); go_simp; try with_reducible rfl)
  try simp only [List.getElem_toArray, List.getElem_cons_zero, List.getElem_cons_succ, Act.put, List.setIfInBounds_toArray, List.set_cons_zero, List.set_cons_succ]
  refine wpAnyH_take (i := 12) (v := ?_) rfl (by kernel_rfl) (by kernel_rfl) (by kernel_rfl) (fun _ _ _ h => h) (Or.inl ⟨by rfl, ?_⟩) (by assumption) ?_
  rotate_left
  · (intro w hSw; (try dsimp only at hSw); go_simp; try with_reducible rfl)
  try simp only [List.getElem_toArray, List.getElem_cons_zero, List.getElem_cons_succ, Act.put, List.setIfInBounds_toArray, List.set_cons_zero, List.set_cons_succ]
  have CL4 : Hid (Cl V3.drew V1.heap.size cb V1.heap.size (V1.heap.size + 1) 0 0 [] []) := CL3.out.of (Below.refl _ _).drew
  have hch : chkR p id [] false 0 = 0 := by
    have h : chk abV 0 [] = true := by decide +kernel
    unfold chkR chkE
    rw [if_neg (by omega), if_pos h]
    simp
  have HAD : Hid _ := add_new CL4.out p id (.slice none 0 0) [] ⟨#[]⟩ TV.nil (by decide) (fun W x hb hx => text_none x W hx) rfl O3.out.2.2.1 rfl hch
  refine wpAnyH_ready (rs := [13]) (by kernel_rfl) (by simp) ?_
  refine AllReadyH.cons (o := _) rfl (fun K hK => ?_) AllReadyH.nil
  go_simp
  refine Calls.mono HAD.out ?_
  rintro e V5 ⟨rfl, eb, tb, qm, qb, s', sh, mk, qa, qc, le, lt_, lq, lqb, C5, A5, F5, b5⟩
  have HA5 := alone_tup A5 C5.r C5.m (W := V5) (fun _ _ _ _ => rfl) (by have := lt_of_heap CL4.out.r; omega) (by have := lt_of_heap CL4.out.m; omega) (by decide) (by decide) 0
  have keep : ∀ g, g < V1.heap.size → V5.heap[g]? = V3.heap[g]? := fun g hg => F5 g (Nat.lt_of_lt_of_le hg O3.out.2.2.1) (by omega) (by omega)
  have n2 := N2.out
  have FIN : Hid (∃ cb rb tm eb tb qb B, w.heap.size < B ∧ Cl V5 B cb rb tm 1 1 [(id, .pointer (some ⟨eb, 0, none⟩), 0)] [(⟨#[]⟩, .pointer (some ⟨tb, 0, none⟩), 0)] ∧ TupOk V5 (⟨#[]⟩, .pointer (some ⟨tb, 0, none⟩), 0) [] [(keyS [], .pointer (some ⟨qb, 0, none⟩), 0)] ∧ EntAt V5 eb p id [] ∧ FirstQ V5 (.pointer (some ⟨qb, 0, none⟩)) eb ∧ V5.heap[pb]? = some (.cells (A.setIfInBounds (2 + t) (.pointer (some ⟨cb, 0, none⟩))) 81 (0, 0)) ∧ (∀ g, g < w.heap.size → g ≠ pb → V5.heap[g]? = w.heap[g]?) ∧ w.heap.size ≤ V5.heap.size ∧ V5.os = w.os ∧ V5.tape = w.tape ∧ V5.output = w.output) :=
    ⟨cb, V1.heap.size, V1.heap.size + 1, eb, tb, qb, V1.heap.size, n2.2, C5, HA5.1, HA5.2.1, HA5.2.2, (keep pb n2.1).trans O3.out.1, fun g h1 h2 => (keep g (by omega)).trans (O3.out.2.1 g h1 h2), by have := b5.size; have := O3.out.2.2.1; have e : V3.drew.heap.size = V3.heap.size := rfl; omega, b5.os.trans O3.out.2.2.2.2.1, b5.tape.trans O3.out.2.2.2.2.2.1, b5.output.trans O3.out.2.2.2.2.2.2⟩
  have F6 : Hid (V5.heap[w.heap.size]? = some (.cells (flC (t : Int) p (.slice none 0 0) (.slice fa fm fk)) 52 (0, 0))) := (keep _ n2.2).trans F3.out
  have c6 : Hid (V5.cell? ⟨pb, 2 + t, none⟩ = some (.pointer (some ⟨cb, 0, none⟩))) := (World.cell?_of_block (keep pb n2.1)).trans c3.out
  clear C5 A5 F5 b5 HA5 keep n2
  go_wp2_with fail
  refine hK.out _ _ (⟨c6.out, cell_row F6.out 0, cell_row F6.out 1, cell_row F6.out 2⟩) (fun hHeld2 => ?_)
  clear hK K hHeld
  have hHeld := hHeld2
  clear hHeld2
  try simp only [List.getElem_toArray, List.getElem_cons_zero, List.getElem_cons_succ, Act.put, List.setIfInBounds_toArray, List.set_cons_zero, List.set_cons_succ]
  clear hHeld
  refine wpAnyH_done (by kernel_rfl) ?_ _
  go_wp2
  go_end0
  exact ⟨rfl, FIN.out⟩
end Go.Proofs.YtnahhmcmahbnkaaGreatDoor
/- A copy of actions that have no lists within. Conditions: as said. -/
namespace Go.Proofs.YtnahhmcmahbnkaaGreatDoor
open Go.RowKit
/-- A slice of n actions without lists within, their other cells as in C, in a block from B on. -/
def FlatAt (C : Array Value) (n : Nat) (B : Nat) (W : World) (v : Value) : Prop := ∃ g cap D, v = .slice (some ⟨g, 0, none⟩) n cap ∧ n ≤ cap ∧ B ≤ g ∧ W.heap[g]? = some (.cells D 49 (0, 0)) ∧ n * 15 ≤ D.size ∧
  (∀ j v, j < n * 15 → D[j]? = some v → v.oneCell' = true) ∧ ∀ i, i < n → (∀ j, j < 15 → j ≠ 7 → j ≠ 8 → D[i * 15 + j]? = C[i * 15 + j]?) ∧ D[i * 15 + 7]? = some (.slice none 0 0) ∧ D[i * 15 + 8]? = some (.slice none 0 0)
theorem flat_lasts (C : Array Value) (n : Nat) : Ac.Lasts (FlatAt C n) := by
  rintro B W W' v ⟨g, cap, D, rfl, h0, h1, h2, h3⟩ _ hk
  exact ⟨g, cap, D, rfl, h0, h1, (hk g h1 (lt_of_heap h2)).trans h2, h3⟩
theorem copy_flat (g n c : Nat) (C : Array Value) (w : World) (hC : w.heap[g]? = some (.cells C 49 (0, 0))) (hn : n * 15 ≤ C.size) (hone : C.all (·.oneCell') = true) (hm : n ≤ 1000000) (hn1 : 1 ≤ n)
    (hk : ∀ i, i < n → C[i * 15 + 7]? = some (.slice none 0 0)) (hw : ∀ i, i < n → C[i * 15 + 8]? = some (.slice none 0 0)) :
    Calls Tryz.prog 41 #[.slice (some ⟨g, 0, none⟩) n c] w fun e w' => ∃ a' m' k', e = .returned (.slice a' m' k') ∧ FlatAt C n w.heap.size w' (.slice a' m' k') ∧ Below w.heap.size w w' := by
  refine Calls.mono (Ac.copyacts_row g n c C w hC hn hone hm hn1 (fun _ _ _ v => v = .slice none 0 0) (fun i hi => ⟨none, 0, 0, hk i hi⟩) (fun i hi => ⟨0, hw i hi⟩) (fun i a m k hi h7 W _ => ?_) (fun i B W W' v h _ _ => h)) ?_
  · rw [hk i hi] at h7
    cases h7
    exact (Ac.copyacts_nil 0 W).mono fun e w' ⟨he, hw'⟩ => ⟨none, 0, 0, he, rfl, by rw [hw']; exact Below.refl _ _⟩
  · rintro e w' ⟨g', cap, D, rfl, hle, h⟩
    refine ⟨_, _, _, rfl, ⟨g', cap, D, rfl, hle, h.base, h.row, h.size, h.one, fun i hi => ⟨fun j hj h7 h8 => h.same i j hi hj (.inr ⟨h7, h8⟩), ?_, h.ways i hi⟩⟩, h.below⟩
    obtain ⟨v, B, r1, _, r2⟩ := h.kids i hi
    rw [r1, r2]
end Go.Proofs.YtnahhmcmahbnkaaGreatDoor
/- A table's classifier with one flow in it, seen from later worlds; a Program's parts. Plain laws, no condition. -/
namespace Go.Proofs.YtnahhmcmahbnkaaGreatDoor
open Go.RowKit
theorem other_cells {W W' : World} {pb g : Nat} {A A' : Array Value} {t : TypeId} {r r' : Nat × Nat} (hp : W.heap[pb]? = some (.cells A 81 r)) (hk : ∀ g, g < W.heap.size → g ≠ pb → W'.heap[g]? = W.heap[g]?) (h : W.heap[g]? = some (.cells A' t r')) (ht : t ≠ 81) : W'.heap[g]? = some (.cells A' t r') :=
  (hk g (lt_of_heap h) (fun e => by subst e; rw [hp] at h; cases h; exact ht rfl)).trans h
theorem other_map {W W' : World} {pb g : Nat} {A : Array Value} {e : Array MapEntry} {c : Nat} {r : Nat × Nat} (hp : W.heap[pb]? = some (.cells A 81 r)) (hk : ∀ g, g < W.heap.size → g ≠ pb → W'.heap[g]? = W.heap[g]?) (h : W.heap[g]? = some (.map e c)) : W'.heap[g]? = some (.map e c) :=
  (hk g (lt_of_heap h) (fun e => by subst e; rw [hp] at h; cases h)).trans h
theorem tv_nil_other {W W' : World} {v : Value} (h : TV W v []) : TV W' v [] := by
  obtain ⟨a, n, c, rfl, hc, ht⟩ := h
  refine ⟨a, n, c, rfl, hc, ht.len, ht.room, ?_⟩
  rcases ht.cells with h0 | ⟨b, off, e, _⟩
  · exact .inl h0
  · exact .inr ⟨b, off, e, fun i t hi => by simp at hi⟩
/-- A classifier with one flow without terms: the flow's Priority and its Id. -/
def Laid (W : World) (cb : Nat) (p id : Int) : Prop := ∃ rb tm eb tb qb B, Cl W B cb rb tm 1 1 [(id, .pointer (some ⟨eb, 0, none⟩), 0)] [(⟨#[]⟩, .pointer (some ⟨tb, 0, none⟩), 0)] ∧ TupOk W (⟨#[]⟩, .pointer (some ⟨tb, 0, none⟩), 0) [] [(keyS [], .pointer (some ⟨qb, 0, none⟩), 0)] ∧ EntAt W eb p id [] ∧ FirstQ W (.pointer (some ⟨qb, 0, none⟩)) eb
theorem Laid.of {W W' : World} {cb : Nat} {p id : Int} (h : Laid W cb p id) (hb : Below W.heap.size W W') : Laid W' cb p id := by
  obtain ⟨rb, tm, eb, tb, qb, B, h1, h2, h3, h4⟩ := h
  exact ⟨rb, tm, eb, tb, qb, B, h1.of hb, h2.of hb, h3.of hb, h4.of hb⟩
theorem Laid.keep {W W' : World} {cb pb : Nat} {p id : Int} {A : Array Value} {r : Nat × Nat} (h : Laid W cb p id) (hp : W.heap[pb]? = some (.cells A 81 r)) (hk : ∀ g, g < W.heap.size → g ≠ pb → W'.heap[g]? = W.heap[g]?) : Laid W' cb p id := by
  obtain ⟨rb, tm, eb, tb, qb, B, h1, h2, h3, h4⟩ := h
  have E : ∀ {e : Nat} {p id : Int}, EntAt W e p id [] → EntAt W' e p id [] := fun ⟨s, tb, at_, g1, g2⟩ => ⟨s, tb, at_, other_cells hp hk g1 (by decide), tv_nil_other g2⟩
  have F : ∀ {v : Value} {e : Nat}, FirstQ W v e → FirstQ W' v e := fun ⟨qb, g, n, cap, R, q0, q1, q2, q3, q4, q5⟩ => ⟨qb, g, n, cap, R, q0, other_cells hp hk q1 (by decide), q2, q3, other_cells hp hk q4 (by decide), q5⟩
  refine ⟨rb, tm, eb, tb, qb, B, ⟨other_cells hp hk h1.c (by decide), other_map hp hk h1.r, other_map hp hk h1.m, h1.ne, h1.br, h1.bm, h1.ptr, h1.len⟩, ?_, E h3, F h4⟩
  obtain ⟨tb', s, mk, qm, c, k1, k2, k3, k4, k5, k6, k7⟩ := h2
  refine ⟨tb', s, mk, qm, c, k1, other_cells hp hk k2 (by decide), tv_nil_other k3, k4, k5, other_map hp hk k6, fun y hy => ?_⟩
  rw [List.mem_singleton] at hy
  subst hy
  exact ⟨eb, F h4, p, id, [], E h3⟩
/-- A Program of n flows without terms, each at a table of its own, its actions as R says. -/
structure PrgAt (W : World) (pb n : Nat) (T : Nat → Nat) (P : Nat → Int) (R : Nat → Nat → World → Value → Prop) (A : Array Value) (m g cap : Nat) (D : Array Value) : Prop where
  row : W.heap[pb]? = some (.cells A 81 (0, 0))
  map : A[0]? = some (.map (some m))
  ord : A[1]? = some (.slice (some ⟨g, 0, none⟩) n cap)
  ptrs : W.heap[g]? = some (.cells D 73 (0, 0))
  at_ : ∀ i, i < n → ∃ k cb r ac B, k < n ∧ A[2 + T i]? = some (.pointer (some ⟨cb, 0, none⟩)) ∧ Laid W cb (P i) ((k : Int) + 1) ∧ D[k]? = some (.pointer (some ⟨r, 0, none⟩)) ∧ W.heap[r]? = some (.cells (rwC (T i) (P i) (.slice none 0 0) ac ⟨#[]⟩) 84 (0, 0)) ∧ R i B W ac
theorem PrgAt.of {W W' : World} {pb n : Nat} {T : Nat → Nat} {P : Nat → Int} {R : Nat → Nat → World → Value → Prop} {A : Array Value} {m g cap : Nat} {D : Array Value} (h : PrgAt W pb n T P R A m g cap D) (hR : ∀ i, Ac.Lasts (R i)) (hb : Below W.heap.size W W') : PrgAt W' pb n T P R A m g cap D :=
  ⟨(hb.block _ (lt_of_heap h.row)).trans h.row, h.map, h.ord, (hb.block _ (lt_of_heap h.ptrs)).trans h.ptrs, fun i hi => by
    obtain ⟨k, cb, r, ac, B, h1, h2, h3, h4, h5, h6⟩ := h.at_ i hi
    exact ⟨k, cb, r, ac, B, h1, h2, h3.of hb, h4, (hb.block _ (lt_of_heap h5)).trans h5, hR i B W W' ac h6 hb.size (fun k _ hk => hb.block k hk)⟩⟩
end Go.Proofs.YtnahhmcmahbnkaaGreatDoor
