/- A new zone; a connection put into a zone's maps. Conditions: as said. -/
import Derived.Test.YtjjehncnjcepkaaCG
namespace Go.Proofs.Ytjjehncnjcepkaa
open Go.RowKit
theorem size2 : (Try.prog.info? 60).map (·.size) = some 2 := by kernel_rfl
set_option maxHeartbeats 400000 in
theorem newZone_any (w : World) : Calls Try.prog 62 #[] w fun e w' => e = .returned (.agg #[.map (some (w.heap.size + 1)), .map (some (w.heap.size + 1 + 1))]) ∧ w'.heap[w.heap.size + 1]? = some (.map #[] 0) ∧ w'.heap[w.heap.size + 1 + 1]? = some (.map #[] 0) ∧ Below w.heap.size w w' := by
  have hmm := @run_makeMap Try.prog
  go_enter Try.func62, Try.ntmps62
  go_wp2
  refine bodyPost_ret (results_cell_row (p := 0) (ty := 60) rfl _ _ w.heap.size 60 _ (0, 0) _ rfl (three_first _ _ _ _) Try.underlying60 rfl size2) rfl ⟨rfl, ?_, three_last _ _ _ _, below3 _ _ _ _⟩
  exact (heap_alloc_old _ _ (by simp)).trans (two_last _ _ _)
/-- An entry by its numbers: a connection, and its place. -/
def entC (z : Int) (o r : Tup) (nat : Bool) (ex pl : Int) : Array Value := #[.int .i64 z, .int .i64 o.1, .int .u32 o.2.1, .int .u32 o.2.2.1, .int .i64 o.2.2.2.1, .int .i64 o.2.2.2.2, .int .i64 r.1, .int .u32 r.2.1, .int .u32 r.2.2.1, .int .i64 r.2.2.2.1, .int .i64 r.2.2.2.2, .bool nat, .int .i64 ex, .int .i64 pl]
theorem ent_orig (z : Int) (o r : Tup) (nat : Bool) (ex pl : Int) : (entC z o r nat ex pl).extract 1 (1 + 5) = tupC o.1 o.2.1 o.2.2.1 o.2.2.2.1 o.2.2.2.2 := by kernel_rfl
theorem ent_reply (z : Int) (o r : Tup) (nat : Bool) (ex pl : Int) : (entC z o r nat ex pl).extract 6 (6 + 5) = tupC r.1 r.2.1 r.2.2.1 r.2.2.2.1 r.2.2.2.2 := by kernel_rfl
theorem wp_mapUpdate {op : Oper} {a : Act} {w w' : World} {K : Act → World → Prop} {Q : Exit → Act → World → Prop} (mt : TypeId) (x k y : Operand) (ho : op.op = .mapUpdate mt x k y)
    (m kv v : Value) (hx : a.eval x = m) (hk : a.eval k = kv) (hy : a.eval y = v) (hr : (Instr.mapUpdate mt m kv v).run Try.prog w = .ok () w')
    (h : K (a.put op.dst undef) w') : op.wp Try.prog a w K Q := by
  unfold Oper.wp execOp
  simp only [ho, hx, hk, hy, Sem.run_bind, hr, Result.andThen_ok, Sem.run_pure]
  exact h
set_option linter.unusedSimpArgs false in
set_option maxRecDepth 20000 in
set_option maxHeartbeats 2000000 in
theorem zadd_any (r1 r2 c1 c2 eb : Nat) (l1 l2 : List (Tup × Value × Nat)) (z : Int) (o r : Tup) (nat : Bool) (ex pl : Int) (w : World) (h12 : r1 ≠ r2)
    (h1 : w.heap[r1]? = some (.map (entG tv l1).toArray c1)) (h2 : w.heap[r2]? = some (.map (entG tv l2).toArray c2)) (he : w.heap[eb]? = some (.cells (entC z o r nat ex pl) 68 (0, 0))) (f1 : findG o l1 0 = none) (f2 : findG r l2 0 = none) (B : Nat) (hB1 : B ≤ r1) (hB2 : B ≤ r2) (hB3 : B ≤ w.heap.size) :
    Calls Try.prog 63 #[.agg #[.map (some r1), .map (some r2)], .pointer (some ⟨eb, 0, none⟩)] w fun e w' => e = .returned (.tuple #[]) ∧ w'.heap[r1]? = some (.map (entG tv (l1 ++ [(o, .pointer (some ⟨eb, 0, none⟩), c1)])).toArray (c1 + 1)) ∧ w'.heap[r2]? = some (.map (entG tv (l2 ++ [(r, .pointer (some ⟨eb, 0, none⟩), c2)])).toArray (c2 + 1)) ∧ (∀ g, g < w.heap.size → g ≠ r1 → g ≠ r2 → w'.heap[g]? = w.heap[g]?) ∧ Below B w w' := by
  obtain ⟨en, hen⟩ : ∃ en, entC z o r nat ex pl = en := ⟨_, rfl⟩
  have HO : Hid (en.extract 1 (1 + 5) = tupC o.1 o.2.1 o.2.2.1 o.2.2.2.1 o.2.2.2.2) := by show _ = _; rw [← hen]; exact ent_orig _ _ _ _ _ _
  have HR : Hid (en.extract 6 (6 + 5) = tupC r.1 r.2.1 r.2.2.1 r.2.2.2.1 r.2.2.2.2) := by show _ = _; rw [← hen]; exact ent_reply _ _ _ _ _ _
  rw [hen] at he
  have n1 : eb ≠ r1 := fun e => by subst e; rw [h1] at he; cases he
  have n2 : eb ≠ r2 := fun e => by subst e; rw [h2] at he; cases he
  have e1 := lt_of_heap h1
  have e2 := lt_of_heap h2
  have e3 := lt_of_heap he
  have H1 : Hid _ := h1
  have H2 : Hid _ := h2
  have HE : Hid _ := he
  have F1 : Hid _ := f1
  have F2 : Hid _ := f2
  clear hen h1 h2 he f1 f2
  go_enter Try.func63, Try.ntmps63
  go_wp2_with fail
  have A0 : Hid ((w.alloc (.cells #[.map (some r1), .map (some r2)] 60)).heap[w.heap.size]? = some (.cells #[.map (some r1), .map (some r2)] 60 (0, 0))) := heap_alloc_new _ _
  have A1 : Hid ((w.alloc (.cells #[.map (some r1), .map (some r2)] 60)).heap[eb]? = some (.cells en 68 (0, 0))) := (heap_alloc_old _ _ e3).trans HE.out
  have A2 : Hid ((w.alloc (.cells #[.map (some r1), .map (some r2)] 60)).drew.heap[r1]? = some (.map (entG tv l1).toArray c1)) := (heap_alloc_old _ _ e1).trans H1.out
  refine wp_region_held_drew (S := (fun W => W.cell? ⟨w.heap.size, 0, none⟩ = some (.map (some r1)) ∧ W.heap[eb]? = some (.cells en 68 (0, 0)))) (by kernel_rfl) ?_ (fun hHeld => ?_)
  · exact ⟨cell_row A0.out 0, A1.out⟩
  refine wpAnyH_take (i := 0) (v := ?_) rfl (by kernel_rfl) (by kernel_rfl) (by kernel_rfl) (fun _ _ _ h => h) (Or.inl ⟨by rfl, ?_⟩) (by assumption) ?_
  rotate_left
  · (intro w hSw; (try dsimp only at hSw); go_simp; try with_reducible rfl)
  try simp only [List.getElem_toArray, List.getElem_cons_zero, List.getElem_cons_succ, Act.put, List.setIfInBounds_toArray, List.set_cons_zero, List.set_cons_succ]
  refine wpAnyH_take (i := 1) (v := ?_) rfl (by kernel_rfl) (by kernel_rfl) (by kernel_rfl) (fun _ _ _ h => h) (Or.inl ⟨by rfl, ?_⟩) (by assumption) ?_
  rotate_left
  · (intro w hSw; (try dsimp only at hSw); go_simp; try with_reducible rfl)
  try simp only [List.getElem_toArray, List.getElem_cons_zero, List.getElem_cons_succ, Act.put, List.setIfInBounds_toArray, List.set_cons_zero, List.set_cons_succ]
  refine wpAnyH_take (i := 2) (v := ?_) rfl (by kernel_rfl) (by kernel_rfl) (by kernel_rfl) (fun _ _ _ h => h) (Or.inl ⟨by rfl, ?_⟩) (by assumption) ?_
  rotate_left
  · (intro w hSw; (try dsimp only at hSw); go_simp; try with_reducible rfl)
  try simp only [List.getElem_toArray, List.getElem_cons_zero, List.getElem_cons_succ, Act.put, List.setIfInBounds_toArray, List.set_cons_zero, List.set_cons_succ]
  refine wpAnyH_take (i := 3) (v := ?_) rfl (by kernel_rfl) (by kernel_rfl) (by kernel_rfl) (fun _ _ _ h => h) (Or.inl ⟨by rfl, ?_⟩) (by assumption) ?_
  rotate_left
  · (intro w hSw; (try dsimp only at hSw); go_simp; try with_reducible rfl)
  try simp only [List.getElem_toArray, List.getElem_cons_zero, List.getElem_cons_succ, Act.put, List.setIfInBounds_toArray, List.set_cons_zero, List.set_cons_succ]
  refine wpAnyH_take (i := 4) (v := ?_) rfl (by kernel_rfl) (by kernel_rfl) (by kernel_rfl) (fun _ _ _ h => h) (Or.inl ⟨by rfl, ?_⟩) (by assumption) ?_
  rotate_left
  · (intro w hSw; (try dsimp only at hSw); go_simp; try with_reducible rfl)
  try simp only [List.getElem_toArray, List.getElem_cons_zero, List.getElem_cons_succ, Act.put, List.setIfInBounds_toArray, List.set_cons_zero, List.set_cons_succ]
  refine wpAnyH_take (i := 5) (v := ?_) rfl (by kernel_rfl) (by kernel_rfl) (by kernel_rfl) (fun _ _ _ h => h) (Or.inl ⟨by rfl, ?_⟩) (by assumption) ?_
  rotate_left
  · (intro w hSw; (try dsimp only at hSw); go_simp; try with_reducible rfl)
  try simp only [List.getElem_toArray, List.getElem_cons_zero, List.getElem_cons_succ, Act.put, List.setIfInBounds_toArray, List.set_cons_zero, List.set_cons_succ]
  refine wpAnyH_take (i := 6) (v := tv o) rfl (by kernel_rfl) (by kernel_rfl) (by kernel_rfl) (fun _ _ _ h => h) (yields_loadA (by rfl) 44 _ rfl eb 1 5 rfl 68 en _ _ (fun _ h => h.2) HO.out rfl Try.underlying44 rfl size5) (by assumption) ?_
  try simp only [List.getElem_toArray, List.getElem_cons_zero, List.getElem_cons_succ, Act.put, List.setIfInBounds_toArray, List.set_cons_zero, List.set_cons_succ]
  refine wpAnyH_take (i := 7) (v := ?_) rfl (by kernel_rfl) (by kernel_rfl) (by kernel_rfl) (fun _ _ _ h => h) (Or.inl ⟨by rfl, ?_⟩) (by assumption) ?_
  rotate_left
  · (intro w hSw; (try dsimp only at hSw); go_simp; try with_reducible rfl)
  try simp only [List.getElem_toArray, List.getElem_cons_zero, List.getElem_cons_succ, Act.put, List.setIfInBounds_toArray, List.set_cons_zero, List.set_cons_succ]
  refine wpAnyH_ready (rs := [8]) (by kernel_rfl) (by simp) ?_
  refine AllReadyH.cons (o := _) rfl (fun K hK => ?_) AllReadyH.nil
  refine wp_mapUpdate 58 _ _ _ rfl (.map (some r1)) (tv o) (.pointer (some ⟨eb, 0, none⟩)) rfl rfl rfl (put_new tupK Try.underlying58 (l := l1) (c := c1) A2.out o F1.out _) ?_
  obtain ⟨V, hV⟩ : ∃ V, putObj (w.alloc (.cells #[.map (some r1), .map (some r2)] 60)).drew r1 (.map (entG tv (l1 ++ [(o, .pointer (some ⟨eb, 0, none⟩), c1)])).toArray (c1 + 1)) = V := ⟨_, rfl⟩
  have v1 : V.heap[r1]? = some (.map (entG tv (l1 ++ [(o, .pointer (some ⟨eb, 0, none⟩), c1)])).toArray (c1 + 1)) := by rw [← hV]; exact putObj_same (lt_of_heap A2.out) _
  have vo : ∀ g, g ≠ r1 → V.heap[g]? = (w.alloc (.cells #[.map (some r1), .map (some r2)] 60)).heap[g]? := fun g hg => by rw [← hV]; exact putObj_other _ hg _
  have vs : V.heap.size = w.heap.size + 1 := by rw [← hV, putObj_size]; simp
  have vB : Below B w V := by rw [← hV]; exact (((below1 w _).mono hB3).drew).trans ((putObj_below _ r1 _).mono hB1)
  rw [hV]
  clear hV
  have vz : V.heap[w.heap.size]? = some (.cells #[.map (some r1), .map (some r2)] 60 (0, 0)) := (vo _ (by omega)).trans A0.out
  have ve : V.heap[eb]? = some (.cells en 68 (0, 0)) := (vo _ n1).trans A1.out
  refine hK.out _ _ ⟨cell_row vz 0, ve⟩ (fun hHeld2 => ?_)
  clear hK K hHeld hHeld2
  try simp only [List.getElem_toArray, List.getElem_cons_zero, List.getElem_cons_succ, Act.put, List.setIfInBounds_toArray, List.set_cons_zero, List.set_cons_succ]
  refine wpAnyH_done (by kernel_rfl) ?_ _
  have V1 : Hid _ := v1
  have VO : Hid _ := vo
  have VZ : Hid _ := vz
  have VE : Hid _ := ve
  have VB : Hid _ := vB
  have B2 : Hid (V.drew.heap[r2]? = some (.map (entG tv l2).toArray c2)) := (vo _ (fun e => h12 e.symm)).trans ((heap_alloc_old _ _ e2).trans H2.out)
  clear v1 vo vz ve vB A0 A1 A2
  go_wp2_with fail
  refine wp_region_held_drew (S := (fun W => W.cell? ⟨w.heap.size, 1, none⟩ = some (.map (some r2)) ∧ W.heap[eb]? = some (.cells en 68 (0, 0)))) (by kernel_rfl) ?_ (fun hHeld => ?_)
  · exact ⟨cell_row VZ.out 1, VE.out⟩
  refine wpAnyH_take (i := 0) (v := ?_) rfl (by kernel_rfl) (by kernel_rfl) (by kernel_rfl) (fun _ _ _ h => h) (Or.inl ⟨by rfl, ?_⟩) (by assumption) ?_
  rotate_left
  · (intro w hSw; (try dsimp only at hSw); go_simp; try with_reducible rfl)
  try simp only [List.getElem_toArray, List.getElem_cons_zero, List.getElem_cons_succ, Act.put, List.setIfInBounds_toArray, List.set_cons_zero, List.set_cons_succ]
  refine wpAnyH_take (i := 1) (v := ?_) rfl (by kernel_rfl) (by kernel_rfl) (by kernel_rfl) (fun _ _ _ h => h) (Or.inl ⟨by rfl, ?_⟩) (by assumption) ?_
  rotate_left
  · (intro w hSw; (try dsimp only at hSw); go_simp; try with_reducible rfl)
  try simp only [List.getElem_toArray, List.getElem_cons_zero, List.getElem_cons_succ, Act.put, List.setIfInBounds_toArray, List.set_cons_zero, List.set_cons_succ]
  refine wpAnyH_take (i := 2) (v := ?_) rfl (by kernel_rfl) (by kernel_rfl) (by kernel_rfl) (fun _ _ _ h => h) (Or.inl ⟨by rfl, ?_⟩) (by assumption) ?_
  rotate_left
  · (intro w hSw; (try dsimp only at hSw); go_simp; try with_reducible rfl)
  try simp only [List.getElem_toArray, List.getElem_cons_zero, List.getElem_cons_succ, Act.put, List.setIfInBounds_toArray, List.set_cons_zero, List.set_cons_succ]
  refine wpAnyH_take (i := 3) (v := ?_) rfl (by kernel_rfl) (by kernel_rfl) (by kernel_rfl) (fun _ _ _ h => h) (Or.inl ⟨by rfl, ?_⟩) (by assumption) ?_
  rotate_left
  · (intro w hSw; (try dsimp only at hSw); go_simp; try with_reducible rfl)
  try simp only [List.getElem_toArray, List.getElem_cons_zero, List.getElem_cons_succ, Act.put, List.setIfInBounds_toArray, List.set_cons_zero, List.set_cons_succ]
  refine wpAnyH_take (i := 4) (v := ?_) rfl (by kernel_rfl) (by kernel_rfl) (by kernel_rfl) (fun _ _ _ h => h) (Or.inl ⟨by rfl, ?_⟩) (by assumption) ?_
  rotate_left
  · (intro w hSw; (try dsimp only at hSw); go_simp; try with_reducible rfl)
  try simp only [List.getElem_toArray, List.getElem_cons_zero, List.getElem_cons_succ, Act.put, List.setIfInBounds_toArray, List.set_cons_zero, List.set_cons_succ]
  refine wpAnyH_take (i := 5) (v := ?_) rfl (by kernel_rfl) (by kernel_rfl) (by kernel_rfl) (fun _ _ _ h => h) (Or.inl ⟨by rfl, ?_⟩) (by assumption) ?_
  rotate_left
  · (intro w hSw; (try dsimp only at hSw); go_simp; try with_reducible rfl)
  try simp only [List.getElem_toArray, List.getElem_cons_zero, List.getElem_cons_succ, Act.put, List.setIfInBounds_toArray, List.set_cons_zero, List.set_cons_succ]
  refine wpAnyH_take (i := 6) (v := tv r) rfl (by kernel_rfl) (by kernel_rfl) (by kernel_rfl) (fun _ _ _ h => h) (yields_loadA (by rfl) 44 _ rfl eb 6 5 rfl 68 en _ _ (fun _ h => h.2) HR.out rfl Try.underlying44 rfl size5) (by assumption) ?_
  try simp only [List.getElem_toArray, List.getElem_cons_zero, List.getElem_cons_succ, Act.put, List.setIfInBounds_toArray, List.set_cons_zero, List.set_cons_succ]
  refine wpAnyH_take (i := 7) (v := ?_) rfl (by kernel_rfl) (by kernel_rfl) (by kernel_rfl) (fun _ _ _ h => h) (Or.inl ⟨by rfl, ?_⟩) (by assumption) ?_
  rotate_left
  · (intro w hSw; (try dsimp only at hSw); go_simp; try with_reducible rfl)
  try simp only [List.getElem_toArray, List.getElem_cons_zero, List.getElem_cons_succ, Act.put, List.setIfInBounds_toArray, List.set_cons_zero, List.set_cons_succ]
  refine wpAnyH_ready (rs := [8]) (by kernel_rfl) (by simp) ?_
  refine AllReadyH.cons (o := _) rfl (fun K hK => ?_) AllReadyH.nil
  refine wp_mapUpdate 58 _ _ _ rfl (.map (some r2)) (tv r) (.pointer (some ⟨eb, 0, none⟩)) rfl rfl rfl (put_new tupK Try.underlying58 (l := l2) (c := c2) B2.out r F2.out _) ?_
  obtain ⟨U, hU⟩ : ∃ U, putObj V.drew r2 (.map (entG tv (l2 ++ [(r, .pointer (some ⟨eb, 0, none⟩), c2)])).toArray (c2 + 1)) = U := ⟨_, rfl⟩
  have u2 : U.heap[r2]? = some (.map (entG tv (l2 ++ [(r, .pointer (some ⟨eb, 0, none⟩), c2)])).toArray (c2 + 1)) := by rw [← hU]; exact putObj_same (lt_of_heap B2.out) _
  have uo : ∀ g, g ≠ r2 → U.heap[g]? = V.heap[g]? := fun g hg => by rw [← hU]; exact putObj_other _ hg _
  have uB : Below B w U := by rw [← hU]; exact VB.out.drew.trans ((putObj_below _ r2 _).mono hB2)
  rw [hU]
  clear hU
  refine hK.out _ _ ⟨cell_row ((uo _ (by omega)).trans VZ.out) 1, (uo _ n2).trans VE.out⟩ (fun hHeld2 => ?_)
  clear hK K hHeld hHeld2
  try simp only [List.getElem_toArray, List.getElem_cons_zero, List.getElem_cons_succ, Act.put, List.setIfInBounds_toArray, List.set_cons_zero, List.set_cons_succ]
  refine wpAnyH_done (by kernel_rfl) ?_ _
  go_wp2
  go_end0
  refine ⟨rfl, (uo _ h12).trans V1.out, u2, fun g hg g1 g2 => (uo _ g2).trans ((VO.out _ g1).trans (heap_alloc_old _ _ hg)), uB⟩
end Go.Proofs.Ytjjehncnjcepkaa
