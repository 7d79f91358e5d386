/- One connection goes: the queue's and the zone's part. Conditions: as said. -/
import Derived.Test.YtjjehncnjcepkaaCN
namespace Go.Proofs.Ytjjehncnjcepkaa
open Go.RowKit
theorem wp_delete {op : Oper} {a : Act} {w w' : World} {K : Act → World → Prop} {Q : Exit → Act → World → Prop} (m x : Operand) (t k : TypeId) (ho : op.op = Op.call { callee := Callee.builtin Builtin.delete, args := #[m, x], argTypes := #[t, k] })
    (mv kv : Value) (hm : a.eval m = mv) (hx : a.eval x = kv) (hr : (Builtin.delete_ #[t, k] op.type #[mv, kv]).run Try.prog w = .ok (.tuple #[]) w')
    (h : K (a.put op.dst (.tuple #[])) w') : op.wp Try.prog a w K Q := by
  unfold Oper.wp
  simp [execOp, ho, resolve, invoke, builtin, hm, hx, hr, Result.andThen]
  exact h
set_option maxRecDepth 20000 in
set_option maxHeartbeats 1000000 in
theorem qPop_one {w : World} {B tb zb c : Nat} {room clock z : Int} {o r : Tup} {nat : Bool} {ex : Int} {qg qc : Nat} {cur : Array Value} {eb g1 g2 : Nat} (h : HasC w B tb zb c room clock z o r nat ex qg qc cur eb g1 g2) :
    Calls Try.prog 92 #[.pointer (some ⟨tb, 3, none⟩)] w fun e w' => e = .returned (.iface 66 (.pointer (some ⟨eb, 0, none⟩))) ∧ w' = (w.setCell ⟨qg, 0, none⟩ (.pointer none)).setCell ⟨tb, 3, none⟩ (.slice (some ⟨qg, 0, none⟩) 0 qc) := by
  have c3 : w.cell? ⟨tb, 3, none⟩ = some (.slice (some ⟨qg, 0, none⟩) 1 qc) := cell_row h.t 3
  have f3 := frozen_of_row w _ 3 _ _ h.t
  have cq : w.cell? ⟨qg, 0, none⟩ = some (.pointer (some ⟨eb, 0, none⟩)) := (cell_row h.q 0).trans h.q0
  have fq := frozen_of_row w _ 0 _ _ h.q
  have htq : tb ≠ qg := ne_cells h.t h.q (by decide)
  have hqt : qg ≠ tb := htq.symm
  have hq1 := h.q1
  clear h
  go_enter Try.func92, Try.ntmps92
  go_wp2
  go_ret
  exact ⟨rfl, rfl⟩
set_option maxRecDepth 20000 in
set_option maxHeartbeats 1000000 in
theorem hRemove_one {w : World} {B tb zb c : Nat} {room clock z : Int} {o r : Tup} {nat : Bool} {ex : Int} {qg qc : Nat} {cur : Array Value} {eb g1 g2 : Nat} (h : HasC w B tb zb c room clock z o r nat ex qg qc cur eb g1 g2) :
    Calls Try.prog 43 #[.iface 95 (.pointer (some ⟨tb, 3, none⟩)), .int .i64 0] w fun e w' => e = .returned (.iface 66 (.pointer (some ⟨eb, 0, none⟩))) ∧ w' = (w.setCell ⟨qg, 0, none⟩ (.pointer none)).setCell ⟨tb, 3, none⟩ (.slice (some ⟨qg, 0, none⟩) 0 qc) := by
  have c3 : w.cell? ⟨tb, 3, none⟩ = some (.slice (some ⟨qg, 0, none⟩) 1 qc) := cell_row h.t 3
  have HP : Hid _ := qPop_one h
  have hm := meth_len c3
  clear h c3
  go_enter Try.func43, Try.ntmps43
  go_wp2_with fail
  refine (qLen_any _ 1 qc _).mono ?_
  rintro e W2 ⟨rfl, hw2⟩
  rw [hw2]
  clear hw2 hm
  go_wp2_with fail
  refine Calls.mono HP.out ?_
  rintro e W3 ⟨rfl, hw3⟩
  rw [hw3]
  clear hw3
  go_wp2
  go_ret
  exact ⟨rfl, rfl⟩
set_option maxRecDepth 20000 in
set_option maxHeartbeats 1000000 in
theorem qremove_one {w : World} {B tb zb c : Nat} {room clock z : Int} {o r : Tup} {nat : Bool} {ex : Int} {qg qc : Nat} {cur : Array Value} {eb g1 g2 : Nat} (h : HasC w B tb zb c room clock z o r nat ex qg qc cur eb g1 g2) :
    Calls Try.prog 29 #[.pointer (some ⟨tb, 3, none⟩), .pointer (some ⟨eb, 0, none⟩)] w fun e w' => e = .returned (.tuple #[]) ∧ w' = (w.setCell ⟨qg, 0, none⟩ (.pointer none)).setCell ⟨tb, 3, none⟩ (.slice (some ⟨qg, 0, none⟩) 0 qc) := by
  have c13 : w.cell? ⟨eb, 13, none⟩ = some (.int .i64 0) := cell_row h.en 13
  have HP : Hid _ := hRemove_one h
  clear h
  go_enter Try.func29, Try.ntmps29
  go_wp2_with fail
  refine Calls.mono HP.out ?_
  rintro e W3 ⟨rfl, hw3⟩
  rw [hw3]
  clear hw3
  go_wp2
  go_end0
  exact ⟨rfl, rfl⟩
set_option maxHeartbeats 400000 in
theorem first_one {w : World} {B tb zb c : Nat} {room clock z : Int} {o r : Tup} {nat : Bool} {ex : Int} {qg qc : Nat} {cur : Array Value} {eb g1 g2 : Nat} (h : HasC w B tb zb c room clock z o r nat ex qg qc cur eb g1 g2) :
    Calls Try.prog 30 #[.slice (some ⟨qg, 0, none⟩) 1 qc] w fun e w' => e = .returned (.pointer (some ⟨eb, 0, none⟩)) ∧ w' = w := by
  have cq : w.cell? ⟨qg, 0, none⟩ = some (.pointer (some ⟨eb, 0, none⟩)) := (cell_row h.q 0).trans h.q0
  clear h
  go_enter Try.func30, Try.ntmps30
  go_wp2
  go_ret
  exact ⟨rfl, rfl⟩
set_option maxHeartbeats 400000 in
theorem isEmpty_any (m1 m2 : Option Nat) (n : Nat) (w : World) (hl : ∀ W, Below w.heap.size w W → (Builtin.len_ #[58] 3 #[.map m1]).run Try.prog W = .ok (.int .i64 n) W) :
    Calls Try.prog 45 #[.agg #[.map m1, .map m2]] w fun e w' => e = .returned (.bool (decide ((n : Int) = 0))) ∧ Below w.heap.size w w' := by
  have hl1 := hl _ (below1 w (.cells #[.map m1, .map m2] 60))
  clear hl
  go_enter Try.func45, Try.ntmps45
  go_wp2
  go_ret
  exact ⟨rfl, below1 _ _⟩
set_option linter.unusedSimpArgs false in
set_option maxRecDepth 20000 in
set_option maxHeartbeats 2000000 in
theorem zremove_one (r1 r2 c1 c2 eb : Nat) (x1 x2 : Value) (i1 i2 : Nat) (z : Int) (o r : Tup) (nat : Bool) (ex pl : Int) (w : World) (h12 : r1 ≠ r2)
    (h1 : w.heap[r1]? = some (.map (entG tv [(o, x1, i1)]).toArray c1)) (h2 : w.heap[r2]? = some (.map (entG tv [(r, x2, i2)]).toArray c2)) (he : w.heap[eb]? = some (.cells (entC z o r nat ex pl) 68 (0, 0))) (B : Nat) (hB1 : B ≤ r1) (hB2 : B ≤ r2) (hB3 : B ≤ w.heap.size) :
    Calls Try.prog 44 #[.agg #[.map (some r1), .map (some r2)], .pointer (some ⟨eb, 0, none⟩)] w fun e w' => e = .returned (.tuple #[]) ∧ w'.heap[r1]? = some (.map (entG tv []).toArray c1) ∧ w'.heap[r2]? = some (.map (entG tv []).toArray c2) ∧ (∀ g, g < w.heap.size → g ≠ r1 → g ≠ r2 → w'.heap[g]? = w.heap[g]?) ∧ Below B w w' := by
  obtain ⟨en, hen⟩ : ∃ en, entC z o r nat ex pl = en := ⟨_, rfl⟩
  have HO : Hid (en.extract 1 (1 + 5) = tupC o.1 o.2.1 o.2.2.1 o.2.2.2.1 o.2.2.2.2) := by show _ = _; rw [← hen]; exact ent_orig _ _ _ _ _ _
  have HR : Hid (en.extract 6 (6 + 5) = tupC r.1 r.2.1 r.2.2.1 r.2.2.2.1 r.2.2.2.2) := by show _ = _; rw [← hen]; exact ent_reply _ _ _ _ _ _
  rw [hen] at he
  have n1 : eb ≠ r1 := fun e => by subst e; rw [h1] at he; cases he
  have n2 : eb ≠ r2 := fun e => by subst e; rw [h2] at he; cases he
  have e1 := lt_of_heap h1
  have e2 := lt_of_heap h2
  have e3 := lt_of_heap he
  have H1 : Hid _ := h1
  have H2 : Hid _ := h2
  have HE : Hid _ := he
  have f1 : findG o [(o, x1, i1)] 0 = some (0, x1) := by simp [findG]
  have f2 : findG r [(r, x2, i2)] 0 = some (0, x2) := by simp [findG]
  have F1 : Hid _ := f1
  have F2 : Hid _ := f2
  clear hen h1 h2 he f1 f2
  go_enter Try.func44, Try.ntmps44
  go_wp2_with fail
  have A0 : Hid ((w.alloc (.cells #[.map (some r1), .map (some r2)] 60)).heap[w.heap.size]? = some (.cells #[.map (some r1), .map (some r2)] 60 (0, 0))) := heap_alloc_new _ _
  have A1 : Hid ((w.alloc (.cells #[.map (some r1), .map (some r2)] 60)).heap[eb]? = some (.cells en 68 (0, 0))) := (heap_alloc_old _ _ e3).trans HE.out
  have A2 : Hid ((w.alloc (.cells #[.map (some r1), .map (some r2)] 60)).drew.heap[r1]? = some (.map (entG tv [(o, x1, i1)]).toArray c1)) := (heap_alloc_old _ _ e1).trans H1.out
  refine wp_region_held_drew (S := (fun W => W.cell? ⟨w.heap.size, 0, none⟩ = some (.map (some r1)) ∧ W.heap[eb]? = some (.cells en 68 (0, 0)))) (by kernel_rfl) ?_ (fun hHeld => ?_)
  · exact ⟨cell_row A0.out 0, A1.out⟩
  refine wpAnyH_take (i := 0) (v := ?_) rfl (by kernel_rfl) (by kernel_rfl) (by kernel_rfl) (fun _ _ _ h => h) (Or.inl ⟨by rfl, ?_⟩) (by assumption) ?_
  rotate_left
  · (intro w hSw; (try dsimp only at hSw); go_simp; try with_reducible rfl)
  try simp only [List.getElem_toArray, List.getElem_cons_zero, List.getElem_cons_succ, Act.put, List.setIfInBounds_toArray, List.set_cons_zero, List.set_cons_succ]
  refine wpAnyH_take (i := 1) (v := ?_) rfl (by kernel_rfl) (by kernel_rfl) (by kernel_rfl) (fun _ _ _ h => h) (Or.inl ⟨by rfl, ?_⟩) (by assumption) ?_
  rotate_left
  · (intro w hSw; (try dsimp only at hSw); go_simp; try with_reducible rfl)
  try simp only [List.getElem_toArray, List.getElem_cons_zero, List.getElem_cons_succ, Act.put, List.setIfInBounds_toArray, List.set_cons_zero, List.set_cons_succ]
  refine wpAnyH_take (i := 2) (v := ?_) rfl (by kernel_rfl) (by kernel_rfl) (by kernel_rfl) (fun _ _ _ h => h) (Or.inl ⟨by rfl, ?_⟩) (by assumption) ?_
  rotate_left
  · (intro w hSw; (try dsimp only at hSw); go_simp; try with_reducible rfl)
  try simp only [List.getElem_toArray, List.getElem_cons_zero, List.getElem_cons_succ, Act.put, List.setIfInBounds_toArray, List.set_cons_zero, List.set_cons_succ]
  refine wpAnyH_take (i := 3) (v := ?_) rfl (by kernel_rfl) (by kernel_rfl) (by kernel_rfl) (fun _ _ _ h => h) (Or.inl ⟨by rfl, ?_⟩) (by assumption) ?_
  rotate_left
  · (intro w hSw; (try dsimp only at hSw); go_simp; try with_reducible rfl)
  try simp only [List.getElem_toArray, List.getElem_cons_zero, List.getElem_cons_succ, Act.put, List.setIfInBounds_toArray, List.set_cons_zero, List.set_cons_succ]
  refine wpAnyH_take (i := 4) (v := ?_) rfl (by kernel_rfl) (by kernel_rfl) (by kernel_rfl) (fun _ _ _ h => h) (Or.inl ⟨by rfl, ?_⟩) (by assumption) ?_
  rotate_left
  · (intro w hSw; (try dsimp only at hSw); go_simp; try with_reducible rfl)
  try simp only [List.getElem_toArray, List.getElem_cons_zero, List.getElem_cons_succ, Act.put, List.setIfInBounds_toArray, List.set_cons_zero, List.set_cons_succ]
  refine wpAnyH_take (i := 5) (v := ?_) rfl (by kernel_rfl) (by kernel_rfl) (by kernel_rfl) (fun _ _ _ h => h) (Or.inl ⟨by rfl, ?_⟩) (by assumption) ?_
  rotate_left
  · (intro w hSw; (try dsimp only at hSw); go_simp; try with_reducible rfl)
  try simp only [List.getElem_toArray, List.getElem_cons_zero, List.getElem_cons_succ, Act.put, List.setIfInBounds_toArray, List.set_cons_zero, List.set_cons_succ]
  refine wpAnyH_take (i := 6) (v := tv o) rfl (by kernel_rfl) (by kernel_rfl) (by kernel_rfl) (fun _ _ _ h => h) (yields_loadA (by rfl) 44 _ rfl eb 1 5 rfl 68 en _ _ (fun _ h => h.2) HO.out rfl Try.underlying44 rfl size5) (by assumption) ?_
  try simp only [List.getElem_toArray, List.getElem_cons_zero, List.getElem_cons_succ, Act.put, List.setIfInBounds_toArray, List.set_cons_zero, List.set_cons_succ]
  refine wpAnyH_ready (rs := [7]) (by kernel_rfl) (by simp) ?_
  refine AllReadyH.cons (o := _) rfl (fun K hK => ?_) AllReadyH.nil
  refine wp_delete _ _ 58 44 rfl (.map (some r1)) (tv o) rfl rfl (del_one tupK Try.underlying58 (l := [(o, x1, i1)]) (c := c1) A2.out o F1.out _ _ rfl) ?_
  obtain ⟨V, hV⟩ : ∃ V, putObj (w.alloc (.cells #[.map (some r1), .map (some r2)] 60)).drew r1 (.map (entG tv ([(o, x1, i1)].eraseIdx 0)).toArray c1) = V := ⟨_, rfl⟩
  have v1 : V.heap[r1]? = some (.map (entG tv []).toArray c1) := by rw [← hV]; exact putObj_same (lt_of_heap A2.out) _
  have vo : ∀ g, g ≠ r1 → V.heap[g]? = (w.alloc (.cells #[.map (some r1), .map (some r2)] 60)).heap[g]? := fun g hg => by rw [← hV]; exact putObj_other _ hg _
  have vs : V.heap.size = w.heap.size + 1 := by rw [← hV, putObj_size]; simp
  have vB : Below B w V := by rw [← hV]; exact (((below1 w _).mono hB3).drew).trans ((putObj_below _ r1 _).mono hB1)
  rw [hV]
  clear hV
  have vz : V.heap[w.heap.size]? = some (.cells #[.map (some r1), .map (some r2)] 60 (0, 0)) := (vo _ (by omega)).trans A0.out
  have ve : V.heap[eb]? = some (.cells en 68 (0, 0)) := (vo _ n1).trans A1.out
  refine hK.out _ _ ⟨cell_row vz 0, ve⟩ (fun hHeld2 => ?_)
  clear hK K hHeld hHeld2
  try simp only [List.getElem_toArray, List.getElem_cons_zero, List.getElem_cons_succ, Act.put, List.setIfInBounds_toArray, List.set_cons_zero, List.set_cons_succ]
  refine wpAnyH_done (by kernel_rfl) ?_ _
  have V1 : Hid _ := v1
  have VO : Hid _ := vo
  have VZ : Hid _ := vz
  have VE : Hid _ := ve
  have VB : Hid _ := vB
  have B2 : Hid (V.drew.heap[r2]? = some (.map (entG tv [(r, x2, i2)]).toArray c2)) := (vo _ (fun e => h12 e.symm)).trans ((heap_alloc_old _ _ e2).trans H2.out)
  clear v1 vo vz ve vB A0 A1 A2
  go_wp2_with fail
  refine wp_region_held_drew (S := (fun W => W.cell? ⟨w.heap.size, 1, none⟩ = some (.map (some r2)) ∧ W.heap[eb]? = some (.cells en 68 (0, 0)))) (by kernel_rfl) ?_ (fun hHeld => ?_)
  · exact ⟨cell_row VZ.out 1, VE.out⟩
  refine wpAnyH_take (i := 0) (v := ?_) rfl (by kernel_rfl) (by kernel_rfl) (by kernel_rfl) (fun _ _ _ h => h) (Or.inl ⟨by rfl, ?_⟩) (by assumption) ?_
  rotate_left
  · (intro w hSw; (try dsimp only at hSw); go_simp; try with_reducible rfl)
  try simp only [List.getElem_toArray, List.getElem_cons_zero, List.getElem_cons_succ, Act.put, List.setIfInBounds_toArray, List.set_cons_zero, List.set_cons_succ]
  refine wpAnyH_take (i := 1) (v := ?_) rfl (by kernel_rfl) (by kernel_rfl) (by kernel_rfl) (fun _ _ _ h => h) (Or.inl ⟨by rfl, ?_⟩) (by assumption) ?_
  rotate_left
  · (intro w hSw; (try dsimp only at hSw); go_simp; try with_reducible rfl)
  try simp only [List.getElem_toArray, List.getElem_cons_zero, List.getElem_cons_succ, Act.put, List.setIfInBounds_toArray, List.set_cons_zero, List.set_cons_succ]
  refine wpAnyH_take (i := 2) (v := ?_) rfl (by kernel_rfl) (by kernel_rfl) (by kernel_rfl) (fun _ _ _ h => h) (Or.inl ⟨by rfl, ?_⟩) (by assumption) ?_
  rotate_left
  · (intro w hSw; (try dsimp only at hSw); go_simp; try with_reducible rfl)
  try simp only [List.getElem_toArray, List.getElem_cons_zero, List.getElem_cons_succ, Act.put, List.setIfInBounds_toArray, List.set_cons_zero, List.set_cons_succ]
  refine wpAnyH_take (i := 3) (v := ?_) rfl (by kernel_rfl) (by kernel_rfl) (by kernel_rfl) (fun _ _ _ h => h) (Or.inl ⟨by rfl, ?_⟩) (by assumption) ?_
  rotate_left
  · (intro w hSw; (try dsimp only at hSw); go_simp; try with_reducible rfl)
  try simp only [List.getElem_toArray, List.getElem_cons_zero, List.getElem_cons_succ, Act.put, List.setIfInBounds_toArray, List.set_cons_zero, List.set_cons_succ]
  refine wpAnyH_take (i := 4) (v := ?_) rfl (by kernel_rfl) (by kernel_rfl) (by kernel_rfl) (fun _ _ _ h => h) (Or.inl ⟨by rfl, ?_⟩) (by assumption) ?_
  rotate_left
  · (intro w hSw; (try dsimp only at hSw); go_simp; try with_reducible rfl)
  try simp only [List.getElem_toArray, List.getElem_cons_zero, List.getElem_cons_succ, Act.put, List.setIfInBounds_toArray, List.set_cons_zero, List.set_cons_succ]
  refine wpAnyH_take (i := 5) (v := ?_) rfl (by kernel_rfl) (by kernel_rfl) (by kernel_rfl) (fun _ _ _ h => h) (Or.inl ⟨by rfl, ?_⟩) (by assumption) ?_
  rotate_left
  · (intro w hSw; (try dsimp only at hSw); go_simp; try with_reducible rfl)
  try simp only [List.getElem_toArray, List.getElem_cons_zero, List.getElem_cons_succ, Act.put, List.setIfInBounds_toArray, List.set_cons_zero, List.set_cons_succ]
  refine wpAnyH_take (i := 6) (v := tv r) rfl (by kernel_rfl) (by kernel_rfl) (by kernel_rfl) (fun _ _ _ h => h) (yields_loadA (by rfl) 44 _ rfl eb 6 5 rfl 68 en _ _ (fun _ h => h.2) HR.out rfl Try.underlying44 rfl size5) (by assumption) ?_
  try simp only [List.getElem_toArray, List.getElem_cons_zero, List.getElem_cons_succ, Act.put, List.setIfInBounds_toArray, List.set_cons_zero, List.set_cons_succ]
  refine wpAnyH_ready (rs := [7]) (by kernel_rfl) (by simp) ?_
  refine AllReadyH.cons (o := _) rfl (fun K hK => ?_) AllReadyH.nil
  refine wp_delete _ _ 58 44 rfl (.map (some r2)) (tv r) rfl rfl (del_one tupK Try.underlying58 (l := [(r, x2, i2)]) (c := c2) B2.out r F2.out _ _ rfl) ?_
  obtain ⟨U, hU⟩ : ∃ U, putObj V.drew r2 (.map (entG tv ([(r, x2, i2)].eraseIdx 0)).toArray c2) = U := ⟨_, rfl⟩
  have u2 : U.heap[r2]? = some (.map (entG tv []).toArray c2) := by rw [← hU]; exact putObj_same (lt_of_heap B2.out) _
  have uo : ∀ g, g ≠ r2 → U.heap[g]? = V.heap[g]? := fun g hg => by rw [← hU]; exact putObj_other _ hg _
  have uB : Below B w U := by rw [← hU]; exact VB.out.drew.trans ((putObj_below _ r2 _).mono hB2)
  rw [hU]
  clear hU
  refine hK.out _ _ ⟨cell_row ((uo _ (by omega)).trans VZ.out) 1, (uo _ n2).trans VE.out⟩ (fun hHeld2 => ?_)
  clear hK K hHeld hHeld2
  try simp only [List.getElem_toArray, List.getElem_cons_zero, List.getElem_cons_succ, Act.put, List.setIfInBounds_toArray, List.set_cons_zero, List.set_cons_succ]
  refine wpAnyH_done (by kernel_rfl) ?_ _
  go_wp2
  go_end0
  refine ⟨rfl, (uo _ h12).trans V1.out, u2, fun g hg g1 g2 => (uo _ g2).trans ((VO.out _ g1).trans (heap_alloc_old _ _ hg)), uB⟩
end Go.Proofs.Ytjjehncnjcepkaa
