/- Check, Pure and Step of package act, out of what a kind's functions answer; hop. Conditions: as said. -/
import Derived.Test.YtikbjckcnidimaaGreatDoorAC
namespace Go.Proofs.YtikbjckcnidimaaGreatDoor
open Go.RowKit
theorem three_last (w : World) (A B C : Obj) : (((w.alloc A).alloc B).alloc C).heap[w.heap.size + 1 + 1]? = some C := by
  have := heap_alloc_new ((w.alloc A).alloc B) C
  simpa using this
set_option maxRecDepth 20000 in
set_option maxHeartbeats 1000000 in
theorem check_gen (A : Array Value) (hs : A.size = 15) (b : Bool) (w : World) (h : ∀ W, Below w.heap.size w W → Calls Tryz.prog 20 #[.agg A, .int .i64 0] W fun e W' => e = .returned (.bool b) ∧ Below W.heap.size W W') :
    Calls Tryz.prog 10 #[.agg A] w fun e w' => e = .returned (.int .i64 (if b then 0 else 110)) ∧ Below w.heap.size w w' := by
  have HI : Hid _ := info15 hs
  have HH : Hid _ := h
  clear h hs
  go_enter Tryz.func10, Tryz.ntmps10
  go_wp2_with (first
    | refine wpList_load_row rfl 29 _ rfl w.heap.size rfl 29 A (0, 0) _ (heap_alloc_new _ _) Tryz.underlying29 rfl HI.out ?_
    | fail)
  refine (HH.out _ (below1 _ _)).mono ?_
  rintro e W1 ⟨rfl, hb1⟩
  have HB1 : Hid (Below w.heap.size w W1) := (below1 w _).trans (hb1.mono (by simp))
  clear hb1
  cases b
  all_goals
    go_wp2
    go_ret
    exact ⟨rfl, HB1.out⟩
theorem yields_loadR {ops : Array Oper} {S : World → Prop} {op : Oper} {a : Act} (hw : Region.wanted op (yielded ops a.tmps) = true) (ty : TypeId) (x : Operand) (ho : op.op = .load ty x)
    (b : Nat) (hx : a.eval x = .pointer (some ⟨b, 0, none⟩)) (t : TypeId) (cs : Array Value) (d : TypeDesc) (hS : ∀ w, S w → w.heap[b]? = some (.cells cs t (0, 0)))
    (hu : Tryz.prog.underlying ty = some d) (hd : d.isRow = true) (hi : (Tryz.prog.info? ty).map (·.size) = some cs.size) : YieldsIf Tryz.prog ops S op (.agg cs) a := by
  have := yieldsIf_load_mid (P := Tryz.prog) (ops := ops) (S := S) (op := op) (a := a) hw ty x ho b 0 hx cs.toList d (fun w hw' => by
    have h := World.rangeAt_of_block (hS w hw') 0 cs.size
    simpa using h) hu hd (by simpa using hi)
  simpa using this
theorem field_step (a b c : Value) (W : World) : (Instr.field 72 (.agg #[a, b, c]) 2).run Tryz.prog W = .ok c W := by
  simp [Instr.field, go_sem, asAgg]
set_option maxRecDepth 20000 in
set_option maxHeartbeats 1000000 in
theorem pure_gen (k : Nat) (hk : k < 15) (a b : Value) (g : Nat) (hrow : tabC.extract (k * 3) (k * 3 + 3) = #[a, b, fnV g]) (w : World) :
    Calls Tryz.prog 14 #[.int .i64 k] w fun e w' => e = .returned (.bool true) ∧ Below w.heap.size w w' := by
  have hne := neq_step g
  have hfl := field_step
  have HROW : Hid _ := hrow
  clear hrow
  go_enter Tryz.func14, Tryz.ntmps14
  go_wp2_with fail
  refine (arow_lit k hk _ _ _ HROW.out _).mono ?_
  rintro e W1 ⟨rfl, hb1⟩
  have HB : Hid _ := hb1
  clear hb1
  go_wp2
  go_ret
  exact ⟨rfl, HB.out⟩
set_option linter.unusedSimpArgs false in
set_option maxRecDepth 20000 in
set_option maxHeartbeats 2000000 in
theorem step_gen (k : Nat) (hk : k < 15) (A cs R : Array Value) (E : Int) (a b : Value) (g : Nat) (hrow : tabC.extract (k * 3) (k * 3 + 3) = #[a, b, fnV g]) (h0 : A[0]? = some (.int .i64 k)) (hA : A.size = 15) (hcs : cs.size = 49) (hR : R.size = 49) (hR1 : R.all (·.oneCell') = true) (w : World)
    (hcall : ∀ args W, (callFunc g args).run Tryz.prog W = .ok (.enter g args) W)
    (hcheck : ∀ W, Below w.heap.size w W → Calls Tryz.prog 10 #[.agg A] W fun e W' => e = .returned (.int .i64 0) ∧ Below W.heap.size W W')
    (hstep : ∀ W, Below w.heap.size w W → Calls Tryz.prog g #[.agg cs, .agg A] W fun e W' => e = .returned (.tuple #[.agg R, .int .i64 E]) ∧ Below W.heap.size W W') :
    Calls Tryz.prog 16 #[.agg cs, .agg A] w fun e w' => e = .returned (.tuple #[.agg R, .int .i64 E]) ∧ Below w.heap.size w w' := by
  have HIA : Hid _ := info15 hA
  have HIC : Hid _ := info_size hcs
  have HIR : Hid _ := info_size hR
  have HROW : Hid _ := hrow
  have HC : Hid _ := hcheck
  have HST : Hid _ := hstep
  have HR1 : Hid _ := hR1
  have HR : Hid _ := hR
  have HCS : Hid _ := hcs
  have hfl := field_step
  clear hrow hcheck hstep hR1 hR hcs hA
  go_enter Tryz.func16, Tryz.ntmps16
  go_wp2_with fail
  refine (pure_gen k hk _ _ _ HROW.out _).mono ?_
  rintro e W1 ⟨rfl, hb1⟩
  have hS1 : W1.heap[w.heap.size]? = some (.cells cs 50 (0, 0)) := (hb1.block _ (by simp; omega)).trans ((heap_alloc_old _ _ (by simp; omega)).trans (two_first _ _ _))
  have hA1 : W1.heap[w.heap.size + 1]? = some (.cells A 29 (0, 0)) := (hb1.block _ (by simp)).trans ((heap_alloc_old _ _ (by simp)).trans (two_last _ _ _))
  have hZ1 : W1.heap[w.heap.size + 1 + 1]? = some (.cells zeroC 50 (0, 0)) := (hb1.block _ (by simp)).trans (three_last _ _ _ _)
  have HB1 : Hid (Below w.heap.size w W1) := (below3 w _ _ _).trans (hb1.mono (by simp; omega))
  have HS1 : Hid _ := hS1
  have HA1 : Hid _ := hA1
  have HZ1 : Hid _ := hZ1
  clear hb1 hS1 hA1 hZ1
  go_wp2_with (first
    | refine wpList_load_want (by rfl) 29 _ rfl (w.heap.size + 1) rfl 29 A (0, 0) _ HA1.out Tryz.underlying29 rfl HIA.out ?_
    | fail)
  refine (HC.out _ HB1.out).mono ?_
  rintro e W2 ⟨rfl, hb2⟩
  have hS2 : W2.heap[w.heap.size]? = some (.cells cs 50 (0, 0)) := (hb2.block _ (lt_of_heap HS1.out)).trans HS1.out
  have hA2 : W2.heap[w.heap.size + 1]? = some (.cells A 29 (0, 0)) := (hb2.block _ (lt_of_heap HA1.out)).trans HA1.out
  have hZ2 : W2.heap[w.heap.size + 1 + 1]? = some (.cells zeroC 50 (0, 0)) := (hb2.block _ (lt_of_heap HZ1.out)).trans HZ1.out
  have HB2 : Hid (Below w.heap.size w W2) := HB1.out.trans (hb2.mono HB1.out.size)
  have key : ∀ W, Below W2.heap.size W2 W → W.cell? ⟨w.heap.size + 1, 0, none⟩ = some (.int .i64 k) ∧ W.heap[w.heap.size]? = some (.cells cs 50 (0, 0)) ∧ W.heap[w.heap.size + 1]? = some (.cells A 29 (0, 0)) ∧ W.heap[w.heap.size + 1 + 1]? = some (.cells zeroC 50 (0, 0)) ∧ Below w.heap.size w W := fun W hb => by
    have qA := (hb.block _ (lt_of_heap hA2)).trans hA2
    exact ⟨(cell_row qA 0).trans h0, (hb.block _ (lt_of_heap hS2)).trans hS2, qA, (hb.block _ (lt_of_heap hZ2)).trans hZ2, HB2.out.trans (hb.mono HB2.out.size)⟩
  have KC : Hid _ := key
  clear hb2 hS2 hA2 hZ2 HS1 HA1 HZ1 HB1 key
  go_wp2_with fail
  refine wp_region_held_drew (S := (fun W => W.cell? ⟨w.heap.size + 1, 0, none⟩ = some (.int .i64 k) ∧ W.heap[w.heap.size]? = some (.cells cs 50 (0, 0)) ∧ W.heap[w.heap.size + 1]? = some (.cells A 29 (0, 0)) ∧ Below w.heap.size w W)) (by kernel_rfl) ?_ (fun hHeld => ?_)
  · have q := KC.out _ (Below.refl _ _).drew
    exact ⟨q.1, q.2.1, q.2.2.1, q.2.2.2.2⟩
  refine wpAnyH_take (i := 0) (v := ?_) rfl (by kernel_rfl) (by kernel_rfl) (by kernel_rfl) (fun _ _ _ h => h) (Or.inl ⟨by rfl, ?_⟩) (by assumption) ?_
  rotate_left
  · (intro w hSw; (try dsimp only at hSw); go_simp; try with_reducible rfl)
  try simp only [List.getElem_toArray, List.getElem_cons_zero, List.getElem_cons_succ, Act.put, List.setIfInBounds_toArray, List.set_cons_zero, List.set_cons_succ]
  refine wpAnyH_take (i := 1) (v := ?_) rfl (by kernel_rfl) (by kernel_rfl) (by kernel_rfl) (fun _ _ _ h => h) (Or.inl ⟨by rfl, ?_⟩) (by assumption) ?_
  rotate_left
  · (intro w hSw; (try dsimp only at hSw); go_simp; try with_reducible rfl)
  try simp only [List.getElem_toArray, List.getElem_cons_zero, List.getElem_cons_succ, Act.put, List.setIfInBounds_toArray, List.set_cons_zero, List.set_cons_succ]
  refine wpAnyH_take (i := 4) (v := .agg cs) rfl (by kernel_rfl) (by kernel_rfl) (by kernel_rfl) (fun _ _ _ h => h) (yields_loadR (by rfl) 50 _ rfl w.heap.size rfl 50 cs _ (fun _ h => h.2.1) Tryz.underlying50 rfl HIC.out) (by assumption) ?_
  try simp only [List.getElem_toArray, List.getElem_cons_zero, List.getElem_cons_succ, Act.put, List.setIfInBounds_toArray, List.set_cons_zero, List.set_cons_succ]
  refine wpAnyH_take (i := 5) (v := .agg A) rfl (by kernel_rfl) (by kernel_rfl) (by kernel_rfl) (fun _ _ _ h => h) (yields_loadR (by rfl) 29 _ rfl (w.heap.size + 1) rfl 29 A _ (fun _ h => h.2.2.1) Tryz.underlying29 rfl HIA.out) (by assumption) ?_
  try simp only [List.getElem_toArray, List.getElem_cons_zero, List.getElem_cons_succ, Act.put, List.setIfInBounds_toArray, List.set_cons_zero, List.set_cons_succ]
  refine wpAnyH_ready (rs := [2]) (by kernel_rfl) (by simp) ?_
  refine AllReadyH.cons (o := _) rfl (fun K hK => ?_) AllReadyH.nil
  go_simp
  clear hHeld
  have hD : Below W2.heap.size W2 W2.drew := (Below.refl _ _).drew
  refine (arow_lit k hk _ _ _ HROW.out _).mono ?_
  rintro e W3 ⟨rfl, hb3⟩
  go_wp2_with fail
  have hD3 : Below W2.heap.size W2 W3 := hD.trans hb3
  have k3 := KC.out _ hD3
  refine hK.out _ _ ⟨k3.1, k3.2.1, k3.2.2.1, k3.2.2.2.2⟩ (fun hHeld => ?_)
  clear hK K hb3 hD
  try simp only [List.getElem_toArray, List.getElem_cons_zero, List.getElem_cons_succ, Act.put, List.setIfInBounds_toArray, List.set_cons_zero, List.set_cons_succ]
  refine wpAnyH_take (i := 3) (v := ?_) rfl (by kernel_rfl) (by kernel_rfl) (by kernel_rfl) (fun _ _ _ h => h) (Or.inl ⟨by rfl, ?_⟩) (by assumption) ?_
  rotate_left
  · (intro w hSw; (try dsimp only at hSw); go_simp; try with_reducible rfl)
  try simp only [List.getElem_toArray, List.getElem_cons_zero, List.getElem_cons_succ, Act.put, List.setIfInBounds_toArray, List.set_cons_zero, List.set_cons_succ]
  refine wpAnyH_ready (rs := [6]) (by kernel_rfl) (by simp) ?_
  refine AllReadyH.cons (o := _) rfl (fun K hK => ?_) AllReadyH.nil
  go_simp
  clear hHeld
  refine (HST.out _ k3.2.2.2.2).mono ?_
  rintro e W4 ⟨rfl, hb4⟩
  go_wp2_with fail
  have hD4 : Below W2.heap.size W2 W4 := hD3.trans (hb4.mono hD3.size)
  have k4 := KC.out _ hD4
  refine hK.out _ _ ⟨k4.1, k4.2.1, k4.2.2.1, k4.2.2.2.2⟩ (fun hHeld => ?_)
  clear hK K hb4 k3
  try simp only [List.getElem_toArray, List.getElem_cons_zero, List.getElem_cons_succ, Act.put, List.setIfInBounds_toArray, List.set_cons_zero, List.set_cons_succ]
  refine wpAnyH_take (i := 7) (v := ?_) rfl (by kernel_rfl) (by kernel_rfl) (by kernel_rfl) (fun _ _ _ h => h) (Or.inl ⟨by rfl, ?_⟩) (by assumption) ?_
  rotate_left
  · (intro w hSw; (try dsimp only at hSw); go_simp; try with_reducible rfl)
  try simp only [List.getElem_toArray, List.getElem_cons_zero, List.getElem_cons_succ, Act.put, List.setIfInBounds_toArray, List.set_cons_zero, List.set_cons_succ]
  refine wpAnyH_take (i := 8) (v := ?_) rfl (by kernel_rfl) (by kernel_rfl) (by kernel_rfl) (fun _ _ _ h => h) (Or.inl ⟨by rfl, ?_⟩) (by assumption) ?_
  rotate_left
  · (intro w hSw; (try dsimp only at hSw); go_simp; try with_reducible rfl)
  try simp only [List.getElem_toArray, List.getElem_cons_zero, List.getElem_cons_succ, Act.put, List.setIfInBounds_toArray, List.set_cons_zero, List.set_cons_succ]
  refine wpAnyH_ready (rs := [9]) (by kernel_rfl) (by simp) ?_
  refine AllReadyH.cons (o := _) rfl (fun K hK => ?_) AllReadyH.nil
  clear hHeld
  refine wp_store_row 50 _ _ rfl (w.heap.size + 1 + 1) zeroC R 50 rfl rfl k4.2.2.2.1 HIR.out (Eq.trans (b := 49) rfl HR.out.symm) HR1.out ?_
  intro W6 z1 z2 z3 z4
  have k6 : W6.cell? ⟨w.heap.size + 1, 0, none⟩ = some (.int .i64 k) ∧ W6.heap[w.heap.size]? = some (.cells cs 50 (0, 0)) ∧ W6.heap[w.heap.size + 1]? = some (.cells A 29 (0, 0)) ∧ Below w.heap.size w W6 := by
    have qA := (z2 (w.heap.size + 1) (by omega)).trans k4.2.2.1
    exact ⟨(cell_row qA 0).trans h0, (z2 _ (by omega)).trans k4.2.1, qA, k4.2.2.2.2.trans (z4.mono (by omega))⟩
  refine hK.out _ _ k6 (fun hHeld => ?_)
  clear hK K
  try simp only [List.getElem_toArray, List.getElem_cons_zero, List.getElem_cons_succ, Act.put, List.setIfInBounds_toArray, List.set_cons_zero, List.set_cons_succ]
  refine wpAnyH_take (i := 10) (v := ?_) rfl (by kernel_rfl) (by kernel_rfl) (by kernel_rfl) (fun _ _ _ h => h) (Or.inl ⟨by rfl, ?_⟩) (by assumption) ?_
  rotate_left
  · (intro w hSw; (try dsimp only at hSw); go_simp; try with_reducible rfl)
  try simp only [List.getElem_toArray, List.getElem_cons_zero, List.getElem_cons_succ, Act.put, List.setIfInBounds_toArray, List.set_cons_zero, List.set_cons_succ]
  refine wpAnyH_done (by kernel_rfl) ?_ _
  go_wp2
  refine bodyPost_ret (results_state (p := 4) (u := 5) rfl _ _ (w.heap.size + 1 + 1) R rfl z1 HR.out) rfl ⟨rfl, k6.2.2.2⟩
end Go.Proofs.YtikbjckcnidimaaGreatDoor
