/- The rows of the table of actions. No condition. -/
import Derived.Test.YtikbjckcnidimaaGreatDoorFI
namespace Go.Proofs.YtikbjckcnidimaaGreatDoor
open Go.RowKit
/-- A function without captures. -/
abbrev fnV (k : Nat) : Value := .func (Fn.func k) #[] #[]
/-- The table of actions. -/
def tabC : Array Value := #[.nilFunc, .nilFunc, .nilFunc, fnV 52, fnV 53, fnV 54, fnV 55, fnV 56, fnV 57,
  fnV 50, fnV 58, fnV 59, fnV 60, fnV 61, .nilFunc, fnV 62, fnV 58, .nilFunc,
  fnV 51, fnV 63, .nilFunc, fnV 51, fnV 63, .nilFunc, fnV 51, fnV 63, .nilFunc, fnV 51, fnV 63, .nilFunc,
  fnV 64, fnV 65, fnV 66, fnV 67, fnV 68, fnV 69, fnV 50, fnV 58, fnV 70,
  fnV 71, fnV 72, fnV 73, fnV 74, fnV 75, fnV 76]
theorem wpList_build_as {P : Program} {ops : Array Oper} {rest : List Oper} {op : Oper} {a : Act} {w : World} {Q : Exit → Act → World → Prop} (hgd : op.guard = none) (t : TypeId) (parts : Array (Nat × Operand)) (ho : op.op = .build t parts)
    (cells : Array Value) (hc : P.built t (parts.map fun (i, x) => (i, a.eval x)).toList = some cells)
    (h : wpList P ops Q rest (a.put op.dst (.agg cells)) w) : wpList P ops Q (op :: rest) a w := by
  refine wpList_plain hgd fun K hK => ?_
  unfold Oper.wp execOp
  simp only [ho, Sem.run_bind, run_build w t _ cells hc, Result.andThen_ok]
  exact hK _ _ h
theorem wpList_load_at {P : Program} {ops : Array Oper} {rest : List Oper} {op : Oper} {a : Act} {w : World} {Q : Exit → Act → World → Prop} (hgd : op.guard = none) (ty : TypeId) (x : Operand) (ho : op.op = .load ty x)
    (g o n : Nat) (hx : a.eval x = .pointer (some ⟨g, o, none⟩)) (cs : Array Value) (t : TypeId) (d : TypeDesc) (hg : w.heap[g]? = some (.cells cs t (0, 0)))
    (hu : P.underlying ty = some d) (hd : d.isRow = true) (hn : (cs.extract o (o + n)).size = n) (hi : (P.info? ty).map (·.size) = some n)
    (h : wpList P ops Q rest (a.put op.dst (.agg (cs.extract o (o + n)))) w) : wpList P ops Q (op :: rest) a w := by
  have hr := World.rangeAt_of_block hg o n
  refine wpList_load_mid hgd ty x ho g o hx (cs.extract o (o + n)).toList d hr hu hd (by rw [Array.length_toList, hn]; exact hi) ?_
  rw [Array.toArray_toList]
  exact h
theorem size3 : (Tryz.prog.info? 72).map (·.size) = some 3 := by kernel_rfl
theorem extract_one {cs : Array Value} (h : cs.all (·.oneCell') = true) (i j : Nat) : (cs.extract i j).all (·.oneCell') = true := by
  rw [Array.all_eq_true_iff_forall_mem] at *
  intro x hx
  obtain ⟨q, hq, rfl⟩ := Array.mem_iff_getElem.1 hx
  rw [Array.getElem_extract]
  exact h _ (Array.getElem_mem _)
theorem tab_size (k : Nat) (hk : k < 15) : (tabC.extract (k * 3) (k * 3 + 3)).size = 3 := by
  have : tabC.size = 45 := rfl
  rw [Array.size_extract, this]; omega
theorem tab_one (k : Nat) : (tabC.extract (k * 3) (k * 3 + 3)).all (·.oneCell') = true := extract_one (by kernel_rfl) _ _
set_option maxRecDepth 20000 in
set_option maxHeartbeats 1000000 in
theorem arow_in (k : Nat) (hk : k < 15) (w : World) : Calls Tryz.prog 25 #[.int .i64 k] w fun e w' => e = .returned (.agg (tabC.extract (k * 3) (k * 3 + 3))) ∧ Below w.heap.size w w' := by
  have h1 : (k : Int) < 15 := by omega
  have hs := tab_size k hk
  have HS : Hid _ := hs
  have hi : (Tryz.prog.info? 72).map (·.size) = some (tabC.extract (k * 3) (k * 3 + 3)).size := by rw [hs]; exact size3
  have HI : Hid _ := hi
  clear hs hi
  go_enter Tryz.func25, Tryz.ntmps25
  go_wp2_with (first
    | refine wpList_build_as rfl 97 _ rfl tabC (by kernel_rfl) ?_
    | refine wpList_store_new rfl 97 _ _ rfl _ tabC (w.heap.size + 1) (by simp) rfl rfl (by kernel_rfl) (by kernel_rfl) (by kernel_rfl) ?_
    | refine wpList_load_at rfl 72 _ rfl (w.heap.size + 1) (k * 3) 3 rfl tabC 97 _ (two_last _ _ _) Tryz.underlying72 rfl HS.out size3 ?_
    | refine wpList_store_row rfl 72 _ _ rfl w.heap.size _ (tabC.extract (k * 3) (k * 3 + 3)) 72 rfl rfl (two_first _ _ _) HI.out HS.out.symm (tab_one k) ?_
    | fail)
  intro W9 z1 z2 z3 z4
  go_wp2
  exact bodyPost_ret (results_cell_row (p := 2) (ty := 72) rfl _ _ w.heap.size 72 _ (0, 0) _ rfl z1 Tryz.underlying72 rfl HI.out) rfl ⟨rfl, (below2 w _ _).trans z4⟩
set_option maxRecDepth 20000 in
set_option maxHeartbeats 1000000 in
theorem arow_out (k : Int) (hk : k < 0 ∨ 15 ≤ k) (w : World) : Calls Tryz.prog 25 #[.int .i64 k] w fun e w' => e = .returned (.agg #[.nilFunc, .nilFunc, .nilFunc]) ∧ Below w.heap.size w w' := by
  by_cases h0 : k < 0
  · go_enter Tryz.func25, Tryz.ntmps25
    go_wp2_with (first
      | refine wpList_build_as rfl 97 _ rfl tabC (by kernel_rfl) ?_
      | refine wpList_store_new rfl 97 _ _ rfl _ tabC (w.heap.size + 1) (by simp) rfl rfl (by kernel_rfl) (by kernel_rfl) (by kernel_rfl) ?_
      | fail)
    exact bodyPost_ret (results_cell_row (p := 2) (ty := 72) rfl _ _ w.heap.size 72 _ (0, 0) _ rfl (two_first _ _ _) Tryz.underlying72 rfl (by kernel_rfl)) rfl ⟨rfl, below2 w _ _⟩
  · have h1 : 15 ≤ k := by omega
    have h2 : 0 ≤ k := by omega
    clear h0 hk
    go_enter Tryz.func25, Tryz.ntmps25
    go_wp2_with (first
      | refine wpList_build_as rfl 97 _ rfl tabC (by kernel_rfl) ?_
      | refine wpList_store_new rfl 97 _ _ rfl _ tabC (w.heap.size + 1) (by simp) rfl rfl (by kernel_rfl) (by kernel_rfl) (by kernel_rfl) ?_
      | fail)
    exact bodyPost_ret (results_cell_row (p := 2) (ty := 72) rfl _ _ w.heap.size 72 _ (0, 0) _ rfl (two_first _ _ _) Tryz.underlying72 rfl (by kernel_rfl)) rfl ⟨rfl, below2 w _ _⟩
end Go.Proofs.YtikbjckcnidimaaGreatDoor
