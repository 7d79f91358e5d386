/- Has of package field. Conditions: the State's cells are of their kinds. -/
import Derived.Test.YthodjgaaojmihaaDoorFF
namespace Go.Proofs.YthodjgaaojmihaaDoor.Fl
open Go.RowKit
theorem wpList_load_headw {P : Program} {ops : Array Oper} {rest : List Oper} {op : Oper} {a : Act} {w : World} {Q : Exit → Act → World → Prop} (hw : Region.wanted op (yielded ops a.tmps) = true) (ty : TypeId) (x : Operand) (ho : op.op = .load ty x)
    (g n : Nat) (hx : a.eval x = .pointer (some ⟨g, 0, none⟩)) (cs : Array Value) (t : TypeId) (d : TypeDesc) (hg : w.heap[g]? = some (.cells cs t (0, 0)))
    (hu : P.underlying ty = some d) (hd : d.isRow = true) (hn : (cs.extract 0 n).size = n) (hi : (P.info? ty).map (·.size) = some n)
    (h : wpList P ops Q rest (a.put op.dst (.agg (cs.extract 0 n))) w) : wpList P ops Q (op :: rest) a w := by
  have hr := World.rangeAt_of_block hg 0 n
  rw [Nat.zero_add] at hr
  refine BigFrame.wpList_want hw fun K hK => ?_
  refine wp_load_mid ty x ho g 0 hx (cs.extract 0 n).toList d hr hu hd (by rw [Array.length_toList, hn]; exact hi) ?_
  rw [Array.toArray_toList]
  exact hK _ _ h
set_option maxHeartbeats 1000000 in
set_option maxRecDepth 20000 in
theorem has_any (f : Nat) (hf : 1 ≤ f) (hf2 : f ≤ 28) (cs : Array Value) (hst : St cs) (w : World) :
    Calls Tryd.prog 8 #[.agg cs, .int .i64 f] w fun e w' => e = .returned (.bool (hasF f cs)) ∧ Below w.heap.size w w' := by
  obtain ⟨hp0, hp5, hp11, hp20⟩ := packet_cells hst
  have HP : Hid _ := And.intro hp5 (And.intro hp11 hp20)
  have HP0 : Hid _ := hp0
  have HST : Hid _ := hst
  clear hst hp5 hp11 hp20 hp0
  go_enter Tryd.func8, Tryd.ntmps8
  go_wp2_with fail
  refine (rowOf_any f hf hf2 _).mono ?_
  rintro e W1 ⟨R, S, rfl, hrow, hb1⟩
  obtain ⟨r, cap, rfl, hcall, hread⟩ := hrow.read
  obtain ⟨s, cap2, rfl, _, _⟩ := hrow.write
  have hS1 : W1.heap[w.heap.size]? = some (.cells cs 43 (0, 0)) := (hb1.block _ (by simp)).trans (heap_alloc_new _ _)
  have hlt1 : w.heap.size < W1.heap.size := by have := hb1.size; simp at this; omega
  have HS1 : Hid _ := hS1
  have HB1 : Hid (Below w.heap.size w W1) := (below1 w _).trans (hb1.mono (by simp))
  clear hrow hb1 hS1 hread
  unfold rowV
  go_wp2_with fail
  refine (isField_any (fName f) _ _ _ _ _).mono ?_
  rintro e W2 ⟨rfl, hb2⟩
  rw [fName_ne f hf hf2]
  have hS2 : W2.heap[w.heap.size]? = some (.cells cs 43 (0, 0)) := (hb2.block _ (by simp; omega)).trans ((heap_alloc_old _ _ (by omega)).trans HS1.out)
  have hR2 : W2.heap[W1.heap.size]? = some (.cells #[.string (fName f), .int .i64 (fBits f), .int .i64 (fOf f), .func (Fn.func r) #[] cap, .func (Fn.func s) #[] cap2] 69 (0, 0)) := (hb2.block _ (by simp)).trans (heap_alloc_new _ _)
  have HB2 : Hid (Below W1.heap.size W1 W2) := (below1 W1 _).trans (hb2.mono (by simp))
  have r2 := cell_row hR2 2
  simp only [List.getElem?_toArray, List.getElem?_cons_succ, List.getElem?_cons_zero] at r2
  have HS2 : Hid _ := hS2
  clear hb2 hS2 hR2 HS1
  go_wp2_with (first
    | refine wpList_load_headw (by rfl) 34 _ rfl w.heap.size 36 rfl cs 43 _ HS2.out Tryd.underlying34 rfl HP0.out info44 ?_
    | fail)
  refine (isOf_any (fOf f) (fOf_le f) _ _ _ _ HP.out.1 HP.out.2.1 HP.out.2.2 _).mono ?_
  rintro e W3 ⟨rfl, hb3⟩
  have HB3 : Hid (Below W1.heap.size W1 W3) := HB2.out.trans (hb3.mono HB2.out.size)
  clear hb3 r2 HB2 HS2
  rw [show ofB (fOf f) (boolAt cs 5) (boolAt cs 11) (numAt cs 20) = hasF f cs from rfl]
  go_wp2
  go_ret
  exact ⟨rfl, HB1.out.trans (HB3.out.mono HB1.out.size)⟩
end Go.Proofs.YthodjgaaojmihaaDoor.Fl
