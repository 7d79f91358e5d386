/- Laws over blocks of memory: rows of cells, loads and stores of structs. Plain laws; no condition. -/
import Derived.Test.YtjjehncnjcepkaaRows
import Derived.WalkKit
import Derived.ScopeJumps
import Derived.WalkMore
import Derived.OpenShut
import Derived.WalkLawsBesides
import Derived.WalkSmall
import Derived.Below
import Derived.Laws.EntriesVeiled
import Derived.Laws.Rows
import Derived.Laws.Tables
import Derived.Laws.ResultCell
import Derived.Deep.WholeRow
import Derived.Deep.MidRow
import Derived.Deep.QuietTactic
import Derived.BigQuiet
namespace Go.Proofs.Ytjjehncnjcepkaa
open Go.RowKit
theorem cell_lt {w : World} {a : Addr} {v : Value} (h : w.cell? a = some v) : a.block < w.heap.size := by
  unfold World.cell? at h
  by_cases hb : a.block < w.heap.size
  · exact hb
  · have : w.heap[a.block]? = none := Array.getElem?_eq_none (by omega)
    simp [this] at h
/-- A whole struct into the block that was made last. -/
theorem wpList_store_new {P : Program} {ops : Array Oper} {rest : List Oper} {op : Oper} {a : Act} {w : World} {Q : Exit → Act → World → Prop} (hgd : op.guard = none) (ty : TypeId) (x y : Operand) (ho : op.op = .store ty x y)
    (c c' : Array Value) (b : Nat) (hb : b = w.heap.size) (hx : a.eval x = .pointer (some ⟨b, 0, none⟩)) (hy : a.eval y = .agg c')
    (hi : (P.info? ty).map (·.size) = some c'.size) (hs : c.size = c'.size) (h1 : c'.all (·.oneCell') = true)
    (h : wpList P ops Q rest (a.put op.dst undef) (w.alloc (.cells c' ty))) : wpList P ops Q (op :: rest) a (w.alloc (.cells c ty)) := by
  subst hb
  refine wpList_plain hgd fun K hK => ?_
  unfold Oper.wp execOp
  simp only [ho, hx, hy, Sem.run_bind, run_storeAt_new w ty c c' hi hs h1]
  exact hK _ _ h
theorem below_drewN {n : Nat} {w w' : World} (h : Below n w w') (k : Nat) : Below n w (w'.drewN k) := ⟨h.os, h.tape, h.output, h.size, h.block⟩
theorem drewN_alloc (w : World) (A : Obj) (n : Nat) : (w.alloc A).drewN n = (w.drewN n).alloc A := rfl
theorem below1 (w : World) (A : Obj) : Below w.heap.size w (w.alloc A) := (Below.refl _ _).alloc (Nat.le_refl _) A
theorem below2 (w : World) (A B : Obj) : Below w.heap.size w ((w.alloc A).alloc B) := (below1 w A).alloc (by simp) B
theorem set_one {cs : Array Value} {i : Nat} {v : Value} (h1 : cs.all (·.oneCell') = true) (hv : v.oneCell' = true) : (cs.setIfInBounds i v).all (·.oneCell') = true := by
  rw [Array.all_eq_true_iff_forall_mem] at *
  intro x hx
  obtain ⟨j, hj, rfl⟩ := Array.mem_iff_getElem.1 hx
  rw [Array.getElem_setIfInBounds]
  split
  · exact hv
  · exact h1 _ (Array.getElem_mem _)
  · simpa using hj
theorem two_first (w : World) (A B : Obj) : ((w.alloc A).alloc B).heap[w.heap.size]? = some A := (heap_alloc_old _ _ (by simp)).trans (heap_alloc_new _ _)
theorem two_last (w : World) (A B : Obj) : ((w.alloc A).alloc B).heap[w.heap.size + 1]? = some B := by
  have := heap_alloc_new (w.alloc A) B
  simpa using this
theorem three_first (w : World) (A B C : Obj) : (((w.alloc A).alloc B).alloc C).heap[w.heap.size]? = some A := (heap_alloc_old _ _ (by simp; omega)).trans (two_first _ _ _)
theorem four_first (w : World) (A B C D : Obj) : ((((w.alloc A).alloc B).alloc C).alloc D).heap[w.heap.size]? = some A := (heap_alloc_old _ _ (by simp; omega)).trans (three_first _ _ _ _)
theorem below3 (w : World) (A B C : Obj) : Below w.heap.size w (((w.alloc A).alloc B).alloc C) := (below2 w A B).alloc (by simp; omega) C
theorem below4 (w : World) (A B C D : Obj) : Below w.heap.size w ((((w.alloc A).alloc B).alloc C).alloc D) := (below3 w A B C).alloc (by simp; omega) D
theorem cell_row {W : World} {g : Nat} {cs : Array Value} {t : TypeId} (h : W.heap[g]? = some (.cells cs t (0, 0))) (i : Nat) : W.cell? ⟨g, i, none⟩ = cs[i]? := cell_of_row W g i cs t (0, 0) h
/-- A whole struct into a block. -/
theorem wpList_store_row {P : Program} {ops : Array Oper} {rest : List Oper} {op : Oper} {a : Act} {w : World} {Q : Exit → Act → World → Prop} (hgd : op.guard = none) (ty : TypeId) (x y : Operand) (ho : op.op = .store ty x y)
    (g : Nat) (old c' : Array Value) (t : TypeId) (hx : a.eval x = .pointer (some ⟨g, 0, none⟩)) (hy : a.eval y = .agg c') (hg : w.heap[g]? = some (.cells old t (0, 0)))
    (hi : (P.info? ty).map (·.size) = some c'.size) (hs : old.size = c'.size) (h1 : c'.all (·.oneCell') = true)
    (h : ∀ w', w'.heap[g]? = some (.cells c' t (0, 0)) → (∀ k, k ≠ g → w'.heap[k]? = w.heap[k]?) → w'.heap.size = w.heap.size → Below g w w' → wpList P ops Q rest (a.put op.dst undef) w') : wpList P ops Q (op :: rest) a w := by
  refine wpList_plain hgd fun K hK => ?_
  unfold Oper.wp execOp
  simp only [ho, hx, hy, Sem.run_bind, Instr.storeAt, Instr.sureAddr, Sem.run_pure, Result.andThen_ok, run_storeVar_row w g t ty old c' hg hi hs h1]
  have e1 : (w.setRow g c').heap.size = w.heap.size := by simp [World.setRow]
  have e2 : ∀ k, k ≠ g → (w.setRow g c').heap[k]? = w.heap[k]? := fun k hk => by
    simp only [World.setRow, Array.getElem?_modify]
    rw [if_neg (fun e => hk e.symm)]
  have e3 : (w.setRow g c').heap[g]? = some (.cells c' t (0, 0)) := by
    simp only [World.setRow, Array.getElem?_modify, hg]
    simp
  exact hK _ _ (h _ e3 e2 e1 ⟨rfl, rfl, rfl, by omega, fun k hk => e2 k (by omega)⟩)
theorem lt_of_heap {W : World} {g : Nat} {o : Obj} (h : W.heap[g]? = some o) : g < W.heap.size := by
  rcases Nat.lt_or_ge g W.heap.size with h' | h'
  · exact h'
  · simp [Array.getElem?_eq_none h'] at h
theorem wpList_build_as {P : Program} {ops : Array Oper} {rest : List Oper} {op : Oper} {a : Act} {w : World} {Q : Exit → Act → World → Prop} (hgd : op.guard = none) (t : TypeId) (parts : Array (Nat × Operand)) (ho : op.op = .build t parts)
    (cells : Array Value) (hc : P.built t (parts.map fun (i, x) => (i, a.eval x)).toList = some cells)
    (h : wpList P ops Q rest (a.put op.dst (.agg cells)) w) : wpList P ops Q (op :: rest) a w := by
  refine wpList_plain hgd fun K hK => ?_
  unfold Oper.wp execOp
  simp only [ho, Sem.run_bind, run_build w t _ cells hc, Result.andThen_ok]
  exact hK _ _ h
theorem wpList_load_at {P : Program} {ops : Array Oper} {rest : List Oper} {op : Oper} {a : Act} {w : World} {Q : Exit → Act → World → Prop} (hgd : op.guard = none) (ty : TypeId) (x : Operand) (ho : op.op = .load ty x)
    (g o n : Nat) (hx : a.eval x = .pointer (some ⟨g, o, none⟩)) (cs : Array Value) (t : TypeId) (d : TypeDesc) (hg : w.heap[g]? = some (.cells cs t (0, 0)))
    (hu : P.underlying ty = some d) (hd : d.isRow = true) (hn : (cs.extract o (o + n)).size = n) (hi : (P.info? ty).map (·.size) = some n)
    (h : wpList P ops Q rest (a.put op.dst (.agg (cs.extract o (o + n)))) w) : wpList P ops Q (op :: rest) a w := by
  have hr := World.rangeAt_of_block hg o n
  refine wpList_load_mid hgd ty x ho g o hx (cs.extract o (o + n)).toList d hr hu hd (by rw [Array.length_toList, hn]; exact hi) ?_
  rw [Array.toArray_toList]
  exact h
theorem extract_one {cs : Array Value} (h : cs.all (·.oneCell') = true) (i j : Nat) : (cs.extract i j).all (·.oneCell') = true := by
  rw [Array.all_eq_true_iff_forall_mem] at *
  intro x hx
  obtain ⟨q, hq, rfl⟩ := Array.mem_iff_getElem.1 hx
  rw [Array.getElem_extract]
  exact h _ (Array.getElem_mem _)
theorem bcell {W w1 : World} (hb : Below W.heap.size W w1) : (∀ b o, b < W.heap.size → w1.cell? ⟨b, o, none⟩ = W.cell? ⟨b, o, none⟩) ∧ (∀ b o, b < W.heap.size → w1.frozen? ⟨b, o, none⟩ = W.frozen? ⟨b, o, none⟩) :=
  ⟨fun b o h => hb.cell (p := ⟨b, o, none⟩) h, fun b o h => hb.frozen (p := ⟨b, o, none⟩) h⟩
theorem wpList_load_want {P : Program} {ops : Array Oper} {rest : List Oper} {o : Oper} {a : Act} {w : World} {Q : Exit → Act → World → Prop} (hw : Region.wanted o (yielded ops a.tmps) = true) (ty : TypeId) (x : Operand) (ho : o.op = .load ty x)
    (g : Nat) (hx : a.eval x = .pointer (some ⟨g, 0, none⟩)) (t : TypeId) (cs : Array Value) (fr : Nat × Nat) (d : TypeDesc) (hg : w.heap[g]? = some (.cells cs t fr))
    (hu : P.underlying ty = some d) (hd : (match d with | .struct _ | .array _ _ => true | _ => false) = true) (hi : (P.info? ty).map (·.size) = some cs.size)
    (h : wpList P ops Q rest (a.put o.dst (.agg cs)) w) : wpList P ops Q (o :: rest) a w :=
  BigFrame.wpList_want hw fun _ hK => wp_load_row ty x ho g hx t cs fr d hg hu hd hi (hK _ _ h)
theorem three_last (w : World) (A B C : Obj) : (((w.alloc A).alloc B).alloc C).heap[w.heap.size + 1 + 1]? = some C := by
  have := heap_alloc_new ((w.alloc A).alloc B) C
  simpa using this
theorem wpList_load_as {P : Program} {ops : Array Oper} {rest : List Oper} {op : Oper} {a : Act} {w : World} {Q : Exit → Act → World → Prop} (hgd : op.guard = none) (ty : TypeId) (x : Operand) (ho : op.op = .load ty x)
    (g o n : Nat) (hx : a.eval x = .pointer (some ⟨g, o, none⟩)) (cs L : Array Value) (t : TypeId) (d : TypeDesc) (hg : w.heap[g]? = some (.cells cs t (0, 0)))
    (hu : P.underlying ty = some d) (hd : d.isRow = true) (hL : cs.extract o (o + n) = L) (hn : L.size = n) (hi : (P.info? ty).map (·.size) = some n)
    (h : wpList P ops Q rest (a.put op.dst (.agg L)) w) : wpList P ops Q (op :: rest) a w := by
  subst hL
  exact wpList_load_at hgd ty x ho g o n hx cs t d hg hu hd hn hi h
theorem row_setCell {w : World} {b : Nat} {cs : Array Value} {t : TypeId} (h : w.heap[b]? = some (.cells cs t (0, 0))) (o : Nat) (v : Value) : (w.setCell ⟨b, o, none⟩ v).heap[b]? = some (.cells (cs.setIfInBounds o v) t (0, 0)) := by
  have hlt : b < w.heap.size := lt_of_heap h
  have hv : w.heap[b] = .cells cs t (0, 0) := (Array.getElem?_eq_some_iff.1 h).2
  unfold World.setCell
  simp [Array.getElem?_modify, h]
/-- A row with other cells from a place on. -/
def putC : Array Value → Nat → List Value → Array Value
  | cs, _, [] => cs
  | cs, o, v :: r => putC (cs.setIfInBounds o v) (o + 1) r
theorem putC_size : ∀ (vs : List Value) (cs : Array Value) (o : Nat), (putC cs o vs).size = cs.size
  | [], _, _ => rfl
  | v :: r, cs, o => by rw [putC, putC_size r]; simp
theorem row_setCells : ∀ (vs : List Value) {w : World} {b : Nat} {cs : Array Value} {t : TypeId} (_ : w.heap[b]? = some (.cells cs t (0, 0))) (o : Nat), (w.setCells b o vs).heap[b]? = some (.cells (putC cs o vs) t (0, 0))
  | [], _, _, _, _, h, _ => h
  | v :: r, w, b, cs, t, h, o => by
    rw [World.setCells, putC]
    exact row_setCells r (row_setCell h o v) (o + 1)
theorem heap_setCells : ∀ (vs : List Value) (w : World) (b o : Nat), (w.setCells b o vs).heap.size = w.heap.size ∧ (∀ k, k ≠ b → (w.setCells b o vs).heap[k]? = w.heap[k]?) ∧ Below b w (w.setCells b o vs)
  | [], w, b, o => ⟨rfl, fun _ _ => rfl, Below.refl _ _⟩
  | v :: r, w, b, o => by
    obtain ⟨h1, h2, h3⟩ := heap_setCells r (w.setCell ⟨b, o, none⟩ v) b (o + 1)
    have e1 : (w.setCell ⟨b, o, none⟩ v).heap.size = w.heap.size := by simp [World.setCell]
    refine ⟨h1.trans e1, fun k hk => (h2 k hk).trans (Below.heap_setCell _ _ _ _ hk), ?_⟩
    have h0 : Below b w (w.setCell ⟨b, o, none⟩ v) := (Below.refl b w).setCell (Nat.le_refl _) v
    exact h0.trans h3
theorem there_row {w : World} {b : Nat} {cs : Array Value} {t : TypeId} (h : w.heap[b]? = some (.cells cs t (0, 0))) (o n : Nat) (hn : o + n ≤ cs.size) : w.there b o n := fun j hj => by
  refine ⟨?_, frozen_of_row w b _ cs t h⟩
  rw [cell_row h, Array.getElem?_eq_getElem (by omega)]; rfl
/-- A struct into the midst of a block. -/
theorem wpList_store_at {P : Program} {ops : Array Oper} {rest : List Oper} {op : Oper} {a : Act} {w : World} {Q : Exit → Act → World → Prop} (hgd : op.guard = none) (ty : TypeId) (x y : Operand) (ho : op.op = .store ty x y)
    (g o : Nat) (old c' : Array Value) (t : TypeId) (hx : a.eval x = .pointer (some ⟨g, o, none⟩)) (hy : a.eval y = .agg c') (hg : w.heap[g]? = some (.cells old t (0, 0)))
    (hi : (P.info? ty).map (·.size) = some c'.size) (hs : o + c'.size ≤ old.size) (h1 : c'.all (·.oneCell') = true)
    (h : ∀ w', w'.heap[g]? = some (.cells (putC old o c'.toList) t (0, 0)) → (∀ k, k ≠ g → w'.heap[k]? = w.heap[k]?) → w'.heap.size = w.heap.size → Below g w w' → wpList P ops Q rest (a.put op.dst undef) w') : wpList P ops Q (op :: rest) a w := by
  obtain ⟨e1, e2, e3⟩ := heap_setCells c'.toList w g o
  exact wpList_store_mid hgd ty x y ho g o c' hx hy (there_row hg o _ hs) hi h1 (h _ (row_setCells _ hg o) e2 e1 e3)
/-- A whole struct into a block: the operation. -/
theorem wp_store_row {P : Program} {op : Oper} {a : Act} {w : World} {K : Act → World → Prop} {Q : Exit → Act → World → Prop} (ty : TypeId) (x y : Operand) (ho : op.op = .store ty x y)
    (g : Nat) (old c' : Array Value) (t : TypeId) (hx : a.eval x = .pointer (some ⟨g, 0, none⟩)) (hy : a.eval y = .agg c') (hg : w.heap[g]? = some (.cells old t (0, 0)))
    (hi : (P.info? ty).map (·.size) = some c'.size) (hs : old.size = c'.size) (h1 : c'.all (·.oneCell') = true)
    (h : ∀ w', w'.heap[g]? = some (.cells c' t (0, 0)) → (∀ k, k ≠ g → w'.heap[k]? = w.heap[k]?) → w'.heap.size = w.heap.size → Below g w w' → K (a.put op.dst undef) w') : op.wp P a w K Q := by
  unfold Oper.wp execOp
  simp only [ho, hx, hy, Sem.run_bind, Instr.storeAt, Instr.sureAddr, Sem.run_pure, Result.andThen_ok, run_storeVar_row w g t ty old c' hg hi hs h1]
  have e1 : (w.setRow g c').heap.size = w.heap.size := by simp [World.setRow]
  have e2 : ∀ k, k ≠ g → (w.setRow g c').heap[k]? = w.heap[k]? := fun k hk => by
    simp only [World.setRow, Array.getElem?_modify]
    rw [if_neg (fun e => hk e.symm)]
  have e3 : (w.setRow g c').heap[g]? = some (.cells c' t (0, 0)) := by
    simp only [World.setRow, Array.getElem?_modify, hg]
    simp
  exact h _ e3 e2 e1 ⟨rfl, rfl, rfl, by omega, fun k hk => e2 k (by omega)⟩
theorem yields_loadR {ops : Array Oper} {S : World → Prop} {op : Oper} {a : Act} (hw : Region.wanted op (yielded ops a.tmps) = true) (ty : TypeId) (x : Operand) (ho : op.op = .load ty x)
    (b : Nat) (hx : a.eval x = .pointer (some ⟨b, 0, none⟩)) (t : TypeId) (cs : Array Value) (d : TypeDesc) (hS : ∀ w, S w → w.heap[b]? = some (.cells cs t (0, 0)))
    (hu : Try.prog.underlying ty = some d) (hd : d.isRow = true) (hi : (Try.prog.info? ty).map (·.size) = some cs.size) : YieldsIf Try.prog ops S op (.agg cs) a := by
  have := yieldsIf_load_mid (P := Try.prog) (ops := ops) (S := S) (op := op) (a := a) hw ty x ho b 0 hx cs.toList d (fun w hw' => by
    have h := World.rangeAt_of_block (hS w hw') 0 cs.size
    simpa using h) hu hd (by simpa using hi)
  simpa using this
theorem four_last (w : World) (A B C D : Obj) : ((((w.alloc A).alloc B).alloc C).alloc D).heap[w.heap.size + 1 + 1 + 1]? = some D := by
  have := heap_alloc_new (((w.alloc A).alloc B).alloc C) D
  simpa using this
theorem five_last (w : World) (A B C D E : Obj) : (((((w.alloc A).alloc B).alloc C).alloc D).alloc E).heap[w.heap.size + 1 + 1 + 1 + 1]? = some E := by
  have := heap_alloc_new ((((w.alloc A).alloc B).alloc C).alloc D) E
  simpa using this
theorem five_fourth (w : World) (A B C D E : Obj) : (((((w.alloc A).alloc B).alloc C).alloc D).alloc E).heap[w.heap.size + 1 + 1 + 1]? = some D := (heap_alloc_old _ _ (by simp)).trans (four_last _ _ _ _ _)
theorem five_third (w : World) (A B C D E : Obj) : (((((w.alloc A).alloc B).alloc C).alloc D).alloc E).heap[w.heap.size + 1 + 1]? = some C := (heap_alloc_old _ _ (by simp)).trans ((heap_alloc_old _ _ (by simp)).trans (three_last _ _ _ _))
theorem five_second (w : World) (A B C D E : Obj) : (((((w.alloc A).alloc B).alloc C).alloc D).alloc E).heap[w.heap.size + 1]? = some B := (heap_alloc_old _ _ (by simp)).trans ((heap_alloc_old _ _ (by simp)).trans ((heap_alloc_old _ _ (by simp)).trans (two_last _ _ _)))
theorem five_first (w : World) (A B C D E : Obj) : (((((w.alloc A).alloc B).alloc C).alloc D).alloc E).heap[w.heap.size]? = some A := (heap_alloc_old _ _ (by simp; omega)).trans (four_first _ _ _ _ _)
theorem wpList_load_atw {P : Program} {ops : Array Oper} {rest : List Oper} {op : Oper} {a : Act} {w : World} {Q : Exit → Act → World → Prop} (hw : Region.wanted op (yielded ops a.tmps) = true) (ty : TypeId) (x : Operand) (ho : op.op = .load ty x)
    (g o n : Nat) (hx : a.eval x = .pointer (some ⟨g, o, none⟩)) (cs L : Array Value) (t : TypeId) (d : TypeDesc) (hg : w.heap[g]? = some (.cells cs t (0, 0)))
    (hu : P.underlying ty = some d) (hd : d.isRow = true) (hL : cs.extract o (o + n) = L) (hn : L.size = n) (hi : (P.info? ty).map (·.size) = some n)
    (h : wpList P ops Q rest (a.put op.dst (.agg L)) w) : wpList P ops Q (op :: rest) a w := by
  subst hL
  have hr := World.rangeAt_of_block hg o n
  refine BigFrame.wpList_want hw fun K hK => ?_
  refine wp_load_mid ty x ho g o hx (cs.extract o (o + n)).toList d hr hu hd (by rw [Array.length_toList, hn]; exact hi) ?_
  rw [Array.toArray_toList]
  exact hK _ _ h
theorem wpList_build_want {P : Program} {ops : Array Oper} {rest : List Oper} {op : Oper} {a : Act} {w : World} {Q : Exit → Act → World → Prop} (hw : Region.wanted op (yielded ops a.tmps) = true) (t : TypeId) (parts : Array (Nat × Operand)) (ho : op.op = .build t parts)
    (cells : Array Value) (hc : P.built t (parts.map fun (i, x) => (i, a.eval x)).toList = some cells)
    (h : wpList P ops Q rest (a.put op.dst (.agg cells)) w) : wpList P ops Q (op :: rest) a w := by
  refine BigFrame.wpList_want hw fun K hK => ?_
  unfold Oper.wp execOp
  simp only [ho, Sem.run_bind, run_build w t _ cells hc, Result.andThen_ok]
  exact hK _ _ h
theorem size49 : (Try.prog.info? 46).map (·.size) = some 49 := by kernel_rfl
theorem info_size {c : Array Value} (h : c.size = 49) : (Try.prog.info? 46).map (·.size) = some c.size := by rw [h]; exact size49
theorem size36 : (Try.prog.info? 41).map (·.size) = some 36 := by kernel_rfl
/-- A State: 49 cells, each of its kind. -/
structure St (cs : Array Value) : Prop where
  size : cs.size = 49
  one : cs.all (·.oneCell') = true
  u64 : ∀ i ∈ [0, 1, 7, 9], ∃ x, cs[i]? = some (.int .u64 x) ∧ 0 ≤ x ∧ x ≤ 18446744073709551615
  i64 : ∀ i ∈ [3, 4, 6, 12, 13, 14, 15, 16, 20, 21, 22, 24, 25, 29, 30, 31, 36, 37, 38, 39, 44, 47, 48], ∃ x, cs[i]? = some (.int .i64 x) ∧ -9223372036854775808 ≤ x ∧ x ≤ 9223372036854775807
  u32 : ∀ i ∈ [8, 10, 17, 18, 23, 27, 28, 40, 41, 42, 43, 45, 46], ∃ x, cs[i]? = some (.int .u32 x) ∧ 0 ≤ x ∧ x ≤ 4294967295
  bool : ∀ i ∈ [2, 5, 11, 26], ∃ b, cs[i]? = some (.bool b)
  str : ∀ i ∈ [19, 32, 33, 34, 35], ∃ s, cs[i]? = some (.string s)
def numAt (cs : Array Value) (i : Nat) : Int := match cs[i]? with | some (.int _ x) => x | _ => 0
def boolAt (cs : Array Value) (i : Nat) : Bool := match cs[i]? with | some (.bool b) => b | _ => false
theorem numAt_of {cs : Array Value} {i : Nat} {k : IntKind} {x : Int} (h : cs[i]? = some (.int k x)) : numAt cs i = x := by simp [numAt, h]
theorem boolAt_of {cs : Array Value} {i : Nat} {b : Bool} (h : cs[i]? = some (.bool b)) : boolAt cs i = b := by simp [boolAt, h]
theorem get_set {cs : Array Value} (hs : cs.size = 49) (i j : Nat) (v : Value) (hi : i < 49) : (cs.setIfInBounds i v)[j]? = if i = j then some v else cs[j]? := by
  rw [Array.getElem?_setIfInBounds]
  by_cases h : i = j
  · subst h; simp [hs, hi]
  · simp [h]
theorem st_put {cs : Array Value} (h : St cs) (i : Nat) (v : Value) (hi : i < 49) (hv : v.oneCell' = true)
    (ku : i ∈ [0, 1, 7, 9] → ∃ x, v = .int .u64 x ∧ 0 ≤ x ∧ x ≤ 18446744073709551615)
    (ki : i ∈ [3, 4, 6, 12, 13, 14, 15, 16, 20, 21, 22, 24, 25, 29, 30, 31, 36, 37, 38, 39, 44, 47, 48] → ∃ x, v = .int .i64 x ∧ -9223372036854775808 ≤ x ∧ x ≤ 9223372036854775807)
    (k3 : i ∈ [8, 10, 17, 18, 23, 27, 28, 40, 41, 42, 43, 45, 46] → ∃ x, v = .int .u32 x ∧ 0 ≤ x ∧ x ≤ 4294967295)
    (kb : i ∈ [2, 5, 11, 26] → ∃ b, v = .bool b) (ks : i ∈ [19, 32, 33, 34, 35] → ∃ s, v = .string s) : St (cs.setIfInBounds i v) := by
  have gs := fun j => get_set h.size i j v hi
  refine ⟨by simp [h.size], set_one h.one hv, fun j hj => ?_, fun j hj => ?_, fun j hj => ?_, fun j hj => ?_, fun j hj => ?_⟩ <;> rw [gs j] <;> by_cases e : i = j
  · obtain ⟨x, rfl, hx⟩ := ku (e ▸ hj); exact ⟨x, by simp [e], hx⟩
  · simpa [e] using h.u64 j hj
  · obtain ⟨x, rfl, hx⟩ := ki (e ▸ hj); exact ⟨x, by simp [e], hx⟩
  · simpa [e] using h.i64 j hj
  · obtain ⟨x, rfl, hx⟩ := k3 (e ▸ hj); exact ⟨x, by simp [e], hx⟩
  · simpa [e] using h.u32 j hj
  · obtain ⟨x, rfl⟩ := kb (e ▸ hj); exact ⟨x, by simp [e]⟩
  · simpa [e] using h.bool j hj
  · obtain ⟨x, rfl⟩ := ks (e ▸ hj); exact ⟨x, by simp [e]⟩
  · simpa [e] using h.str j hj
theorem zero49 : (Try.prog.info? 46).map (fun i => (i.zero.map fun z => (z.cells.size, z.cells.all (·.oneCell')))) = some (some (49, true)) := by kernel_rfl
theorem putC_get : ∀ (vs : List Value) (cs : Array Value) (o j : Nat), o + vs.length ≤ cs.size → (putC cs o vs)[j]? = if j < o then cs[j]? else if j < o + vs.length then vs[j - o]? else cs[j]?
  | [], cs, o, j, _ => by
    rw [putC]; simp only [List.length_nil, Nat.add_zero]
    split <;> rfl
  | v :: r, cs, o, j, h => by
    simp only [List.length_cons] at h
    rw [putC, putC_get r _ (o + 1) j (by rw [Array.size_setIfInBounds]; omega)]
    by_cases h1 : j < o
    · rw [if_pos (by omega), if_pos h1, Array.getElem?_setIfInBounds_ne (by omega)]
    · by_cases h2 : j = o
      · subst h2
        rw [if_pos (by omega), if_neg (by omega), if_pos (by simp only [List.length_cons]; omega), Array.getElem?_setIfInBounds_self_of_lt (by omega)]
        simp
      · rw [if_neg (by omega), if_neg h1]
        by_cases h3 : j < o + 1 + r.length
        · rw [if_pos h3, if_pos (by simp only [List.length_cons]; omega), show j - o = (j - (o + 1)) + 1 by omega, List.getElem?_cons_succ]
        · rw [if_neg h3, if_neg (by simp only [List.length_cons]; omega), Array.getElem?_setIfInBounds_ne (by omega)]
theorem putC_one : ∀ (vs : List Value) (cs : Array Value) (o : Nat), cs.all (·.oneCell') = true → vs.all (·.oneCell') = true → (putC cs o vs).all (·.oneCell') = true
  | [], _, _, h, _ => h
  | v :: r, cs, o, h, hv => by
    simp only [List.all_cons, Bool.and_eq_true] at hv
    rw [putC]; exact putC_one r _ _ (set_one h hv.1) hv.2
theorem list_cons {α : Type} {l : List α} {n : Nat} (h : l.length = n + 1) : ∃ a r, l = a :: r ∧ r.length = n := by
  cases l with
  | nil => simp at h
  | cons a r => exact ⟨a, r, rfl, by simpa using h⟩
theorem eq_regs (a b c d : Int) (w : World) : (Op.equalIn 9999 42 (.agg #[.int .u32 a, .int .u32 b, .int .u32 c, .int .u32 d]) (.agg #[.int .u32 a, .int .u32 b, .int .u32 c, .int .u32 d])).run Try.prog w = .ok true w := by
  have u3 := Try.underlying33
  have a3 := Try.isAgg33
  have z3 := Try.sizeOf33
  rw [show (9999 : Nat) = 9998 + 1 from rfl, Op.equalIn]
  simp only [Sem.run_bind, run_underlying Try.underlying42, Result.andThen_ok]
  simp only [Std.Legacy.Range.forIn_eq_forIn_range', Std.Legacy.Range.size, Nat.sub_zero, Nat.add_sub_cancel, Nat.div_one, List.range'_succ, List.range'_zero, List.forIn_cons, List.forIn_nil]
  go_simp
set_option maxRecDepth 20000 in
set_option maxHeartbeats 4000000 in
theorem eq_state {cs : Array Value} (h : St cs) (W : World) : (binOp .eql 46 (.agg cs) (.agg cs)).run Try.prog W = .ok (.bool true) W := by
  obtain ⟨l⟩ := cs
  have hl : l.length = 49 := by simpa using h.size
  obtain ⟨c0v, l0, rfl, k0⟩ := list_cons hl
  obtain ⟨c1v, l1, rfl, k1⟩ := list_cons k0
  obtain ⟨c2v, l2, rfl, k2⟩ := list_cons k1
  obtain ⟨c3v, l3, rfl, k3⟩ := list_cons k2
  obtain ⟨c4v, l4, rfl, k4⟩ := list_cons k3
  obtain ⟨c5v, l5, rfl, k5⟩ := list_cons k4
  obtain ⟨c6v, l6, rfl, k6⟩ := list_cons k5
  obtain ⟨c7v, l7, rfl, k7⟩ := list_cons k6
  obtain ⟨c8v, l8, rfl, k8⟩ := list_cons k7
  obtain ⟨c9v, l9, rfl, k9⟩ := list_cons k8
  obtain ⟨c10v, l10, rfl, k10⟩ := list_cons k9
  obtain ⟨c11v, l11, rfl, k11⟩ := list_cons k10
  obtain ⟨c12v, l12, rfl, k12⟩ := list_cons k11
  obtain ⟨c13v, l13, rfl, k13⟩ := list_cons k12
  obtain ⟨c14v, l14, rfl, k14⟩ := list_cons k13
  obtain ⟨c15v, l15, rfl, k15⟩ := list_cons k14
  obtain ⟨c16v, l16, rfl, k16⟩ := list_cons k15
  obtain ⟨c17v, l17, rfl, k17⟩ := list_cons k16
  obtain ⟨c18v, l18, rfl, k18⟩ := list_cons k17
  obtain ⟨c19v, l19, rfl, k19⟩ := list_cons k18
  obtain ⟨c20v, l20, rfl, k20⟩ := list_cons k19
  obtain ⟨c21v, l21, rfl, k21⟩ := list_cons k20
  obtain ⟨c22v, l22, rfl, k22⟩ := list_cons k21
  obtain ⟨c23v, l23, rfl, k23⟩ := list_cons k22
  obtain ⟨c24v, l24, rfl, k24⟩ := list_cons k23
  obtain ⟨c25v, l25, rfl, k25⟩ := list_cons k24
  obtain ⟨c26v, l26, rfl, k26⟩ := list_cons k25
  obtain ⟨c27v, l27, rfl, k27⟩ := list_cons k26
  obtain ⟨c28v, l28, rfl, k28⟩ := list_cons k27
  obtain ⟨c29v, l29, rfl, k29⟩ := list_cons k28
  obtain ⟨c30v, l30, rfl, k30⟩ := list_cons k29
  obtain ⟨c31v, l31, rfl, k31⟩ := list_cons k30
  obtain ⟨c32v, l32, rfl, k32⟩ := list_cons k31
  obtain ⟨c33v, l33, rfl, k33⟩ := list_cons k32
  obtain ⟨c34v, l34, rfl, k34⟩ := list_cons k33
  obtain ⟨c35v, l35, rfl, k35⟩ := list_cons k34
  obtain ⟨c36v, l36, rfl, k36⟩ := list_cons k35
  obtain ⟨c37v, l37, rfl, k37⟩ := list_cons k36
  obtain ⟨c38v, l38, rfl, k38⟩ := list_cons k37
  obtain ⟨c39v, l39, rfl, k39⟩ := list_cons k38
  obtain ⟨c40v, l40, rfl, k40⟩ := list_cons k39
  obtain ⟨c41v, l41, rfl, k41⟩ := list_cons k40
  obtain ⟨c42v, l42, rfl, k42⟩ := list_cons k41
  obtain ⟨c43v, l43, rfl, k43⟩ := list_cons k42
  obtain ⟨c44v, l44, rfl, k44⟩ := list_cons k43
  obtain ⟨c45v, l45, rfl, k45⟩ := list_cons k44
  obtain ⟨c46v, l46, rfl, k46⟩ := list_cons k45
  obtain ⟨c47v, l47, rfl, k47⟩ := list_cons k46
  obtain ⟨c48v, l48, rfl, k48⟩ := list_cons k47
  obtain rfl := List.length_eq_zero_iff.1 k48
  obtain ⟨x0, hx0, _⟩ := h.u64 0 (by decide)
  obtain ⟨x1, hx1, _⟩ := h.u64 1 (by decide)
  obtain ⟨x2, hx2⟩ := h.bool 2 (by decide)
  obtain ⟨x3, hx3, _⟩ := h.i64 3 (by decide)
  obtain ⟨x4, hx4, _⟩ := h.i64 4 (by decide)
  obtain ⟨x5, hx5⟩ := h.bool 5 (by decide)
  obtain ⟨x6, hx6, _⟩ := h.i64 6 (by decide)
  obtain ⟨x7, hx7, _⟩ := h.u64 7 (by decide)
  obtain ⟨x8, hx8, _⟩ := h.u32 8 (by decide)
  obtain ⟨x9, hx9, _⟩ := h.u64 9 (by decide)
  obtain ⟨x10, hx10, _⟩ := h.u32 10 (by decide)
  obtain ⟨x11, hx11⟩ := h.bool 11 (by decide)
  obtain ⟨x12, hx12, _⟩ := h.i64 12 (by decide)
  obtain ⟨x13, hx13, _⟩ := h.i64 13 (by decide)
  obtain ⟨x14, hx14, _⟩ := h.i64 14 (by decide)
  obtain ⟨x15, hx15, _⟩ := h.i64 15 (by decide)
  obtain ⟨x16, hx16, _⟩ := h.i64 16 (by decide)
  obtain ⟨x17, hx17, _⟩ := h.u32 17 (by decide)
  obtain ⟨x18, hx18, _⟩ := h.u32 18 (by decide)
  obtain ⟨x19, hx19⟩ := h.str 19 (by decide)
  obtain ⟨x20, hx20, _⟩ := h.i64 20 (by decide)
  obtain ⟨x21, hx21, _⟩ := h.i64 21 (by decide)
  obtain ⟨x22, hx22, _⟩ := h.i64 22 (by decide)
  obtain ⟨x23, hx23, _⟩ := h.u32 23 (by decide)
  obtain ⟨x24, hx24, _⟩ := h.i64 24 (by decide)
  obtain ⟨x25, hx25, _⟩ := h.i64 25 (by decide)
  obtain ⟨x26, hx26⟩ := h.bool 26 (by decide)
  obtain ⟨x27, hx27, _⟩ := h.u32 27 (by decide)
  obtain ⟨x28, hx28, _⟩ := h.u32 28 (by decide)
  obtain ⟨x29, hx29, _⟩ := h.i64 29 (by decide)
  obtain ⟨x30, hx30, _⟩ := h.i64 30 (by decide)
  obtain ⟨x31, hx31, _⟩ := h.i64 31 (by decide)
  obtain ⟨x32, hx32⟩ := h.str 32 (by decide)
  obtain ⟨x33, hx33⟩ := h.str 33 (by decide)
  obtain ⟨x34, hx34⟩ := h.str 34 (by decide)
  obtain ⟨x35, hx35⟩ := h.str 35 (by decide)
  obtain ⟨x36, hx36, _⟩ := h.i64 36 (by decide)
  obtain ⟨x37, hx37, _⟩ := h.i64 37 (by decide)
  obtain ⟨x38, hx38, _⟩ := h.i64 38 (by decide)
  obtain ⟨x39, hx39, _⟩ := h.i64 39 (by decide)
  obtain ⟨x40, hx40, _⟩ := h.u32 40 (by decide)
  obtain ⟨x41, hx41, _⟩ := h.u32 41 (by decide)
  obtain ⟨x42, hx42, _⟩ := h.u32 42 (by decide)
  obtain ⟨x43, hx43, _⟩ := h.u32 43 (by decide)
  obtain ⟨x44, hx44, _⟩ := h.i64 44 (by decide)
  obtain ⟨x45, hx45, _⟩ := h.u32 45 (by decide)
  obtain ⟨x46, hx46, _⟩ := h.u32 46 (by decide)
  obtain ⟨x47, hx47, _⟩ := h.i64 47 (by decide)
  obtain ⟨x48, hx48, _⟩ := h.i64 48 (by decide)
  simp only [List.getElem?_toArray, List.getElem?_cons_zero, List.getElem?_cons_succ, Option.some.injEq] at hx0 hx1 hx2 hx3 hx4 hx5 hx6 hx7 hx8 hx9 hx10 hx11 hx12 hx13 hx14 hx15 hx16 hx17 hx18 hx19 hx20 hx21 hx22 hx23 hx24 hx25 hx26 hx27 hx28 hx29 hx30 hx31 hx32 hx33 hx34 hx35 hx36 hx37 hx38 hx39 hx40 hx41 hx42 hx43 hx44 hx45 hx46 hx47 hx48
  subst hx0 hx1 hx2 hx3 hx4 hx5 hx6 hx7 hx8 hx9 hx10 hx11 hx12 hx13 hx14 hx15 hx16 hx17 hx18 hx19 hx20 hx21 hx22 hx23 hx24 hx25 hx26 hx27 hx28 hx29 hx30 hx31 hx32 hx33 hx34 hx35 hx36 hx37 hx38 hx39 hx40 hx41 hx42 hx43 hx44 hx45 hx46 hx47 hx48
  clear h hl
  simp [go_sem, eq_regs]
set_option maxRecDepth 20000 in
set_option maxHeartbeats 4000000 in
theorem neq_state {cs : Array Value} (h : St cs) (W : World) : (binOp .neq 46 (.agg cs) (.agg cs)).run Try.prog W = .ok (.bool false) W := by
  obtain ⟨l⟩ := cs
  have hl : l.length = 49 := by simpa using h.size
  obtain ⟨c0v, l0, rfl, k0⟩ := list_cons hl
  obtain ⟨c1v, l1, rfl, k1⟩ := list_cons k0
  obtain ⟨c2v, l2, rfl, k2⟩ := list_cons k1
  obtain ⟨c3v, l3, rfl, k3⟩ := list_cons k2
  obtain ⟨c4v, l4, rfl, k4⟩ := list_cons k3
  obtain ⟨c5v, l5, rfl, k5⟩ := list_cons k4
  obtain ⟨c6v, l6, rfl, k6⟩ := list_cons k5
  obtain ⟨c7v, l7, rfl, k7⟩ := list_cons k6
  obtain ⟨c8v, l8, rfl, k8⟩ := list_cons k7
  obtain ⟨c9v, l9, rfl, k9⟩ := list_cons k8
  obtain ⟨c10v, l10, rfl, k10⟩ := list_cons k9
  obtain ⟨c11v, l11, rfl, k11⟩ := list_cons k10
  obtain ⟨c12v, l12, rfl, k12⟩ := list_cons k11
  obtain ⟨c13v, l13, rfl, k13⟩ := list_cons k12
  obtain ⟨c14v, l14, rfl, k14⟩ := list_cons k13
  obtain ⟨c15v, l15, rfl, k15⟩ := list_cons k14
  obtain ⟨c16v, l16, rfl, k16⟩ := list_cons k15
  obtain ⟨c17v, l17, rfl, k17⟩ := list_cons k16
  obtain ⟨c18v, l18, rfl, k18⟩ := list_cons k17
  obtain ⟨c19v, l19, rfl, k19⟩ := list_cons k18
  obtain ⟨c20v, l20, rfl, k20⟩ := list_cons k19
  obtain ⟨c21v, l21, rfl, k21⟩ := list_cons k20
  obtain ⟨c22v, l22, rfl, k22⟩ := list_cons k21
  obtain ⟨c23v, l23, rfl, k23⟩ := list_cons k22
  obtain ⟨c24v, l24, rfl, k24⟩ := list_cons k23
  obtain ⟨c25v, l25, rfl, k25⟩ := list_cons k24
  obtain ⟨c26v, l26, rfl, k26⟩ := list_cons k25
  obtain ⟨c27v, l27, rfl, k27⟩ := list_cons k26
  obtain ⟨c28v, l28, rfl, k28⟩ := list_cons k27
  obtain ⟨c29v, l29, rfl, k29⟩ := list_cons k28
  obtain ⟨c30v, l30, rfl, k30⟩ := list_cons k29
  obtain ⟨c31v, l31, rfl, k31⟩ := list_cons k30
  obtain ⟨c32v, l32, rfl, k32⟩ := list_cons k31
  obtain ⟨c33v, l33, rfl, k33⟩ := list_cons k32
  obtain ⟨c34v, l34, rfl, k34⟩ := list_cons k33
  obtain ⟨c35v, l35, rfl, k35⟩ := list_cons k34
  obtain ⟨c36v, l36, rfl, k36⟩ := list_cons k35
  obtain ⟨c37v, l37, rfl, k37⟩ := list_cons k36
  obtain ⟨c38v, l38, rfl, k38⟩ := list_cons k37
  obtain ⟨c39v, l39, rfl, k39⟩ := list_cons k38
  obtain ⟨c40v, l40, rfl, k40⟩ := list_cons k39
  obtain ⟨c41v, l41, rfl, k41⟩ := list_cons k40
  obtain ⟨c42v, l42, rfl, k42⟩ := list_cons k41
  obtain ⟨c43v, l43, rfl, k43⟩ := list_cons k42
  obtain ⟨c44v, l44, rfl, k44⟩ := list_cons k43
  obtain ⟨c45v, l45, rfl, k45⟩ := list_cons k44
  obtain ⟨c46v, l46, rfl, k46⟩ := list_cons k45
  obtain ⟨c47v, l47, rfl, k47⟩ := list_cons k46
  obtain ⟨c48v, l48, rfl, k48⟩ := list_cons k47
  obtain rfl := List.length_eq_zero_iff.1 k48
  obtain ⟨x0, hx0, _⟩ := h.u64 0 (by decide)
  obtain ⟨x1, hx1, _⟩ := h.u64 1 (by decide)
  obtain ⟨x2, hx2⟩ := h.bool 2 (by decide)
  obtain ⟨x3, hx3, _⟩ := h.i64 3 (by decide)
  obtain ⟨x4, hx4, _⟩ := h.i64 4 (by decide)
  obtain ⟨x5, hx5⟩ := h.bool 5 (by decide)
  obtain ⟨x6, hx6, _⟩ := h.i64 6 (by decide)
  obtain ⟨x7, hx7, _⟩ := h.u64 7 (by decide)
  obtain ⟨x8, hx8, _⟩ := h.u32 8 (by decide)
  obtain ⟨x9, hx9, _⟩ := h.u64 9 (by decide)
  obtain ⟨x10, hx10, _⟩ := h.u32 10 (by decide)
  obtain ⟨x11, hx11⟩ := h.bool 11 (by decide)
  obtain ⟨x12, hx12, _⟩ := h.i64 12 (by decide)
  obtain ⟨x13, hx13, _⟩ := h.i64 13 (by decide)
  obtain ⟨x14, hx14, _⟩ := h.i64 14 (by decide)
  obtain ⟨x15, hx15, _⟩ := h.i64 15 (by decide)
  obtain ⟨x16, hx16, _⟩ := h.i64 16 (by decide)
  obtain ⟨x17, hx17, _⟩ := h.u32 17 (by decide)
  obtain ⟨x18, hx18, _⟩ := h.u32 18 (by decide)
  obtain ⟨x19, hx19⟩ := h.str 19 (by decide)
  obtain ⟨x20, hx20, _⟩ := h.i64 20 (by decide)
  obtain ⟨x21, hx21, _⟩ := h.i64 21 (by decide)
  obtain ⟨x22, hx22, _⟩ := h.i64 22 (by decide)
  obtain ⟨x23, hx23, _⟩ := h.u32 23 (by decide)
  obtain ⟨x24, hx24, _⟩ := h.i64 24 (by decide)
  obtain ⟨x25, hx25, _⟩ := h.i64 25 (by decide)
  obtain ⟨x26, hx26⟩ := h.bool 26 (by decide)
  obtain ⟨x27, hx27, _⟩ := h.u32 27 (by decide)
  obtain ⟨x28, hx28, _⟩ := h.u32 28 (by decide)
  obtain ⟨x29, hx29, _⟩ := h.i64 29 (by decide)
  obtain ⟨x30, hx30, _⟩ := h.i64 30 (by decide)
  obtain ⟨x31, hx31, _⟩ := h.i64 31 (by decide)
  obtain ⟨x32, hx32⟩ := h.str 32 (by decide)
  obtain ⟨x33, hx33⟩ := h.str 33 (by decide)
  obtain ⟨x34, hx34⟩ := h.str 34 (by decide)
  obtain ⟨x35, hx35⟩ := h.str 35 (by decide)
  obtain ⟨x36, hx36, _⟩ := h.i64 36 (by decide)
  obtain ⟨x37, hx37, _⟩ := h.i64 37 (by decide)
  obtain ⟨x38, hx38, _⟩ := h.i64 38 (by decide)
  obtain ⟨x39, hx39, _⟩ := h.i64 39 (by decide)
  obtain ⟨x40, hx40, _⟩ := h.u32 40 (by decide)
  obtain ⟨x41, hx41, _⟩ := h.u32 41 (by decide)
  obtain ⟨x42, hx42, _⟩ := h.u32 42 (by decide)
  obtain ⟨x43, hx43, _⟩ := h.u32 43 (by decide)
  obtain ⟨x44, hx44, _⟩ := h.i64 44 (by decide)
  obtain ⟨x45, hx45, _⟩ := h.u32 45 (by decide)
  obtain ⟨x46, hx46, _⟩ := h.u32 46 (by decide)
  obtain ⟨x47, hx47, _⟩ := h.i64 47 (by decide)
  obtain ⟨x48, hx48, _⟩ := h.i64 48 (by decide)
  simp only [List.getElem?_toArray, List.getElem?_cons_zero, List.getElem?_cons_succ, Option.some.injEq] at hx0 hx1 hx2 hx3 hx4 hx5 hx6 hx7 hx8 hx9 hx10 hx11 hx12 hx13 hx14 hx15 hx16 hx17 hx18 hx19 hx20 hx21 hx22 hx23 hx24 hx25 hx26 hx27 hx28 hx29 hx30 hx31 hx32 hx33 hx34 hx35 hx36 hx37 hx38 hx39 hx40 hx41 hx42 hx43 hx44 hx45 hx46 hx47 hx48
  subst hx0 hx1 hx2 hx3 hx4 hx5 hx6 hx7 hx8 hx9 hx10 hx11 hx12 hx13 hx14 hx15 hx16 hx17 hx18 hx19 hx20 hx21 hx22 hx23 hx24 hx25 hx26 hx27 hx28 hx29 hx30 hx31 hx32 hx33 hx34 hx35 hx36 hx37 hx38 hx39 hx40 hx41 hx42 hx43 hx44 hx45 hx46 hx47 hx48
  clear h hl
  simp [go_sem, eq_regs]
end Go.Proofs.Ytjjehncnjcepkaa

