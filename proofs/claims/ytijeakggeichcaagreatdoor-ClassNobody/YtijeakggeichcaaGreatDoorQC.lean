/- Copies of rules and shapes of terms. Conditions: the terms can be read. -/
import Derived.Test.YtijeakggeichcaaGreatDoorQB
import Derived.Test.YtijeakggeichcaaGreatDoorLNum
import Derived.Lib.SliceRun
import Derived.Lib.Hide
namespace Go.Proofs.YtijeakggeichcaaGreatDoor
open Go.RowKit
theorem wpList_build_as {P : Program} {ops : Array Oper} {rest : List Oper} {op : Oper} {a : Act} {w : World} {Q : Exit → Act → World → Prop} (hgd : op.guard = none) (t : TypeId) (parts : Array (Nat × Operand)) (ho : op.op = .build t parts)
    (cells : Array Value) (hc : P.built t (parts.map fun (i, x) => (i, a.eval x)).toList = some cells)
    (h : wpList P ops Q rest (a.put op.dst (.agg cells)) w) : wpList P ops Q (op :: rest) a w := by
  refine wpList_plain hgd fun K hK => ?_
  unfold Oper.wp execOp
  simp only [ho, Sem.run_bind, run_build w t _ cells hc, Result.andThen_ok]
  exact hK _ _ h
theorem wpList_load_at {P : Program} {ops : Array Oper} {rest : List Oper} {op : Oper} {a : Act} {w : World} {Q : Exit → Act → World → Prop} (hgd : op.guard = none) (ty : TypeId) (x : Operand) (ho : op.op = .load ty x)
    (g o n : Nat) (hx : a.eval x = .pointer (some ⟨g, o, none⟩)) (cs : Array Value) (t : TypeId) (d : TypeDesc) (hg : w.heap[g]? = some (.cells cs t (0, 0)))
    (hu : P.underlying ty = some d) (hd : d.isRow = true) (hn : (cs.extract o (o + n)).size = n) (hi : (P.info? ty).map (·.size) = some n)
    (h : wpList P ops Q rest (a.put op.dst (.agg (cs.extract o (o + n)))) w) : wpList P ops Q (op :: rest) a w := by
  have hr := World.rangeAt_of_block hg o n
  refine wpList_load_mid hgd ty x ho g o hx (cs.extract o (o + n)).toList d hr hu hd (by rw [Array.length_toList, hn]; exact hi) ?_
  rw [Array.toArray_toList]
  exact h
theorem wpList_load_as {P : Program} {ops : Array Oper} {rest : List Oper} {op : Oper} {a : Act} {w : World} {Q : Exit → Act → World → Prop} (hgd : op.guard = none) (ty : TypeId) (x : Operand) (ho : op.op = .load ty x)
    (g o n : Nat) (hx : a.eval x = .pointer (some ⟨g, o, none⟩)) (cs L : Array Value) (t : TypeId) (d : TypeDesc) (hg : w.heap[g]? = some (.cells cs t (0, 0)))
    (hu : P.underlying ty = some d) (hd : d.isRow = true) (hL : cs.extract o (o + n) = L) (hn : L.size = n) (hi : (P.info? ty).map (·.size) = some n)
    (h : wpList P ops Q rest (a.put op.dst (.agg L)) w) : wpList P ops Q (op :: rest) a w := by
  subst hL
  exact wpList_load_at hgd ty x ho g o n hx cs t d hg hu hd hn hi h
theorem row_setCell {w : World} {b : Nat} {cs : Array Value} {t : TypeId} (h : w.heap[b]? = some (.cells cs t (0, 0))) (o : Nat) (v : Value) : (w.setCell ⟨b, o, none⟩ v).heap[b]? = some (.cells (cs.setIfInBounds o v) t (0, 0)) := by
  have hlt : b < w.heap.size := lt_of_heap h
  have hv : w.heap[b] = .cells cs t (0, 0) := (Array.getElem?_eq_some_iff.1 h).2
  unfold World.setCell
  simp [Array.getElem?_modify, h]
/-- A row with other cells from a place on. -/
def putC : Array Value → Nat → List Value → Array Value
  | cs, _, [] => cs
  | cs, o, v :: r => putC (cs.setIfInBounds o v) (o + 1) r
theorem putC_size : ∀ (vs : List Value) (cs : Array Value) (o : Nat), (putC cs o vs).size = cs.size
  | [], _, _ => rfl
  | v :: r, cs, o => by rw [putC, putC_size r]; simp
theorem row_setCells : ∀ (vs : List Value) {w : World} {b : Nat} {cs : Array Value} {t : TypeId} (_ : w.heap[b]? = some (.cells cs t (0, 0))) (o : Nat), (w.setCells b o vs).heap[b]? = some (.cells (putC cs o vs) t (0, 0))
  | [], _, _, _, _, h, _ => h
  | v :: r, w, b, cs, t, h, o => by
    rw [World.setCells, putC]
    exact row_setCells r (row_setCell h o v) (o + 1)
theorem heap_setCells : ∀ (vs : List Value) (w : World) (b o : Nat), (w.setCells b o vs).heap.size = w.heap.size ∧ (∀ k, k ≠ b → (w.setCells b o vs).heap[k]? = w.heap[k]?) ∧ Below b w (w.setCells b o vs)
  | [], w, b, o => ⟨rfl, fun _ _ => rfl, Below.refl _ _⟩
  | v :: r, w, b, o => by
    obtain ⟨h1, h2, h3⟩ := heap_setCells r (w.setCell ⟨b, o, none⟩ v) b (o + 1)
    have e1 : (w.setCell ⟨b, o, none⟩ v).heap.size = w.heap.size := by simp [World.setCell]
    refine ⟨h1.trans e1, fun k hk => (h2 k hk).trans (Below.heap_setCell _ _ _ _ hk), ?_⟩
    have h0 : Below b w (w.setCell ⟨b, o, none⟩ v) := (Below.refl b w).setCell (Nat.le_refl _) v
    exact h0.trans h3
theorem there_row {w : World} {b : Nat} {cs : Array Value} {t : TypeId} (h : w.heap[b]? = some (.cells cs t (0, 0))) (o n : Nat) (hn : o + n ≤ cs.size) : w.there b o n := fun j hj => by
  refine ⟨?_, frozen_of_row w b _ cs t h⟩
  rw [cell_row h, Array.getElem?_eq_getElem (by omega)]; rfl
/-- A struct into the midst of a block. -/
theorem wpList_store_at {P : Program} {ops : Array Oper} {rest : List Oper} {op : Oper} {a : Act} {w : World} {Q : Exit → Act → World → Prop} (hgd : op.guard = none) (ty : TypeId) (x y : Operand) (ho : op.op = .store ty x y)
    (g o : Nat) (old c' : Array Value) (t : TypeId) (hx : a.eval x = .pointer (some ⟨g, o, none⟩)) (hy : a.eval y = .agg c') (hg : w.heap[g]? = some (.cells old t (0, 0)))
    (hi : (P.info? ty).map (·.size) = some c'.size) (hs : o + c'.size ≤ old.size) (h1 : c'.all (·.oneCell') = true)
    (h : ∀ w', w'.heap[g]? = some (.cells (putC old o c'.toList) t (0, 0)) → (∀ k, k ≠ g → w'.heap[k]? = w.heap[k]?) → w'.heap.size = w.heap.size → Below g w w' → wpList P ops Q rest (a.put op.dst undef) w') : wpList P ops Q (op :: rest) a w := by
  obtain ⟨e1, e2, e3⟩ := heap_setCells c'.toList w g o
  exact wpList_store_mid hgd ty x y ho g o c' hx hy (there_row hg o _ hs) hi h1 (h _ (row_setCells _ hg o) e2 e1 e3)
theorem own_emptyT (w : World) (c : Array Value) (hc : c.size = 0) : (w.alloc (.cells c 68)).ownsRow w.heap.size 68 3 (.slice (some ⟨w.heap.size, 0, none⟩) 0 0) ([] : List Tm).length (rowT []) :=
  ⟨rfl, .inr ⟨w.heap.size, 0, c, rfl, Nat.le_refl _, heap_alloc_new w _, Nat.le_refl _, Nat.zero_le _, by simpa using hc, by simp [rowT]⟩⟩
set_option maxRecDepth 20000 in
set_option maxHeartbeats 400000 in
theorem clone_any (v : Value) (ts : List Tm) (w : World) (h : TV w v ts) : Calls Tryz.prog 35 #[v] w fun e w' => ∃ x, e = .returned x ∧ TV w' x ts ∧ Below w.heap.size w w' := by
  obtain ⟨a, n, c, rfl, hc, h⟩ := h
  have hr := h.room
  rcases a with _ | ad
  · have hn : n = 0 := by
      rcases h.cells with h0 | ⟨_, _, h0, _⟩
      · exact h0
      · cases h0
    subst hn
    have HZ : Hid (ts = []) := h.zero
    clear h
    have hnil : ∀ W : World, (binOp .eql 27 (.slice none 0 c) (.slice none 0 0)).run Tryz.prog W = .ok (.bool true) W := fun W => Lib.run_eql_slice_nil W _ _ none 0 c 0 0 Tryz.underlying27
    go_enter Tryz.func35, Tryz.ntmps35
    go_wp2_with fail
    go_ret
    exact ⟨_, rfl, by rw [HZ.out]; exact TV.nil, Below.refl _ _⟩
  · have H : Hid (TS w (some ad) n ts) := h
    have hl := h.len
    clear h
    have hnil : ∀ W : World, (binOp .eql 27 (.slice (some ad) n c) (.slice none 0 0)).run Tryz.prog W = .ok (.bool false) W := fun W => Lib.run_eql_slice_nil W _ _ (some ad) n c 0 0 Tryz.underlying27
    go_enter Tryz.func35, Tryz.ntmps35
    go_wp2_with (at_builtin; go_must (refine wpList_append_ts (by rfl) _ _ rfl rfl w.heap.size _ [] rfl (own_emptyT w _ rfl) (some ad) n c ts rfl (H.out.below (below1 w _)) (by simp; omega) (by simp) ?_))
    intro a' cap' w2 ho2 hg2
    have HO2 : Hid (TV w2 (.slice a' n cap') ts) := by
      have := own_tv' (ts := ts) (a := a') (n := n) (cap := cap') (base := w.heap.size) (w := w2) (by rw [hl]; simpa using ho2) (by omega) hl
      exact this
    have HB2 : Hid (Below w.heap.size w w2) := grown_below (below1 w _) (own_emptyT w _ rfl) hg2
    clear ho2 hg2
    go_wp2_with fail
    go_ret
    exact ⟨_, rfl, by simpa using HO2.out, HB2.out⟩
set_option maxRecDepth 20000 in
set_option maxHeartbeats 400000 in
theorem clone_own (v : Value) (ts : List Tm) (w : World) (h : TV w v ts) : Calls Tryz.prog 35 #[v] w fun e w' => ∃ x, e = .returned x ∧ w'.ownsRow w.heap.size 68 3 x ts.length (rowT ts) ∧ Below w.heap.size w w' := by
  obtain ⟨a, n, c, rfl, hc, h⟩ := h
  have hr := h.room
  rcases a with _ | ad
  · have hn : n = 0 := by
      rcases h.cells with h0 | ⟨_, _, h0, _⟩
      · exact h0
      · cases h0
    subst hn
    have HZ : Hid (ts = []) := h.zero
    clear h
    have hnil : ∀ W : World, (binOp .eql 27 (.slice none 0 c) (.slice none 0 0)).run Tryz.prog W = .ok (.bool true) W := fun W => Lib.run_eql_slice_nil W _ _ none 0 c 0 0 Tryz.underlying27
    go_enter Tryz.func35, Tryz.ntmps35
    go_wp2_with fail
    go_ret
    exact ⟨_, rfl, by rw [HZ.out]; exact ⟨rfl, .inl ⟨rfl, rfl⟩⟩, Below.refl _ _⟩
  · have H : Hid (TS w (some ad) n ts) := h
    have hl := h.len
    clear h
    have hnil : ∀ W : World, (binOp .eql 27 (.slice (some ad) n c) (.slice none 0 0)).run Tryz.prog W = .ok (.bool false) W := fun W => Lib.run_eql_slice_nil W _ _ (some ad) n c 0 0 Tryz.underlying27
    go_enter Tryz.func35, Tryz.ntmps35
    go_wp2_with (at_builtin; go_must (refine wpList_append_ts (by rfl) _ _ rfl rfl w.heap.size _ [] rfl (own_emptyT w _ rfl) (some ad) n c ts rfl (H.out.below (below1 w _)) (by simp; omega) (by simp) ?_))
    intro a' cap' w2 ho2 hg2
    have HO2 : Hid (w2.ownsRow w.heap.size 68 3 (.slice a' n cap') ts.length (rowT ts)) := by
      show w2.ownsRow _ _ _ _ _ _
      have e9 := hl
      subst e9
      simpa using ho2
    have HB2 : Hid (Below w.heap.size w w2) := grown_below (below1 w _) (own_emptyT w _ rfl) hg2
    clear ho2 hg2
    go_wp2_with fail
    go_ret
    exact ⟨_, rfl, HO2.out, HB2.out⟩
theorem own_from {w w' : World} {B : Nat} {e : TypeId} {k : Nat} {v : Value} {n : Nat} {xs : List Value} (h : w.ownsRow B e k v n xs) (hk : ∀ g, B ≤ g → g < w.heap.size → w'.heap[g]? = w.heap[g]?) : w'.ownsRow B e k v n xs := by
  refine ⟨h.1, ?_⟩
  rcases h.2 with h2 | ⟨g, cap, cur, e1, e2, e3, e4⟩
  · exact .inl h2
  · exact .inr ⟨g, cap, cur, e1, e2, (hk g e2 (lt_of_heap e3)).trans e3, e4⟩
theorem own_base {w : World} {B B' : Nat} {e : TypeId} {k : Nat} {v : Value} {n : Nat} {xs : List Value} (h : w.ownsRow B e k v n xs) (hb : B' ≤ B) : w.ownsRow B' e k v n xs := by
  refine ⟨h.1, ?_⟩
  rcases h.2 with h2 | ⟨g, cap, cur, e1, e2, e3, e4⟩
  · exact .inl h2
  · exact .inr ⟨g, cap, cur, e1, by omega, e3, e4⟩
theorem own_kept {w w' : World} {B : Nat} {k : Nat} {v : Value} {n : Nat} {xs : List Value} (h : w.ownsRow B 68 k v n xs) (hk : Kept w w') : w'.ownsRow B 68 k v n xs := by
  refine ⟨h.1, ?_⟩
  rcases h.2 with h2 | ⟨g, cap, cur, e1, e2, e3, e4⟩
  · exact .inl h2
  · exact .inr ⟨g, cap, cur, e1, e2, hk _ _ e3, e4⟩
theorem own_any {w : World} {B : Nat} {v : Value} {ts : List Tm} (h : w.ownsRow B 68 3 v ts.length (rowT ts)) (hl : ts.length ≤ 1000000) : TV w v ts := by
  rcases h.2 with ⟨rfl, h2⟩ | ⟨g, cap, cur, rfl, e2⟩
  · rw [List.length_eq_zero_iff.1 h2]; exact TV.nil
  · exact own_tv' h (by omega) rfl
theorem ru_one (p : Int) (s : Value) (id : Int) (h : s.oneCell' = true) : (ruC p s id).all (·.oneCell') = true := by simp [Value.oneCell']; exact h
theorem size3r : (Tryz.prog.info? 29).map (·.size) = some 3 := by kernel_rfl
set_option maxRecDepth 20000 in
set_option maxHeartbeats 1000000 in
theorem copyOf_any (p id : Int) (s : Value) (ts : List Tm) (w : World) (h : TV w s ts) : Calls Tryz.prog 19 #[.agg (ruC p s id)] w fun e w' => ∃ x, e = .returned (.agg (ruC p x id)) ∧ w'.ownsRow w.heap.size 68 3 x ts.length (rowT ts) ∧ Below w.heap.size w w' := by
  have hw2 := below2 w (.cells (ruC p s id) 29) (.cells (ruC 0 (.slice none 0 0) 0) 29)
  have HC : Hid _ := clone_own s ts ((w.alloc (.cells (ruC p s id) 29)).alloc (.cells (ruC 0 (.slice none 0 0) 0) 29)) (h.below hw2)
  have HB : Hid _ := hw2
  obtain ⟨sa, sn, sc, rfl, _, _⟩ := h
  have B1 : Hid (((w.alloc (.cells (ruC p (.slice sa sn sc) id) 29)).alloc (.cells (ruC 0 (.slice none 0 0) 0) 29)).heap[w.heap.size]? = some (.cells (ruC p (.slice sa sn sc) id) 29 (0, 0))) := two_first _ _ _
  have B2 : Hid (((w.alloc (.cells (ruC p (.slice sa sn sc) id) 29)).alloc (.cells (ruC 0 (.slice none 0 0) 0) 29)).heap[w.heap.size + 1]? = some (.cells (ruC 0 (.slice none 0 0) 0) 29 (0, 0))) := two_last _ _ _
  have hz : ((w.alloc (.cells (ruC p (.slice sa sn sc) id) 29)).alloc (.cells (ruC 0 (.slice none 0 0) 0) 29)).heap.size = w.heap.size + 1 + 1 := by simp
  have HZ : Hid _ := hz
  clear hw2 hz
  go_enter Tryz.func19, Tryz.ntmps19
  go_wp2_with fail
  refine Calls.mono HC.out ?_
  rintro e W ⟨x, rfl, hx, hb⟩
  obtain ⟨xa, xn, xc, rfl⟩ : ∃ a n c, x = .slice a n c := by
    rcases hx.2 with ⟨e, _⟩ | ⟨g, cap, cur, e, _⟩
    · exact ⟨_, _, _, e⟩
    · exact ⟨_, _, _, e⟩
  have R1 : W.heap[w.heap.size]? = some (.cells (ruC p (.slice sa sn sc) id) 29 (0, 0)) := (hb.block _ (by rw [HZ.out]; omega)).trans B1.out
  have R2 : Hid (W.heap[w.heap.size + 1]? = some (.cells (ruC 0 (.slice none 0 0) 0) 29 (0, 0))) := (hb.block _ (by rw [HZ.out]; omega)).trans B2.out
  have c1 : W.cell? ⟨w.heap.size, 1, none⟩ = some (.slice sa sn sc) := cell_row R1 1
  have f1 := frozen_of_row W w.heap.size 1 _ _ R1
  have R3 : Hid ((W.setCell ⟨w.heap.size, 1, none⟩ (.slice xa xn xc)).heap[w.heap.size]? = some (.cells (ruC p (.slice xa xn xc) id) 29 (0, 0))) := row_setCell R1 1 _
  have BW : Hid (Below w.heap.size w W) := HB.out.trans (hb.mono (by rw [HZ.out]; omega))
  have ne : Hid (w.heap.size + 1 ≠ w.heap.size) := by show _ ≠ _; omega
  have XT : Hid _ := hx
  have SZ : Hid (w.heap.size + 2 ≤ W.heap.size) := by have := hb.size; rw [HZ.out] at this; exact this
  have R4 : Hid ((W.setCell ⟨w.heap.size, 1, none⟩ (.slice xa xn xc)).heap[w.heap.size + 1]? = some (.cells (ruC 0 (.slice none 0 0) 0) 29 (0, 0))) := (Below.heap_setCell _ _ _ _ ne.out).trans R2.out
  clear hb hx R1
  go_wp2_with (first
    | refine wpList_load_row rfl 29 _ rfl w.heap.size rfl 29 (ruC p (.slice xa xn xc) id) (0, 0) _ R3.out Tryz.underlying29 rfl size3r ?_
    | refine wpList_store_row rfl 29 _ _ rfl (w.heap.size + 1) (ruC 0 (.slice none 0 0) 0) (ruC p (.slice xa xn xc) id) 29 rfl rfl R4.out size3r rfl (ru_one p (.slice xa xn xc) id rfl) ?_
    | fail)
  intro W9 z1 z2 z3 z4
  have BW9 : Hid (Below w.heap.size w W9) := (BW.out.setCell (Nat.le_refl _) _).trans (z4.mono (by omega))
  go_wp2
  refine bodyPost_ret (results_cell_row (p := 2) (ty := 29) rfl _ _ (w.heap.size + 1) 29 _ (0, 0) _ rfl z1 Tryz.underlying29 rfl size3r) rfl ⟨_, rfl, ?_, BW9.out⟩
  refine own_base (B := w.heap.size + 1 + 1) (own_from (w := W) (by have := XT.out; rw [HZ.out] at this; exact this) (fun g hg1 hg2 => ?_)) (by omega)
  rw [z2 g (by omega)]
  exact Below.heap_setCell _ _ _ _ (show g ≠ w.heap.size by omega)
end Go.Proofs.YtijeakggeichcaaGreatDoor
