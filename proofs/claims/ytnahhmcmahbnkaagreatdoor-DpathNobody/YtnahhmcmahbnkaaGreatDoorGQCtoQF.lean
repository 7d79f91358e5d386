/- Copies of rules and shapes of terms. Conditions: the terms can be read. -/
import Derived.Test.YtnahhmcmahbnkaaGreatDoorGQAtoQB
import Derived.Test.YtnahhmcmahbnkaaGreatDoorLNum
import Derived.Lib.SliceRun
import Derived.Lib.Hide
namespace Go.Proofs.YtnahhmcmahbnkaaGreatDoor
open Go.RowKit
theorem wpList_build_as {P : Program} {ops : Array Oper} {rest : List Oper} {op : Oper} {a : Act} {w : World} {Q : Exit → Act → World → Prop} (hgd : op.guard = none) (t : TypeId) (parts : Array (Nat × Operand)) (ho : op.op = .build t parts)
    (cells : Array Value) (hc : P.built t (parts.map fun (i, x) => (i, a.eval x)).toList = some cells)
    (h : wpList P ops Q rest (a.put op.dst (.agg cells)) w) : wpList P ops Q (op :: rest) a w := by
  refine wpList_plain hgd fun K hK => ?_
  unfold Oper.wp execOp
  simp only [ho, Sem.run_bind, run_build w t _ cells hc, Result.andThen_ok]
  exact hK _ _ h
theorem wpList_load_at {P : Program} {ops : Array Oper} {rest : List Oper} {op : Oper} {a : Act} {w : World} {Q : Exit → Act → World → Prop} (hgd : op.guard = none) (ty : TypeId) (x : Operand) (ho : op.op = .load ty x)
    (g o n : Nat) (hx : a.eval x = .pointer (some ⟨g, o, none⟩)) (cs : Array Value) (t : TypeId) (d : TypeDesc) (hg : w.heap[g]? = some (.cells cs t (0, 0)))
    (hu : P.underlying ty = some d) (hd : d.isRow = true) (hn : (cs.extract o (o + n)).size = n) (hi : (P.info? ty).map (·.size) = some n)
    (h : wpList P ops Q rest (a.put op.dst (.agg (cs.extract o (o + n)))) w) : wpList P ops Q (op :: rest) a w := by
  have hr := World.rangeAt_of_block hg o n
  refine wpList_load_mid hgd ty x ho g o hx (cs.extract o (o + n)).toList d hr hu hd (by rw [Array.length_toList, hn]; exact hi) ?_
  rw [Array.toArray_toList]
  exact h
theorem wpList_load_as {P : Program} {ops : Array Oper} {rest : List Oper} {op : Oper} {a : Act} {w : World} {Q : Exit → Act → World → Prop} (hgd : op.guard = none) (ty : TypeId) (x : Operand) (ho : op.op = .load ty x)
    (g o n : Nat) (hx : a.eval x = .pointer (some ⟨g, o, none⟩)) (cs L : Array Value) (t : TypeId) (d : TypeDesc) (hg : w.heap[g]? = some (.cells cs t (0, 0)))
    (hu : P.underlying ty = some d) (hd : d.isRow = true) (hL : cs.extract o (o + n) = L) (hn : L.size = n) (hi : (P.info? ty).map (·.size) = some n)
    (h : wpList P ops Q rest (a.put op.dst (.agg L)) w) : wpList P ops Q (op :: rest) a w := by
  subst hL
  exact wpList_load_at hgd ty x ho g o n hx cs t d hg hu hd hn hi h
theorem row_setCell {w : World} {b : Nat} {cs : Array Value} {t : TypeId} (h : w.heap[b]? = some (.cells cs t (0, 0))) (o : Nat) (v : Value) : (w.setCell ⟨b, o, none⟩ v).heap[b]? = some (.cells (cs.setIfInBounds o v) t (0, 0)) := by
  have hlt : b < w.heap.size := lt_of_heap h
  have hv : w.heap[b] = .cells cs t (0, 0) := (Array.getElem?_eq_some_iff.1 h).2
  unfold World.setCell
  simp [Array.getElem?_modify, h]
/-- A row with other cells from a place on. -/
def putC : Array Value → Nat → List Value → Array Value
  | cs, _, [] => cs
  | cs, o, v :: r => putC (cs.setIfInBounds o v) (o + 1) r
theorem putC_size : ∀ (vs : List Value) (cs : Array Value) (o : Nat), (putC cs o vs).size = cs.size
  | [], _, _ => rfl
  | v :: r, cs, o => by rw [putC, putC_size r]; simp
theorem row_setCells : ∀ (vs : List Value) {w : World} {b : Nat} {cs : Array Value} {t : TypeId} (_ : w.heap[b]? = some (.cells cs t (0, 0))) (o : Nat), (w.setCells b o vs).heap[b]? = some (.cells (putC cs o vs) t (0, 0))
  | [], _, _, _, _, h, _ => h
  | v :: r, w, b, cs, t, h, o => by
    rw [World.setCells, putC]
    exact row_setCells r (row_setCell h o v) (o + 1)
theorem heap_setCells : ∀ (vs : List Value) (w : World) (b o : Nat), (w.setCells b o vs).heap.size = w.heap.size ∧ (∀ k, k ≠ b → (w.setCells b o vs).heap[k]? = w.heap[k]?) ∧ Below b w (w.setCells b o vs)
  | [], w, b, o => ⟨rfl, fun _ _ => rfl, Below.refl _ _⟩
  | v :: r, w, b, o => by
    obtain ⟨h1, h2, h3⟩ := heap_setCells r (w.setCell ⟨b, o, none⟩ v) b (o + 1)
    have e1 : (w.setCell ⟨b, o, none⟩ v).heap.size = w.heap.size := by simp [World.setCell]
    refine ⟨h1.trans e1, fun k hk => (h2 k hk).trans (Below.heap_setCell _ _ _ _ hk), ?_⟩
    have h0 : Below b w (w.setCell ⟨b, o, none⟩ v) := (Below.refl b w).setCell (Nat.le_refl _) v
    exact h0.trans h3
theorem there_row {w : World} {b : Nat} {cs : Array Value} {t : TypeId} (h : w.heap[b]? = some (.cells cs t (0, 0))) (o n : Nat) (hn : o + n ≤ cs.size) : w.there b o n := fun j hj => by
  refine ⟨?_, frozen_of_row w b _ cs t h⟩
  rw [cell_row h, Array.getElem?_eq_getElem (by omega)]; rfl
/-- A struct into the midst of a block. -/
theorem wpList_store_at {P : Program} {ops : Array Oper} {rest : List Oper} {op : Oper} {a : Act} {w : World} {Q : Exit → Act → World → Prop} (hgd : op.guard = none) (ty : TypeId) (x y : Operand) (ho : op.op = .store ty x y)
    (g o : Nat) (old c' : Array Value) (t : TypeId) (hx : a.eval x = .pointer (some ⟨g, o, none⟩)) (hy : a.eval y = .agg c') (hg : w.heap[g]? = some (.cells old t (0, 0)))
    (hi : (P.info? ty).map (·.size) = some c'.size) (hs : o + c'.size ≤ old.size) (h1 : c'.all (·.oneCell') = true)
    (h : ∀ w', w'.heap[g]? = some (.cells (putC old o c'.toList) t (0, 0)) → (∀ k, k ≠ g → w'.heap[k]? = w.heap[k]?) → w'.heap.size = w.heap.size → Below g w w' → wpList P ops Q rest (a.put op.dst undef) w') : wpList P ops Q (op :: rest) a w := by
  obtain ⟨e1, e2, e3⟩ := heap_setCells c'.toList w g o
  exact wpList_store_mid hgd ty x y ho g o c' hx hy (there_row hg o _ hs) hi h1 (h _ (row_setCells _ hg o) e2 e1 e3)
theorem own_emptyT (w : World) (c : Array Value) (hc : c.size = 0) : (w.alloc (.cells c 118)).ownsRow w.heap.size 118 3 (.slice (some ⟨w.heap.size, 0, none⟩) 0 0) ([] : List Tm).length (rowT []) :=
  ⟨rfl, .inr ⟨w.heap.size, 0, c, rfl, Nat.le_refl _, heap_alloc_new w _, Nat.le_refl _, Nat.zero_le _, by simpa using hc, by simp [rowT]⟩⟩
set_option maxRecDepth 20000 in
set_option maxHeartbeats 400000 in
theorem clone_any (v : Value) (ts : List Tm) (w : World) (h : TV w v ts) : Calls Tryz.prog 40 #[v] w fun e w' => ∃ x, e = .returned x ∧ TV w' x ts ∧ Below w.heap.size w w' := by
  obtain ⟨a, n, c, rfl, hc, h⟩ := h
  have hr := h.room
  rcases a with _ | ad
  · have hn : n = 0 := by
      rcases h.cells with h0 | ⟨_, _, h0, _⟩
      · exact h0
      · cases h0
    subst hn
    have HZ : Hid (ts = []) := h.zero
    clear h
    have hnil : ∀ W : World, (binOp .eql 50 (.slice none 0 c) (.slice none 0 0)).run Tryz.prog W = .ok (.bool true) W := fun W => Lib.run_eql_slice_nil W _ _ none 0 c 0 0 Tryz.underlying50
    go_enter Tryz.func40, Tryz.ntmps40
    go_wp2_with fail
    go_ret
    exact ⟨_, rfl, by rw [HZ.out]; exact TV.nil, Below.refl _ _⟩
  · have H : Hid (TS w (some ad) n ts) := h
    have hl := h.len
    clear h
    have hnil : ∀ W : World, (binOp .eql 50 (.slice (some ad) n c) (.slice none 0 0)).run Tryz.prog W = .ok (.bool false) W := fun W => Lib.run_eql_slice_nil W _ _ (some ad) n c 0 0 Tryz.underlying50
    go_enter Tryz.func40, Tryz.ntmps40
    go_wp2_with (at_builtin; go_must (refine wpList_append_ts (by rfl) _ _ rfl rfl w.heap.size _ [] rfl (own_emptyT w _ rfl) (some ad) n c ts rfl (H.out.below (below1 w _)) (by simp; omega) (by simp) ?_))
    intro a' cap' w2 ho2 hg2
    have HO2 : Hid (TV w2 (.slice a' n cap') ts) := by
      have := own_tv' (ts := ts) (a := a') (n := n) (cap := cap') (base := w.heap.size) (w := w2) (by rw [hl]; simpa using ho2) (by omega) hl
      exact this
    have HB2 : Hid (Below w.heap.size w w2) := grown_below (below1 w _) (own_emptyT w _ rfl) hg2
    clear ho2 hg2
    go_wp2_with fail
    go_ret
    exact ⟨_, rfl, by simpa using HO2.out, HB2.out⟩
set_option maxRecDepth 20000 in
set_option maxHeartbeats 400000 in
theorem clone_own (v : Value) (ts : List Tm) (w : World) (h : TV w v ts) : Calls Tryz.prog 40 #[v] w fun e w' => ∃ x, e = .returned x ∧ w'.ownsRow w.heap.size 118 3 x ts.length (rowT ts) ∧ Below w.heap.size w w' := by
  obtain ⟨a, n, c, rfl, hc, h⟩ := h
  have hr := h.room
  rcases a with _ | ad
  · have hn : n = 0 := by
      rcases h.cells with h0 | ⟨_, _, h0, _⟩
      · exact h0
      · cases h0
    subst hn
    have HZ : Hid (ts = []) := h.zero
    clear h
    have hnil : ∀ W : World, (binOp .eql 50 (.slice none 0 c) (.slice none 0 0)).run Tryz.prog W = .ok (.bool true) W := fun W => Lib.run_eql_slice_nil W _ _ none 0 c 0 0 Tryz.underlying50
    go_enter Tryz.func40, Tryz.ntmps40
    go_wp2_with fail
    go_ret
    exact ⟨_, rfl, by rw [HZ.out]; exact ⟨rfl, .inl ⟨rfl, rfl⟩⟩, Below.refl _ _⟩
  · have H : Hid (TS w (some ad) n ts) := h
    have hl := h.len
    clear h
    have hnil : ∀ W : World, (binOp .eql 50 (.slice (some ad) n c) (.slice none 0 0)).run Tryz.prog W = .ok (.bool false) W := fun W => Lib.run_eql_slice_nil W _ _ (some ad) n c 0 0 Tryz.underlying50
    go_enter Tryz.func40, Tryz.ntmps40
    go_wp2_with (at_builtin; go_must (refine wpList_append_ts (by rfl) _ _ rfl rfl w.heap.size _ [] rfl (own_emptyT w _ rfl) (some ad) n c ts rfl (H.out.below (below1 w _)) (by simp; omega) (by simp) ?_))
    intro a' cap' w2 ho2 hg2
    have HO2 : Hid (w2.ownsRow w.heap.size 118 3 (.slice a' n cap') ts.length (rowT ts)) := by
      show w2.ownsRow _ _ _ _ _ _
      have e9 := hl
      subst e9
      simpa using ho2
    have HB2 : Hid (Below w.heap.size w w2) := grown_below (below1 w _) (own_emptyT w _ rfl) hg2
    clear ho2 hg2
    go_wp2_with fail
    go_ret
    exact ⟨_, rfl, HO2.out, HB2.out⟩
theorem own_from {w w' : World} {B : Nat} {e : TypeId} {k : Nat} {v : Value} {n : Nat} {xs : List Value} (h : w.ownsRow B e k v n xs) (hk : ∀ g, B ≤ g → g < w.heap.size → w'.heap[g]? = w.heap[g]?) : w'.ownsRow B e k v n xs := by
  refine ⟨h.1, ?_⟩
  rcases h.2 with h2 | ⟨g, cap, cur, e1, e2, e3, e4⟩
  · exact .inl h2
  · exact .inr ⟨g, cap, cur, e1, e2, (hk g e2 (lt_of_heap e3)).trans e3, e4⟩
theorem own_base {w : World} {B B' : Nat} {e : TypeId} {k : Nat} {v : Value} {n : Nat} {xs : List Value} (h : w.ownsRow B e k v n xs) (hb : B' ≤ B) : w.ownsRow B' e k v n xs := by
  refine ⟨h.1, ?_⟩
  rcases h.2 with h2 | ⟨g, cap, cur, e1, e2, e3, e4⟩
  · exact .inl h2
  · exact .inr ⟨g, cap, cur, e1, by omega, e3, e4⟩
theorem own_kept {w w' : World} {B : Nat} {k : Nat} {v : Value} {n : Nat} {xs : List Value} (h : w.ownsRow B 118 k v n xs) (hk : Kept w w') : w'.ownsRow B 118 k v n xs := by
  refine ⟨h.1, ?_⟩
  rcases h.2 with h2 | ⟨g, cap, cur, e1, e2, e3, e4⟩
  · exact .inl h2
  · exact .inr ⟨g, cap, cur, e1, e2, hk _ _ e3, e4⟩
theorem own_any {w : World} {B : Nat} {v : Value} {ts : List Tm} (h : w.ownsRow B 118 3 v ts.length (rowT ts)) (hl : ts.length ≤ 1000000) : TV w v ts := by
  rcases h.2 with ⟨rfl, h2⟩ | ⟨g, cap, cur, rfl, e2⟩
  · rw [List.length_eq_zero_iff.1 h2]; exact TV.nil
  · exact own_tv' h (by omega) rfl
theorem ru_one (p : Int) (s : Value) (id : Int) (h : s.oneCell' = true) : (ruC p s id).all (·.oneCell') = true := by simp [Value.oneCell']; exact h
theorem size3r : (Tryz.prog.info? 106).map (·.size) = some 3 := by kernel_rfl
set_option maxRecDepth 20000 in
set_option maxHeartbeats 1000000 in
theorem copyOf_any (p id : Int) (s : Value) (ts : List Tm) (w : World) (h : TV w s ts) : Calls Tryz.prog 57 #[.agg (ruC p s id)] w fun e w' => ∃ x, e = .returned (.agg (ruC p x id)) ∧ w'.ownsRow w.heap.size 118 3 x ts.length (rowT ts) ∧ Below w.heap.size w w' := by
  have hw2 := below2 w (.cells (ruC p s id) 106) (.cells (ruC 0 (.slice none 0 0) 0) 106)
  have HC : Hid _ := clone_own s ts ((w.alloc (.cells (ruC p s id) 106)).alloc (.cells (ruC 0 (.slice none 0 0) 0) 106)) (h.below hw2)
  have HB : Hid _ := hw2
  obtain ⟨sa, sn, sc, rfl, _, _⟩ := h
  have B1 : Hid (((w.alloc (.cells (ruC p (.slice sa sn sc) id) 106)).alloc (.cells (ruC 0 (.slice none 0 0) 0) 106)).heap[w.heap.size]? = some (.cells (ruC p (.slice sa sn sc) id) 106 (0, 0))) := two_first _ _ _
  have B2 : Hid (((w.alloc (.cells (ruC p (.slice sa sn sc) id) 106)).alloc (.cells (ruC 0 (.slice none 0 0) 0) 106)).heap[w.heap.size + 1]? = some (.cells (ruC 0 (.slice none 0 0) 0) 106 (0, 0))) := two_last _ _ _
  have hz : ((w.alloc (.cells (ruC p (.slice sa sn sc) id) 106)).alloc (.cells (ruC 0 (.slice none 0 0) 0) 106)).heap.size = w.heap.size + 1 + 1 := by simp
  have HZ : Hid _ := hz
  clear hw2 hz
  go_enter Tryz.func57, Tryz.ntmps57
  go_wp2_with fail
  refine Calls.mono HC.out ?_
  rintro e W ⟨x, rfl, hx, hb⟩
  obtain ⟨xa, xn, xc, rfl⟩ : ∃ a n c, x = .slice a n c := by
    rcases hx.2 with ⟨e, _⟩ | ⟨g, cap, cur, e, _⟩
    · exact ⟨_, _, _, e⟩
    · exact ⟨_, _, _, e⟩
  have R1 : W.heap[w.heap.size]? = some (.cells (ruC p (.slice sa sn sc) id) 106 (0, 0)) := (hb.block _ (by rw [HZ.out]; omega)).trans B1.out
  have R2 : Hid (W.heap[w.heap.size + 1]? = some (.cells (ruC 0 (.slice none 0 0) 0) 106 (0, 0))) := (hb.block _ (by rw [HZ.out]; omega)).trans B2.out
  have c1 : W.cell? ⟨w.heap.size, 1, none⟩ = some (.slice sa sn sc) := cell_row R1 1
  have f1 := frozen_of_row W w.heap.size 1 _ _ R1
  have R3 : Hid ((W.setCell ⟨w.heap.size, 1, none⟩ (.slice xa xn xc)).heap[w.heap.size]? = some (.cells (ruC p (.slice xa xn xc) id) 106 (0, 0))) := row_setCell R1 1 _
  have BW : Hid (Below w.heap.size w W) := HB.out.trans (hb.mono (by rw [HZ.out]; omega))
  have ne : Hid (w.heap.size + 1 ≠ w.heap.size) := by show _ ≠ _; omega
  have XT : Hid _ := hx
  have SZ : Hid (w.heap.size + 2 ≤ W.heap.size) := by have := hb.size; rw [HZ.out] at this; exact this
  have R4 : Hid ((W.setCell ⟨w.heap.size, 1, none⟩ (.slice xa xn xc)).heap[w.heap.size + 1]? = some (.cells (ruC 0 (.slice none 0 0) 0) 106 (0, 0))) := (Below.heap_setCell _ _ _ _ ne.out).trans R2.out
  clear hb hx R1
  go_wp2_with (first
    | refine wpList_load_row rfl 106 _ rfl w.heap.size rfl 106 (ruC p (.slice xa xn xc) id) (0, 0) _ R3.out Tryz.underlying106 rfl size3r ?_
    | refine wpList_store_row rfl 106 _ _ rfl (w.heap.size + 1) (ruC 0 (.slice none 0 0) 0) (ruC p (.slice xa xn xc) id) 106 rfl rfl R4.out size3r rfl (ru_one p (.slice xa xn xc) id rfl) ?_
    | fail)
  intro W9 z1 z2 z3 z4
  have BW9 : Hid (Below w.heap.size w W9) := (BW.out.setCell (Nat.le_refl _) _).trans (z4.mono (by omega))
  go_wp2
  refine bodyPost_ret (results_cell_row (p := 2) (ty := 106) rfl _ _ (w.heap.size + 1) 106 _ (0, 0) _ rfl z1 Tryz.underlying106 rfl size3r) rfl ⟨_, rfl, ?_, BW9.out⟩
  refine own_base (B := w.heap.size + 1 + 1) (own_from (w := W) (by have := XT.out; rw [HZ.out] at this; exact this) (fun g hg1 hg2 => ?_)) (by omega)
  rw [z2 g (by omega)]
  exact Below.heap_setCell _ _ _ _ (show g ≠ w.heap.size by omega)
end Go.Proofs.YtnahhmcmahbnkaaGreatDoor
/- Shapes, marks and values of terms. Conditions: the terms can be read; at most 100 of them. -/
namespace Go.Proofs.YtnahhmcmahbnkaaGreatDoor
open Go.RowKit
/-- A term without its value. -/
def z0 (t : Tm) : Tm := ⟨t.f, 0#64, t.m⟩
theorem rowT_set : ∀ (ts : List Tm) (i : Nat) (t : Tm), ts[i]? = some t → (rowT ts).set (i * 3 + 1) (.int .u64 0) = rowT (ts.set i (z0 t))
  | [], _, _, h => by simp at h
  | x :: r, 0, t, h => by
    simp at h; subst h
    simp [rowT, cellsT, z0]
  | x :: r, i + 1, t, h => by
    have ih := rowT_set r i t (by simpa using h)
    rw [rowT_cons, List.set_cons_succ, rowT_cons, ← ih]
    rw [List.set_append_right _ _ (by simp [cellsT]; omega)]
    congr 2
    simp [cellsT]; omega
theorem own_set {w : World} {B g n cap i : Nat} {e : TypeId} {s : Nat} {xs : List Value} (h : w.ownsRow B e s (.slice (some ⟨g, 0, none⟩) n cap) n xs) (v : Value) (_ : i < n * s) : (w.setCell ⟨g, i, none⟩ v).ownsRow B e s (.slice (some ⟨g, 0, none⟩) n cap) n (xs.set i v) := by
  obtain ⟨h1, h2⟩ := h
  refine ⟨by simpa using h1, ?_⟩
  rcases h2 with ⟨e0, _⟩ | ⟨g', cap', cur, e1, e2, e3, e4, e5, e6, e7⟩
  · cases e0
  · cases e1
    refine .inr ⟨g, cap, cur.setIfInBounds i v, rfl, e2, row_setCell e3 i v, e4, e5, by simpa using e6, ?_⟩
    rw [Array.toList_setIfInBounds, ← e7]
    rw [List.take_set]
theorem own_cell {w : World} {B g n cap i : Nat} {e : TypeId} {s : Nat} {xs : List Value} (h : w.ownsRow B e s (.slice (some ⟨g, 0, none⟩) n cap) n xs) (hi : i < n * s) : w.cell? ⟨g, i, none⟩ = xs[i]? ∧ w.frozen? ⟨g, i, none⟩ = false := by
  obtain ⟨h1, h2⟩ := h
  rcases h2 with ⟨e0, _⟩ | ⟨g', cap', cur, e1, e2, e3, e4, e5, e6, e7⟩
  · cases e0
  · cases e1
    refine ⟨?_, frozen_of_row w g i cur e e3⟩
    rw [cell_row e3, ← e7, List.getElem?_take_of_lt hi, Array.getElem?_toList]
theorem own_ge {w : World} {B g n cap : Nat} {e : TypeId} {s : Nat} {xs : List Value} (h : w.ownsRow B e s (.slice (some ⟨g, 0, none⟩) n cap) n xs) : B ≤ g ∧ g < w.heap.size := by
  obtain ⟨h1, h2⟩ := h
  rcases h2 with ⟨e0, _⟩ | ⟨g', cap', cur, e1, e2, e3, e4, e5, e6, e7⟩
  · cases e0
  · cases e1; exact ⟨e2, lt_of_heap e3⟩
/-- Terms, the first k without their values. -/
def zt (ts : List Tm) (k : Nat) : List Tm := (ts.take k).map z0 ++ ts.drop k
theorem zt_len (ts : List Tm) (k : Nat) : (zt ts k).length = ts.length := by simp [zt]; omega
theorem zt_zero (ts : List Tm) : zt ts 0 = ts := by simp [zt]
theorem zt_all (ts : List Tm) : zt ts ts.length = ts.map z0 := by simp [zt]
theorem zt_at {ts : List Tm} {k : Nat} {t : Tm} (h : ts[k]? = some t) : (zt ts k)[k]? = some t := by
  have hl := (List.getElem?_eq_some_iff.1 h).1
  unfold zt
  rw [List.getElem?_append_right (by simp; omega)]
  simp [h, Nat.min_eq_left (Nat.le_of_lt hl)]
theorem zt_succ {ts : List Tm} {k : Nat} {t : Tm} (h : ts[k]? = some t) : (zt ts k).set k (z0 t) = zt ts (k + 1) := by
  have hl := (List.getElem?_eq_some_iff.1 h).1
  have ht := (List.getElem?_eq_some_iff.1 h).2
  unfold zt
  rw [List.set_append_right _ _ (by simp; omega)]
  simp only [List.length_map, List.length_take, Nat.min_eq_left (Nat.le_of_lt hl), Nat.sub_self]
  rw [List.drop_eq_getElem_cons hl, ht, List.set_cons_zero, List.take_succ_eq_append_getElem hl, ht]
  simp
set_option maxRecDepth 20000 in
set_option maxHeartbeats 1000000 in
theorem shapeOf_any (v : Value) (ts : List Tm) (w : World) (h : TV w v ts) (hlen : ts.length ≤ 1000000) : Calls Tryz.prog 87 #[v] w fun e w' => ∃ x, e = .returned x ∧ w'.ownsRow w.heap.size 118 3 x ts.length (rowT (ts.map z0)) ∧ Below w.heap.size w w' := by
  have HC : Hid _ := clone_own v ts w h
  obtain ⟨sa, sn, sc, rfl, _, _⟩ := h
  go_enter Tryz.func87, Tryz.ntmps87
  go_wp2_with fail
  refine Calls.mono HC.out ?_
  rintro e W ⟨x, rfl, ho, hb⟩
  have HO : Hid _ := ho
  have HB : Hid _ := hb
  rcases ho.2 with ⟨rfl, h0⟩ | ⟨g, cap, cur, rfl, h1, h2, h3⟩
  · have hnil : ts = [] := List.length_eq_zero_iff.1 h0
    subst hnil
    clear ho hb h0
    go_wp2_with fail
    refine wp_loop_rounds 1 ?_
    rw [rounds_succ]
    go_wp2
    go_ret
    exact ⟨.slice none 0 0, rfl, ⟨rfl, .inl ⟨rfl, rfl⟩⟩, HB.out⟩
  · clear ho hb h1 h2 h3
    go_wp2_with fail
    go_loopw [9] (fun i wr => ∃ k : Nat, i = .int .i64 k ∧ k ≤ ts.length ∧ Hid (wr.ownsRow w.heap.size 118 3 (.slice (some ⟨g, 0, none⟩) ts.length cap) ts.length (rowT (zt ts k))) ∧ Hid (Below w.heap.size w wr)) (fun i _ => ts.length - (intOf i).toNat)
    case atStart => exact ⟨0, rfl, by omega, by rw [zt_zero]; exact HO.out, HB.out⟩
    case round =>
      obtain ⟨k, rfl, hk, ho, hb⟩ := hrel
      have hk0 : (0 : Int) ≤ k := by omega
      by_cases hlt : k < ts.length
      · have hkI : (k : Int) < ts.length := by omega
        obtain ⟨t, ht⟩ : ∃ t, ts[k]? = some t := ⟨_, List.getElem?_eq_getElem hlt⟩
        obtain ⟨c1, f1⟩ := own_cell ho.out (i := k * 3 + 1) (by omega)
        have q := rowT_at (zt ts k) k t (zt_at ht) 1 (by omega)
        rw [q] at c1
        have c1' : wr.cell? ⟨g, k * 3 + 1, none⟩ = some (.int .u64 (t.v.toNat : Int)) := c1
        have HN : Hid ((wr.setCell ⟨g, k * 3 + 1, none⟩ (.int .u64 0)).ownsRow w.heap.size 118 3 (.slice (some ⟨g, 0, none⟩) ts.length cap) ts.length (rowT (zt ts (k + 1)))) := by
          have := own_set ho.out (.int .u64 0) (i := k * 3 + 1) (by omega)
          rwa [rowT_set _ _ _ (zt_at ht), zt_succ ht] at this
        have BN : Hid (Below w.heap.size w (wr.setCell ⟨g, k * 3 + 1, none⟩ (.int .u64 0))) := hb.out.setCell (own_ge ho.out).1 _
        clear c1 q ht ho hb
        go_wp2
        go_roundw
        case rel => exact ⟨k + 1, rfl, by omega, HN, BN⟩
        case measure => simp [intOf]; omega
      · have hkI : ¬ (k : Int) < ts.length := by omega
        obtain rfl : k = ts.length := by omega
        go_wp2
        go_ret
        exact ⟨_, rfl, by rw [← zt_all]; exact ho.out, hb.out⟩
end Go.Proofs.YtnahhmcmahbnkaaGreatDoor
/- Marks and values of terms. Conditions: the terms can be read; at most 100 of them. -/
namespace Go.Proofs.YtnahhmcmahbnkaaGreatDoor
open Go.RowKit
theorem and63 (a : Int) : 0 ≤ bits BinOp.and IntKind.u64 a 63 ∧ bits BinOp.and IntKind.u64 a 63 ≤ 63 := by
  have e : bits BinOp.and IntKind.u64 a 63 = ((bv a &&& bv 63).toNat : Int) := wrapU _ (BitVec.isLt _)
  rw [e]
  have h : (bv a &&& bv 63).toNat ≤ (bv 63).toNat := by rw [BitVec.toNat_and]; exact Nat.and_le_right
  have h2 : (bv 63).toNat = 63 := by decide +kernel
  omega
set_option maxHeartbeats 1000000 in
theorem rotate_any (x k : Int) (w : World) : Calls Tryz.prog 111 #[.int .u64 x, .int .i64 k] w fun e w' => (∃ y, e = .returned (.int .u64 y)) ∧ w' = w := by
  have h63 := and63 (IntKind.u64.wrap k)
  go_enter Tryz.func111, Tryz.ntmps111
  go_wp2
  go_ret
  exact ⟨⟨_, rfl⟩, rfl⟩
set_option maxRecDepth 20000 in
set_option maxHeartbeats 1000000 in
theorem marksOf_any (v : Value) (ts : List Tm) (w : World) (h : TV w v ts) (hlen : ts.length ≤ 1000000) : Calls Tryz.prog 88 #[v] w fun e w' => (∃ y, e = .returned (.int .u64 y)) ∧ Below w.heap.size w w' := by
  obtain ⟨a, n, c, rfl, hc, ht⟩ := h
  have HT : Hid _ := ht
  have hn : ts.length = n := ht.len
  subst hn
  clear ht
  go_enter Tryz.func88, Tryz.ntmps88
  go_wp2_with fail
  go_loopw [3, 8] (fun m i wr => ∃ (k : Nat) (y : Int), i = .int .i64 k ∧ k ≤ ts.length ∧ m = .int .u64 y ∧ Hid (Below w.heap.size w wr)) (fun _ i _ => ts.length - (intOf i).toNat)
  case atStart => exact ⟨0, 0, rfl, by omega, rfl, Below.refl _ _⟩
  case round =>
    obtain ⟨k, y, rfl, hk, rfl, hb⟩ := hrel
    have hk0 : (0 : Int) ≤ k := by omega
    by_cases hlt : k < ts.length
    · have hkI : (k : Int) < ts.length := by omega
      obtain ⟨t, ht⟩ : ∃ t, ts[k]? = some t := ⟨_, List.getElem?_eq_getElem hlt⟩
      obtain ⟨b0, o0, rfl, c0, c1, c2, hbl⟩ := (TS.below HT.out hb.out).at ht
      have BR : Hid (Below w.heap.size w (wr.alloc (.cells #[.int .i64 t.f, .int .u64 (t.v.toNat : Int), .int .u64 (t.m.toNat : Int)] 118))) := hb.out.alloc hb.out.size _
      clear hbl ht hb
      generalize t.f = tf at *
      generalize (t.v.toNat : Int) = tv at *
      generalize (t.m.toNat : Int) = tm at *
      go_wp2_with fail
      refine (rotate_any _ _ _).mono ?_
      rintro e W1 ⟨⟨y1, rfl⟩, hw1⟩
      rw [hw1]
      clear hw1
      go_wp2
      go_roundw
      case rel => exact ⟨k + 1, _, rfl, by omega, rfl, BR.out⟩
      case measure => simp [intOf]; omega
    · have hkI : ¬ (k : Int) < ts.length := by omega
      go_wp2
      go_ret
      exact ⟨⟨_, rfl⟩, hb.out⟩
/-- The key of terms: their values, eight bytes each. -/
def keyZ (ts : List Tm) : List Int := ts.flatMap fun t => Nm.be (t.v.toNat : Int) 8
theorem keyZ_len (ts : List Tm) : (keyZ ts).length = 8 * ts.length := by
  induction ts with
  | nil => rfl
  | cons t r ih =>
    have : keyZ (t :: r) = Nm.be (t.v.toNat : Int) 8 ++ keyZ r := by simp [keyZ]
    rw [this, List.length_append, ih, Nm.be_len, List.length_cons]; omega
theorem keyZ_snoc (ts : List Tm) (t : Tm) : keyZ (ts ++ [t]) = keyZ ts ++ Nm.be (t.v.toNat : Int) 8 := by simp [keyZ]
def keyS (ts : List Tm) : ByteArray := strOfNums (keyZ ts)
set_option maxHeartbeats 1000000 in
theorem appendValue_any (base : Nat) (W : World) (a : Option Addr) (n cap : Nat) (xs : List Int) (hown : W.ownsRow base 5 1 (.slice a n cap) n (xs.map (Value.int .u8))) (hbase : base ≤ W.heap.size) (hn : n ≤ 1000000) (v : Int) (hv : 0 ≤ v ∧ v ≤ 18446744073709551615) :
    Calls Tryz.prog 99 #[.slice a n cap, .int .u64 v] W fun e w' => ∃ a' cap', e = .returned (.slice a' (n + 8) cap') ∧ Nm.Row base W w' (.slice a n cap) (.slice a' (n + 8) cap') (n + 8) (xs ++ Nm.be v 8) := by
  have HA : Hid _ := Nm.appendNumber_any base W a n cap xs hown hbase hn v hv 8 (Nat.le_refl _)
  clear hown
  go_enter Tryz.func99, Tryz.ntmps99
  go_wp2_with fail
  refine Calls.mono HA.out ?_
  rintro e w' ⟨a', cap', rfl, hr⟩
  have HR : Hid _ := hr
  clear hr
  go_wp2
  go_ret
  exact ⟨_, _, rfl, HR.out⟩
theorem be_mem (v : Int) : ∀ s, ∀ x ∈ Nm.be v s, 0 ≤ x ∧ x ≤ 255
  | 0, x, h => by simp [Nm.be] at h
  | s + 1, x, h => by
    simp only [Nm.be, List.mem_cons] at h
    rcases h with rfl | h
    · omega
    · exact be_mem v s x h
theorem bd_of_mem {xs : List Int} (h : ∀ x ∈ xs, 0 ≤ x ∧ x ≤ 255) : ∀ i, 0 ≤ xs.getD i 0 ∧ xs.getD i 0 ≤ 255 := by
  intro i
  by_cases hi : i < xs.length
  · have := h _ (List.getElem_mem hi)
    simpa [List.getD_eq_getElem?_getD, List.getElem?_eq_getElem hi] using this
  · simp [List.getD_eq_getElem?_getD, List.getElem?_eq_none (Nat.le_of_not_lt hi)]
theorem keyZ_mem (ts : List Tm) : ∀ x ∈ keyZ ts, 0 ≤ x ∧ x ≤ 255 := by
  intro x hx
  simp only [keyZ, List.mem_flatMap] at hx
  obtain ⟨t, _, h⟩ := hx
  exact be_mem _ _ _ h
set_option maxRecDepth 20000 in
set_option maxHeartbeats 1000000 in
theorem valuesOf_any (v : Value) (ts : List Tm) (w : World) (h : TV w v ts) (hlen : ts.length ≤ 100) : Calls Tryz.prog 89 #[v] w fun e w' => e = .returned (.string (keyS ts)) ∧ Below w.heap.size w w' := by
  obtain ⟨a, n, c, rfl, hc, ht⟩ := h
  have HT : Hid _ := ht
  have hn : ts.length = n := ht.len
  subst hn
  clear ht
  go_enter Tryz.func89, Tryz.ntmps89
  go_wp2_with fail
  go_loopw [3, 8] (fun m i wr => ∃ (k : Nat) (q : Option Addr) (qc : Nat), i = .int .i64 k ∧ k ≤ ts.length ∧ m = .slice q (8 * k) qc ∧ Hid (wr.ownsRow w.heap.size 5 1 (.slice q (8 * k) qc) (8 * k) ((keyZ (ts.take k)).map (Value.int .u8))) ∧ Hid (Below w.heap.size w wr)) (fun _ i _ => ts.length - (intOf i).toNat)
  case atStart => exact ⟨0, none, 0, rfl, by omega, rfl, ⟨rfl, .inl ⟨rfl, rfl⟩⟩, Below.refl _ _⟩
  case round =>
    obtain ⟨k, q, qc, rfl, hk, rfl, ho, hb⟩ := hrel
    have hk0 : (0 : Int) ≤ k := by omega
    by_cases hlt : k < ts.length
    · have hkI : (k : Int) < ts.length := by omega
      obtain ⟨t, ht⟩ : ∃ t, ts[k]? = some t := ⟨_, List.getElem?_eq_getElem hlt⟩
      obtain ⟨b0, o0, rfl, c0, c1, c2, hbl⟩ := (TS.below HT.out hb.out).at ht
      have BR : Hid (Below w.heap.size w (wr.alloc (.cells #[.int .i64 t.f, .int .u64 (t.v.toNat : Int), .int .u64 (t.m.toNat : Int)] 118))) := hb.out.alloc hb.out.size _
      have HA : Hid _ := appendValue_any w.heap.size (wr.alloc (.cells #[.int .i64 t.f, .int .u64 (t.v.toNat : Int), .int .u64 (t.m.toNat : Int)] 118)) q (8 * k) qc (keyZ (ts.take k)) (ho.out.alloc _) BR.out.size (by omega) (t.v.toNat : Int) ⟨by omega, by have := t.v.isLt; omega⟩
      have KS : Hid (keyZ (ts.take k) ++ Nm.be (t.v.toNat : Int) 8 = keyZ (ts.take (k + 1))) := by
        show _ = _
        rw [← keyZ_snoc, List.take_succ_eq_append_getElem hlt, (List.getElem?_eq_some_iff.1 ht).2]
      rw [KS.out] at HA
      have ho9 := ho.out
      have HO9 : Hid _ := ho9
      clear hbl ht hb ho9
      generalize t.f = tf at *
      generalize (t.v.toNat : Int) = tv at *
      generalize (t.m.toNat : Int) = tm at *
      go_wp2_with fail
      refine Calls.mono HA.out ?_
      rintro e W1 ⟨a1, c1', rfl, hr⟩
      have HR : Hid (W1.ownsRow w.heap.size 5 1 (.slice a1 (8 * (k + 1)) c1') (8 * (k + 1)) ((keyZ (ts.take (k + 1))).map (Value.int .u8))) := hr.own
      have B1 : Hid (Below w.heap.size w W1) := BR.out.grown hr.grown BR.out.size (fun g hg => ((World.ownsRow.lt (World.ownsRow.alloc HO9.out (.cells #[.int .i64 tf, .int .u64 tv, .int .u64 tm] 118)) g hg)).1)
      clear hr
      go_wp2
      go_roundw
      case rel => exact ⟨k + 1, a1, c1', rfl, by omega, rfl, HR.out, B1.out⟩
      case measure => simp [intOf]; omega
    · have hkI : ¬ (k : Int) < ts.length := by omega
      obtain rfl : k = ts.length := by omega
      have ho1 := ho.out
      rw [List.take_length] at ho1
      have hcv := Nm.run_conv_bs qc (Nm.own_bs ho1 (bd_of_mem (keyZ_mem ts)) (by omega)) 126 9 5 Tryz.underlying126 Tryz.underlying5 Tryz.underlying9
      have hb1 := hb
      clear ho1
      go_wp2
      go_ret
      exact ⟨rfl, hb1.out⟩
end Go.Proofs.YtnahhmcmahbnkaaGreatDoor
