/- A queue of equals that grows; put of an entry that ends then already. Conditions: as said. -/
import Derived.Test.YtjjehncnjcepkaaEE
import Derived.Test.YtjjehncnjcepkaaCS
import Derived.Lib.Hide
namespace Go.Proofs.Ytjjehncnjcepkaa
open Go.RowKit
def ptrs (E : List Nat) : List Value := E.map fun e => .pointer (some ⟨e, 0, none⟩)
structure QS (w : World) (B tb zb : Nat) (room : Int) (q : Value) (E : List Nat) (z : Int) (O : Nat → Tup) : Prop where
  t : w.heap[tb]? = some (.cells (tabV room 0 zb q) 65 (0, 0))
  own : w.ownsRow B 66 1 q E.length (ptrs E)
  room : E.length ≤ 100000
  en : ∀ (i e : Nat), E[i]? = some e → w.heap[e]? = some (.cells (entC z (O e) (turn (O e)) false 30 i) 68 (0, 0))
theorem QS.qb {w : World} {B tb zb : Nat} {room : Int} {q : Value} {E : List Nat} {z : Int} {O : Nat → Tup} (h : QS w B tb zb room q E z O) (h0 : 0 < E.length) : ∃ qg qc Q, q = .slice (some ⟨qg, 0, none⟩) E.length qc ∧ B ≤ qg ∧ QB w tb zb qg qc room 0 Q E z O 30 := by
  obtain ⟨a, ⟨_, b⟩ | ⟨g, cap, cur, e1, e2, e3, e4, e5, e6, e7⟩⟩ := h.own
  · omega
  refine ⟨g, cap, cur, e1, e2, ⟨by rw [← e1]; exact h.t, e3, e4, h.room, fun i e hi => ?_, h.en⟩⟩
  have hl : i < E.length := (List.getElem?_eq_some_iff.1 hi).1
  have : (cur.toList.take (E.length * 1))[i]? = some (.pointer (some ⟨e, 0, none⟩)) := by rw [e7]; simp [ptrs, hi]
  rw [List.getElem?_take_of_lt (by omega)] at this
  simpa using this
theorem QS.of {w w' : World} {B tb zb : Nat} {room : Int} {q : Value} {E : List Nat} {z : Int} {O : Nat → Tup} (h : QS w B tb zb room q E z O) (hb : ∀ g, g < w.heap.size → w'.heap[g]? = w.heap[g]?) : QS w' B tb zb room q E z O := by
  refine ⟨(hb _ (lt_of_heap h.t)).trans h.t, ⟨h.own.1, ?_⟩, h.room, fun i e hi => (hb _ (lt_of_heap (h.en i e hi))).trans (h.en i e hi)⟩
  rcases h.own.2 with h' | ⟨g, cap, cur, e1, e2, e3, e4⟩
  · exact .inl h'
  · exact .inr ⟨g, cap, cur, e1, e2, (hb _ (lt_of_heap e3)).trans e3, e4⟩
theorem setCell_same {w : World} {b o : Nat} {A : Array Value} {t : TypeId} {v : Value} (h : w.heap[b]? = some (.cells A t (0, 0))) (hv : A[o]? = some v) : w.setCell ⟨b, o, none⟩ v = w := by
  have e : (w.setCell ⟨b, o, none⟩ v).heap = w.heap := by
    apply Array.ext_getElem?
    intro i
    by_cases hi : i = b
    · subst hi; rw [row_setCell h, h, set_self hv]
    · exact Below.heap_setCell _ _ _ _ hi
  have e2 : w.setCell ⟨b, o, none⟩ v = { w with heap := (w.setCell ⟨b, o, none⟩ v).heap } := rfl
  rw [e2, e]
set_option maxRecDepth 20000 in
set_option maxHeartbeats 1000000 in
theorem qput_eq {w : World} {tb zb qg qc : Nat} {room clock : Int} {Q : Array Value} {E : List Nat} {z : Int} {O : Nat → Tup} {ex : Int} (h : QB w tb zb qg qc room clock Q E z O ex) {e : Nat} (he : e ∈ E) :
    Calls Try.prog 22 #[.pointer (some ⟨tb, 3, none⟩), .pointer (some ⟨e, 0, none⟩), .int .i64 ex] w fun x w' => x = .returned (.tuple #[]) ∧ ∃ k, w' = w.drewN k := by
  obtain ⟨i, hi⟩ := mem_get.1 he
  have c12 : w.cell? ⟨e, 12, none⟩ = some (.int .i64 ex) := cell_row (h.en i e hi) 12
  have f12 := frozen_of_row w _ 12 _ _ (h.en i e hi)
  have c13 : w.cell? ⟨e, 13, none⟩ = some (.int .i64 i) := cell_row (h.en i e hi) 13
  have hs : w.setCell ⟨e, 12, none⟩ (.int .i64 ex) = w := setCell_same (h.en i e hi) rfl
  have HF : Hid _ := fix_eq h.at (i := i) (List.getElem?_eq_some_iff.1 hi).1
  clear h he hi
  go_enter Try.func22, Try.ntmps22
  go_wp2_with fail
  refine Calls.mono HF.out ?_
  rintro x W2 ⟨rfl, k, hw2⟩
  rw [hw2]
  clear hw2
  go_wp2
  go_end0
  exact ⟨rfl, k, rfl⟩
theorem own_drewN {w : World} {B : Nat} {e : TypeId} {v : Value} {n : Nat} {xs : List Value} (h : w.ownsRow B e 1 v n xs) (k : Nat) : (w.drewN k).ownsRow B e 1 v n xs := h
theorem below_drewN9 {w w' : World} {B : Nat} (h : Below B w w') (k : Nat) : Below B w (w'.drewN k) := ⟨h.os, h.tape, h.output, h.size, h.block⟩
/-- What an entry more leaves. -/
def Push9 (w w' : World) (B tb zb eb : Nat) (room : Int) (q : Value) (E : List Nat) (z : Int) (O : Nat → Tup) : Prop :=
  ∃ q', QS w' B tb zb room q' (E ++ [eb]) z O ∧ (∀ g, g < w.heap.size → g ≠ tb → g ≠ eb → some g ≠ q.ownBlock → w'.heap[g]? = w.heap[g]?) ∧ Below B w w'
theorem Push9.drewN {w w' : World} {B tb zb eb : Nat} {room : Int} {q : Value} {E : List Nat} {z : Int} {O : Nat → Tup} (h : Push9 w w' B tb zb eb room q E z O) (k : Nat) : Push9 w (w'.drewN k) B tb zb eb room q E z O := by
  obtain ⟨q', h1, h2, h3⟩ := h
  exact ⟨q', ⟨h1.t, h1.own, h1.room, h1.en⟩, h2, below_drewN9 h3 k⟩
set_option maxRecDepth 20000 in
set_option maxHeartbeats 1000000 in
theorem hPush_any {w : World} {B tb zb eb : Nat} {room : Int} {q : Value} {E : List Nat} {z : Int} {O : Nat → Tup} (h : QS w B tb zb room q E z O) (hn : E.length < 100000) (he : w.heap[eb]? = some (.cells (entC z (O eb) (turn (O eb)) false 30 0) 68 (0, 0))) (hne : eb ∉ E) (hB : B ≤ w.heap.size) (hBt : B ≤ tb) (hBe : B ≤ eb) :
    Calls Try.prog 70 #[.iface 95 (.pointer (some ⟨tb, 3, none⟩)), .iface 66 (.pointer (some ⟨eb, 0, none⟩))] w fun e w' => e = .returned (.tuple #[]) ∧ Push9 w w' B tb zb eb room q E z O := by
  have HP : Hid _ := qPush_any tb zb eb B E.length (by omega) room 0 q (ptrs E) z (O eb) (turn (O eb)) false 30 0 w h.t he h.own hB hBt hBe
  have H : Hid _ := h
  have HE : Hid _ := he
  have HNE : Hid _ := hne
  clear h he hne
  go_enter Try.func70, Try.ntmps70
  go_wp2_with fail
  refine Calls.mono HP.out ?_
  rintro e W1 ⟨rfl, qa, qc, t1, e1, o1, n1, b1⟩
  have hl : (E ++ [eb]).length = E.length + 1 := by simp
  have s1 : QS W1 B tb zb room (.slice qa (E.length + 1) qc) (E ++ [eb]) z O := by
    refine ⟨t1, ?_, by omega, ?_⟩
    · rw [hl]; simpa [ptrs] using o1
    · intro i x hi
      rcases Nat.lt_or_ge i E.length with hlt | hge
      · rw [List.getElem?_append_left hlt] at hi
        have hx := H.out.en i x hi
        refine (n1 x (lt_of_heap hx) (ne_cells hx H.out.t (by decide)) (fun q => HNE.out (q ▸ mem_get.2 ⟨i, hi⟩)) (fun q => own_apart H.out.own hx (by decide) q.symm)).trans hx
      · have hi' : i = E.length := by have := (List.getElem?_eq_some_iff.1 hi).1; omega
        subst hi'
        rw [List.getElem?_append_right (Nat.le_refl _)] at hi
        simp at hi
        subst hi
        exact e1
  obtain ⟨qg, qc', Q, hq, _, qb⟩ := s1.qb (by omega)
  have hq' : qa = some ⟨qg, 0, none⟩ ∧ qc = qc' := by rw [hl] at hq; cases hq; exact ⟨rfl, rfl⟩
  obtain ⟨rfl, rfl⟩ := hq'
  have c3 : W1.cell? ⟨tb, 3, none⟩ = some (.slice (some ⟨qg, 0, none⟩) (E.length + 1) qc) := cell_row t1 3
  have HU : Hid _ := up_eq qb.at (i := E.length) (by omega)
  have K1 : Hid (Push9 w W1 B tb zb eb room q E z O) := ⟨_, s1, n1, b1⟩
  clear t1 e1 o1 n1 b1 s1 qb hq
  have hm := meth_len c3
  have hwl : wrap64 (E.length : Int) = E.length := wrap64_small (by omega) (by omega)
  go_wp2_with fail
  refine (qLen_any _ (E.length + 1) qc _).mono ?_
  rintro e W2 ⟨rfl, hw2⟩
  rw [hw2]
  clear hw2 hm
  go_wp2_with fail
  refine Calls.mono HU.out ?_
  rintro e W3 ⟨rfl, k, hw3⟩
  rw [hw3]
  clear hw3
  go_wp2
  go_end0
  exact ⟨rfl, K1.out.drewN k⟩
set_option maxHeartbeats 400000 in
theorem qadd_any {w : World} {B tb zb eb : Nat} {room : Int} {q : Value} {E : List Nat} {z : Int} {O : Nat → Tup} (h : QS w B tb zb room q E z O) (hn : E.length < 100000) (he : w.heap[eb]? = some (.cells (entC z (O eb) (turn (O eb)) false 30 0) 68 (0, 0))) (hne : eb ∉ E) (hB : B ≤ w.heap.size) (hBt : B ≤ tb) (hBe : B ≤ eb) :
    Calls Try.prog 64 #[.pointer (some ⟨tb, 3, none⟩), .pointer (some ⟨eb, 0, none⟩)] w fun e w' => e = .returned (.tuple #[]) ∧ Push9 w w' B tb zb eb room q E z O := by
  have HP : Hid _ := hPush_any h hn he hne hB hBt hBe
  clear h he
  go_enter Try.func64, Try.ntmps64
  go_wp2_with fail
  refine Calls.mono HP.out ?_
  rintro e W1 ⟨rfl, k1⟩
  have K1 : Hid _ := k1
  clear k1
  go_wp2
  go_end0
  exact ⟨rfl, K1.out⟩
end Go.Proofs.Ytjjehncnjcepkaa
