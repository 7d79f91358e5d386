/- A queue of connections that end at one time: Swap, Pop, Remove. Conditions: as said. -/
import Derived.Test.YtjjehncnjcepkaaEA
import Derived.Lib.Hide
namespace Go.Proofs.Ytjjehncnjcepkaa
open Go.RowKit
structure QB (w : World) (tb zb qg qc : Nat) (room clock : Int) (Q : Array Value) (E : List Nat) (z : Int) (O : Nat → Tup) (ex : Int) : Prop where
  t : w.heap[tb]? = some (.cells (tabV room clock zb (.slice (some ⟨qg, 0, none⟩) E.length qc)) 65 (0, 0))
  q : w.heap[qg]? = some (.cells Q 66 (0, 0))
  cap : E.length ≤ qc
  room : E.length ≤ 100000
  row : ∀ (i e : Nat), E[i]? = some e → Q[i]? = some (.pointer (some ⟨e, 0, none⟩))
  en : ∀ (i e : Nat), E[i]? = some e → w.heap[e]? = some (.cells (entC z (O e) (turn (O e)) false ex i) 68 (0, 0))
theorem QB.at {w : World} {tb zb qg qc : Nat} {room clock : Int} {Q : Array Value} {E : List Nat} {z : Int} {O : Nat → Tup} {ex : Int} (h : QB w tb zb qg qc room clock Q E z O ex) : QAt w tb qg qc E ex :=
  ⟨cell_row h.t 3, h.cap, h.room, fun i e he => (cell_row h.q i).trans (h.row i e he), fun i e he => cell_row (h.en i e he) 12⟩
theorem QB.drewN {w : World} {tb zb qg qc : Nat} {room clock : Int} {Q : Array Value} {E : List Nat} {z : Int} {O : Nat → Tup} {ex : Int} (h : QB w tb zb qg qc room clock Q E z O ex) (k : Nat) : QB (w.drewN k) tb zb qg qc room clock Q E z O ex := ⟨h.t, h.q, h.cap, h.room, h.row, h.en⟩
theorem QB.inj {w : World} {tb zb qg qc : Nat} {room clock : Int} {Q : Array Value} {E : List Nat} {z : Int} {O : Nat → Tup} {ex : Int} (h : QB w tb zb qg qc room clock Q E z O ex) {i j e : Nat} (hi : E[i]? = some e) (hj : E[j]? = some e) : i = j := by
  have a := cell_row (h.en i e hi) 13
  rw [cell_row (h.en j e hj) 13] at a
  have b : some (Value.int .i64 (j : Int)) = some (Value.int .i64 (i : Int)) := a
  simp at b; omega
set_option maxRecDepth 20000 in
set_option maxHeartbeats 2000000 in
theorem swap_eq {w : World} {tb zb qg qc : Nat} {room clock : Int} {Q : Array Value} {E : List Nat} {z : Int} {O : Nat → Tup} {ex : Int} (h : QB w tb zb qg qc room clock Q E z O ex) {i j e1 e2 : Nat} (h1 : E[i]? = some e1) (h2 : E[j]? = some e2) (hij : i ≠ j) :
    Calls Try.prog 91 #[.slice (some ⟨qg, 0, none⟩) E.length qc, .int .i64 i, .int .i64 j] w fun e w' => e = .returned (.tuple #[]) ∧ ∃ k, w' = ((((w.setCell ⟨qg, i, none⟩ (.pointer (some ⟨e2, 0, none⟩))).setCell ⟨qg, j, none⟩ (.pointer (some ⟨e1, 0, none⟩))).setCell ⟨e2, 13, none⟩ (.int .i64 i)).setCell ⟨e1, 13, none⟩ (.int .i64 j)).drewN k := by
  have q1 : w.cell? ⟨qg, i, none⟩ = some (.pointer (some ⟨e1, 0, none⟩)) := (cell_row h.q i).trans (h.row i e1 h1)
  have q2 : w.cell? ⟨qg, j, none⟩ = some (.pointer (some ⟨e2, 0, none⟩)) := (cell_row h.q j).trans (h.row j e2 h2)
  have c1 : w.cell? ⟨e1, 13, none⟩ = some (.int .i64 i) := cell_row (h.en i e1 h1) 13
  have c2 : w.cell? ⟨e2, 13, none⟩ = some (.int .i64 j) := cell_row (h.en j e2 h2) 13
  have fq1 := frozen_of_row w _ i _ _ h.q
  have fq2 := frozen_of_row w _ j _ _ h.q
  have f1 := frozen_of_row w _ 13 _ _ (h.en i e1 h1)
  have f2 := frozen_of_row w _ 13 _ _ (h.en j e2 h2)
  have n1 : qg ≠ e1 := ne_cells h.q (h.en i e1 h1) (by decide)
  have n2 : qg ≠ e2 := ne_cells h.q (h.en j e2 h2) (by decide)
  have n3 : e1 ≠ e2 := fun e => by subst e; exact hij (h.inj h1 h2)
  have n1' := n1.symm
  have n2' := n2.symm
  have n3' := n3.symm
  have hij' := hij.symm
  have hi : i < E.length := (List.getElem?_eq_some_iff.1 h1).1
  have hj : j < E.length := (List.getElem?_eq_some_iff.1 h2).1
  have hiI : (i : Int) < E.length := by omega
  have hjI : (j : Int) < E.length := by omega
  have hi0 : (0 : Int) ≤ i := by omega
  have hj0 : (0 : Int) ≤ j := by omega
  clear h h1 h2
  go_enter Try.func91, Try.ntmps91
  go_wp2_with fail
  go_big_region
  go_wp2_with fail
  go_big_region
  go_wp2
  go_end0
  exact ⟨rfl, 2, rfl⟩
def swapW (w : World) (qg i j e1 e2 : Nat) : World := (((w.setCell ⟨qg, i, none⟩ (.pointer (some ⟨e2, 0, none⟩))).setCell ⟨qg, j, none⟩ (.pointer (some ⟨e1, 0, none⟩))).setCell ⟨e2, 13, none⟩ (.int .i64 i)).setCell ⟨e1, 13, none⟩ (.int .i64 j)
theorem wrap64_small {z : Int} (h0 : 0 ≤ z) (h1 : z < 9223372036854775808) : wrap64 z = z := by unfold wrap64; omega
theorem QB.swapped {w : World} {tb zb qg qc : Nat} {room clock : Int} {Q : Array Value} {E : List Nat} {z : Int} {O : Nat → Tup} {ex : Int} (h : QB w tb zb qg qc room clock Q E z O ex) {i j e1 e2 : Nat} (h1 : E[i]? = some e1) (h2 : E[j]? = some e2) (hij : i ≠ j) :
    QB (swapW w qg i j e1 e2) tb zb qg qc room clock ((Q.setIfInBounds i (.pointer (some ⟨e2, 0, none⟩))).setIfInBounds j (.pointer (some ⟨e1, 0, none⟩))) ((E.set i e2).set j e1) z O ex := by
  have m1 := h.en i e1 h1
  have m2 := h.en j e2 h2
  have n1 : qg ≠ e1 := ne_cells h.q m1 (by decide)
  have n2 : qg ≠ e2 := ne_cells h.q m2 (by decide)
  have n3 : e1 ≠ e2 := fun e => by subst e; exact hij (h.inj h1 h2)
  have t1 : tb ≠ e1 := ne_cells h.t m1 (by decide)
  have t2 : tb ≠ e2 := ne_cells h.t m2 (by decide)
  have t3 : tb ≠ qg := ne_cells h.t h.q (by decide)
  have hi : i < E.length := (List.getElem?_eq_some_iff.1 h1).1
  have hj : j < E.length := (List.getElem?_eq_some_iff.1 h2).1
  have len : ((E.set i e2).set j e1).length = E.length := by simp
  have far : ∀ g, g ≠ qg → g ≠ e1 → g ≠ e2 → (swapW w qg i j e1 e2).heap[g]? = w.heap[g]? := fun g a b c =>
    (Below.heap_setCell _ _ _ _ b).trans ((Below.heap_setCell _ _ _ _ c).trans ((Below.heap_setCell _ _ _ _ a).trans (Below.heap_setCell _ _ _ _ a)))
  have qi : Q[i]? = _ := h.row i e1 h1
  have qj : Q[j]? = _ := h.row j e2 h2
  have si : i < Q.size := (Array.getElem?_eq_some_iff.1 qi).1
  have sj : j < Q.size := (Array.getElem?_eq_some_iff.1 qj).1
  refine ⟨by rw [len]; exact (far tb t3 t1 t2).trans h.t, ?_, by rw [len]; exact h.cap, by rw [len]; exact h.room, ?_, ?_⟩
  · exact (Below.heap_setCell _ _ _ _ n1).trans ((Below.heap_setCell _ _ _ _ n2).trans (row_setCell (row_setCell h.q i _) j _))
  · intro k e hk
    by_cases kj : k = j
    · subst kj
      rw [List.getElem?_set_self (by simpa using hj)] at hk
      cases hk
      rw [Array.getElem?_setIfInBounds_self_of_lt (by simpa using sj)]
    · rw [List.getElem?_set_ne (Ne.symm kj)] at hk
      rw [Array.getElem?_setIfInBounds_ne (Ne.symm kj)]
      by_cases ki : k = i
      · subst ki
        rw [List.getElem?_set_self hi] at hk
        cases hk
        rw [Array.getElem?_setIfInBounds_self_of_lt si]
      · rw [List.getElem?_set_ne (Ne.symm ki)] at hk
        rw [Array.getElem?_setIfInBounds_ne (Ne.symm ki)]
        exact h.row k e hk
  · intro k e hk
    by_cases kj : k = j
    · subst kj
      rw [List.getElem?_set_self (by simpa using hj)] at hk
      cases hk
      exact row_setCell ((Below.heap_setCell _ _ _ _ n3).trans ((Below.heap_setCell _ _ _ _ n1.symm).trans ((Below.heap_setCell _ _ _ _ n1.symm).trans m1))) 13 _
    · rw [List.getElem?_set_ne (Ne.symm kj)] at hk
      by_cases ki : k = i
      · subst ki
        rw [List.getElem?_set_self hi] at hk
        cases hk
        exact (Below.heap_setCell _ _ _ _ n3.symm).trans (row_setCell ((Below.heap_setCell _ _ _ _ n2.symm).trans ((Below.heap_setCell _ _ _ _ n2.symm).trans m2)) 13 _)
      · rw [List.getElem?_set_ne (Ne.symm ki)] at hk
        exact (far e (ne_cells h.q (h.en k e hk) (by decide)).symm (fun q => by subst q; exact ki (h.inj hk h1)) (fun q => by subst q; exact kj (h.inj hk h2))).trans (h.en k e hk)
def popW (w : World) (tb qg qc n : Nat) : World := (w.setCell ⟨qg, n, none⟩ (.pointer none)).setCell ⟨tb, 3, none⟩ (.slice (some ⟨qg, 0, none⟩) n qc)
theorem QB.popped {w : World} {tb zb qg qc : Nat} {room clock : Int} {Q : Array Value} {E : List Nat} {z : Int} {O : Nat → Tup} {ex : Int} (h : QB w tb zb qg qc room clock Q E z O ex) {n : Nat} (hn : E.length = n + 1) :
    QB (popW w tb qg qc n) tb zb qg qc room clock (Q.setIfInBounds n (.pointer none)) (E.take n) z O ex := by
  have t3 : tb ≠ qg := ne_cells h.t h.q (by decide)
  have len : (E.take n).length = n := by rw [List.length_take]; omega
  have tk : ∀ {k e : Nat}, (E.take n)[k]? = some e → k < n ∧ E[k]? = some e := fun {k e} hk => by
    have : k < (E.take n).length := (List.getElem?_eq_some_iff.1 hk).1
    rw [len] at this
    exact ⟨this, by rwa [List.getElem?_take_of_lt this] at hk⟩
  have hc := h.cap
  have hr := h.room
  refine ⟨by rw [len]; exact row_setCell ((Below.heap_setCell _ _ _ _ t3).trans h.t) 3 _, (Below.heap_setCell _ _ _ _ t3.symm).trans (row_setCell h.q n _), by omega, by omega, ?_, ?_⟩
  · intro k e hk
    obtain ⟨a, b⟩ := tk hk
    rw [Array.getElem?_setIfInBounds_ne (by omega)]
    exact h.row k e b
  · intro k e hk
    obtain ⟨a, b⟩ := tk hk
    have m := h.en k e b
    exact (Below.heap_setCell _ _ _ _ (ne_cells h.t m (by decide)).symm).trans ((Below.heap_setCell _ _ _ _ (ne_cells h.q m (by decide)).symm).trans m)
set_option maxRecDepth 20000 in
set_option maxHeartbeats 1000000 in
theorem qPop_eq {w : World} {tb zb qg qc : Nat} {room clock : Int} {Q : Array Value} {E : List Nat} {z : Int} {O : Nat → Tup} {ex : Int} (h : QB w tb zb qg qc room clock Q E z O ex) {n e : Nat} (hn : E.length = n + 1) (he : E[n]? = some e) :
    Calls Try.prog 92 #[.pointer (some ⟨tb, 3, none⟩)] w fun x w' => x = .returned (.iface 66 (.pointer (some ⟨e, 0, none⟩))) ∧ w' = popW w tb qg qc n := by
  have c3 : w.cell? ⟨tb, 3, none⟩ = some (.slice (some ⟨qg, 0, none⟩) E.length qc) := cell_row h.t 3
  rw [hn] at c3
  have f3 := frozen_of_row w _ 3 _ _ h.t
  have cq : w.cell? ⟨qg, n, none⟩ = some (.pointer (some ⟨e, 0, none⟩)) := (cell_row h.q n).trans (h.row n e he)
  have fq := frozen_of_row w _ n _ _ h.q
  have htq : tb ≠ qg := ne_cells h.t h.q (by decide)
  have hqt : qg ≠ tb := htq.symm
  have hq1 := h.cap
  have hq2 := h.room
  have hw1 : wrap64 (n : Int) = (n : Int) := wrap64_small (by omega) (by omega)
  have hn0 : (0 : Int) ≤ n := by omega
  have hn1 : (n : Int) < (n : Int) + 1 := by omega
  have hn2 : (n : Int) ≤ qc := by omega
  have hn3 : n ≤ qc := by omega
  have hn4 : ¬ (qc : Int) < n := by omega
  clear h he hn
  go_enter Try.func92, Try.ntmps92
  go_wp2
  go_ret
  exact ⟨rfl, rfl⟩
end Go.Proofs.Ytjjehncnjcepkaa
