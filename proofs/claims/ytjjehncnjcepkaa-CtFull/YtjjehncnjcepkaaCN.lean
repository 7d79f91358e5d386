/- A table with one connection: what stands in memory; heap.Fix of one entry. Conditions: as said. -/
import Derived.Test.YtjjehncnjcepkaaCL
namespace Go.Proofs.Ytjjehncnjcepkaa
open Go.RowKit
/-- What stands in memory where one connection is in a table. -/
structure HasC (w : World) (B tb zb c : Nat) (room clock z : Int) (o r : Tup) (nat : Bool) (ex : Int) (qg qc : Nat) (cur : Array Value) (eb g1 g2 : Nat) : Prop where
  bt : B ≤ tb
  bz : B ≤ zb
  be : B ≤ eb
  b1 : B ≤ g1
  b2 : B ≤ g2
  bq : B ≤ qg
  n12 : g1 ≠ g2
  t : w.heap[tb]? = some (.cells (tabV room clock zb (.slice (some ⟨qg, 0, none⟩) 1 qc)) 65 (0, 0))
  zm : w.heap[zb]? = some (.map (entG iv [(z, .agg #[.map (some g1), .map (some g2)], c)]).toArray (c + 1))
  m1 : w.heap[g1]? = some (.map (entG tv [(o, .pointer (some ⟨eb, 0, none⟩), 0)]).toArray 1)
  m2 : w.heap[g2]? = some (.map (entG tv [(r, .pointer (some ⟨eb, 0, none⟩), 0)]).toArray 1)
  en : w.heap[eb]? = some (.cells (entC z o r nat ex 0) 68 (0, 0))
  q : w.heap[qg]? = some (.cells cur 66 (0, 0))
  qs : cur.size = qc
  q1 : 1 ≤ qc
  q2 : qc ≤ maxLen
  q0 : cur[0]? = some (.pointer (some ⟨eb, 0, none⟩))
/-- A table without connections. -/
structure Emp (w : World) (B tb zb c : Nat) (room clock : Int) (q : Value) : Prop where
  bt : B ≤ tb
  bz : B ≤ zb
  t : w.heap[tb]? = some (.cells (tabV room clock zb q) 65 (0, 0))
  zm : w.heap[zb]? = some (.map (entG iv []).toArray c)
  q : w.ownsRow B 66 1 q 0 []
theorem One.has {w w' : World} {B tb zb c : Nat} {room clock z : Int} {o r : Tup} {nat : Bool} {ex : Int} (h : One w w' B tb zb c room clock [] z o r nat ex) (hB : B ≤ w.heap.size) (hBt : B ≤ tb) (hBz : B ≤ zb) : ∃ qg qc cur eb g1 g2, HasC w' B tb zb c room clock z o r nat ex qg qc cur eb g1 g2 := by
  obtain ⟨qa, qc, eb, g1, g2, a1, a2, a3, a4, a5, a6, a7, a8, a9, a10, a11⟩ := h
  rcases a10.2 with ⟨e, e'⟩ | ⟨g, cap, cur, e1, e2, e3, e4, e5, e6, e7⟩
  · cases e
  · obtain ⟨rfl, rfl⟩ : qa = some ⟨g, 0, none⟩ ∧ qc = cap := by
      injection e1 with h1 h2 h3
      exact ⟨h1, h3⟩
    refine ⟨g, qc, cur, eb, g1, g2, hBt, hBz, by omega, by omega, by omega, e2, a4, a5, a6, a7, a8, a9, e3, by simpa using e6, e4, e5, ?_⟩
    have h9 := congrArg (fun l => l[0]?) e7
    simp only [Nat.mul_one] at h9
    rw [List.getElem?_take_of_lt (by decide)] at h9
    simpa using h9
theorem HasC.of {w w' : World} {B tb zb c : Nat} {room clock z : Int} {o r : Tup} {nat : Bool} {ex : Int} {qg qc : Nat} {cur : Array Value} {eb g1 g2 : Nat} (h : HasC w B tb zb c room clock z o r nat ex qg qc cur eb g1 g2) (ho : ∀ g, g < w.heap.size → w'.heap[g]? = w.heap[g]?) : HasC w' B tb zb c room clock z o r nat ex qg qc cur eb g1 g2 :=
  ⟨h.bt, h.bz, h.be, h.b1, h.b2, h.bq, h.n12, (ho _ (lt_of_heap h.t)).trans h.t, (ho _ (lt_of_heap h.zm)).trans h.zm, (ho _ (lt_of_heap h.m1)).trans h.m1, (ho _ (lt_of_heap h.m2)).trans h.m2, (ho _ (lt_of_heap h.en)).trans h.en, (ho _ (lt_of_heap h.q)).trans h.q, h.qs, h.q1, h.q2, h.q0⟩
theorem HasC.below {w w' : World} {B tb zb c : Nat} {room clock z : Int} {o r : Tup} {nat : Bool} {ex : Int} {qg qc : Nat} {cur : Array Value} {eb g1 g2 : Nat} (h : HasC w B tb zb c room clock z o r nat ex qg qc cur eb g1 g2) (hb : Below w.heap.size w w') : HasC w' B tb zb c room clock z o r nat ex qg qc cur eb g1 g2 := h.of hb.block
theorem Emp.of {w w' : World} {B tb zb c : Nat} {room clock : Int} {q : Value} (h : Emp w B tb zb c room clock q) (hb : Below w.heap.size w w') : Emp w' B tb zb c room clock q :=
  ⟨h.bt, h.bz, (hb.block _ (lt_of_heap h.t)).trans h.t, (hb.block _ (lt_of_heap h.zm)).trans h.zm, own_below h.q hb⟩
theorem ne_cells {w : World} {a b : Nat} {A C : Array Value} {s t : TypeId} (ha : w.heap[a]? = some (.cells A s (0, 0))) (hb : w.heap[b]? = some (.cells C t (0, 0))) (hn : s ≠ t) : a ≠ b := fun e => by
  subst e; rw [ha] at hb; injection hb with h1; injection h1 with _ h2; exact hn h2
theorem ne_map {w : World} {a b : Nat} {A : Array Value} {s : TypeId} {M : Array MapEntry} {k : Nat} (ha : w.heap[a]? = some (.cells A s (0, 0))) (hb : w.heap[b]? = some (.map M k)) : a ≠ b := fun e => by
  subst e; rw [ha] at hb; cases hb
theorem ne_zone {w : World} {a b : Nat} {z : Int} {o : Tup} {x y : Value} {i j k l : Nat} (ha : w.heap[a]? = some (.map (entG iv [(z, x, i)]).toArray j)) (hb : w.heap[b]? = some (.map (entG tv [(o, y, k)]).toArray l)) : a ≠ b := fun e => by
  subst e; rw [ha] at hb; simp [entG, iv, tv] at hb
/-- Another end of a connection. -/
theorem HasC.end {w : World} {B tb zb c : Nat} {room clock z : Int} {o r : Tup} {nat : Bool} {ex : Int} {qg qc : Nat} {cur : Array Value} {eb g1 g2 : Nat} (h : HasC w B tb zb c room clock z o r nat ex qg qc cur eb g1 g2) (ex' : Int) : HasC (w.setCell ⟨eb, 12, none⟩ (.int .i64 ex')) B tb zb c room clock z o r nat ex' qg qc cur eb g1 g2 := by
  have oth : ∀ g, g ≠ eb → (w.setCell ⟨eb, 12, none⟩ (.int .i64 ex')).heap[g]? = w.heap[g]? := fun g hg => Below.heap_setCell _ _ _ _ hg
  refine ⟨h.bt, h.bz, h.be, h.b1, h.b2, h.bq, h.n12, (oth _ (ne_cells h.t h.en (by decide))).trans h.t, (oth _ (ne_map h.en h.zm).symm).trans h.zm, (oth _ (ne_map h.en h.m1).symm).trans h.m1, (oth _ (ne_map h.en h.m2).symm).trans h.m2, ?_, (oth _ (ne_cells h.q h.en (by decide))).trans h.q, h.qs, h.q1, h.q2, h.q0⟩
  exact (row_setCell h.en 12 _).trans rfl
set_option maxRecDepth 20000 in
set_option maxHeartbeats 1000000 in
theorem down_one (x : Value) (n : Int) (hn : n = 1 ∨ n = 0) (w : World) : Calls Try.prog 60 #[x, .int .i64 0, .int .i64 n] w fun e w' => e = .returned (.bool false) ∧ w' = w := by
  rcases hn with rfl | rfl
  all_goals
    go_enter Try.func60, Try.ntmps60
    go_wp2_with fail
    go_loopw [7] (fun i wr => i = .int .i64 0 ∧ wr = w) (fun _ _ => 0)
    case atStart => exact ⟨rfl, rfl⟩
    case round =>
      obtain ⟨rfl, rfl⟩ := hrel
      go_wp2
      go_ret
      exact ⟨rfl, rfl⟩
set_option maxRecDepth 20000 in
set_option maxHeartbeats 1000000 in
theorem fix_one (tb : Nat) (qa : Option Addr) (qc : Nat) (w : World) (c3 : w.cell? ⟨tb, 3, none⟩ = some (.slice qa 1 qc)) :
    Calls Try.prog 40 #[.iface 95 (.pointer (some ⟨tb, 3, none⟩)), .int .i64 0] w fun e w' => e = .returned (.tuple #[]) ∧ w' = w := by
  have hm := meth_len c3
  go_enter Try.func40, Try.ntmps40
  go_wp2_with fail
  refine (qLen_any qa 1 qc _).mono ?_
  rintro e W2 ⟨rfl, hw2⟩
  rw [hw2]
  clear hw2 hm
  go_wp2_with fail
  refine (down_one _ 1 (.inl rfl) _).mono ?_
  rintro e W3 ⟨rfl, hw3⟩
  rw [hw3]
  clear hw3
  go_wp2_with fail
  refine (up_zero _ _).mono ?_
  rintro e W3 ⟨rfl, hw3⟩
  rw [hw3]
  clear hw3
  go_wp2
  go_end0
  exact ⟨rfl, rfl⟩
set_option maxRecDepth 20000 in
set_option maxHeartbeats 1000000 in
theorem qput_one (ex' : Int) {w : World} {B tb zb c : Nat} {room clock z : Int} {o r : Tup} {nat : Bool} {ex : Int} {qg qc : Nat} {cur : Array Value} {eb g1 g2 : Nat} (h : HasC w B tb zb c room clock z o r nat ex qg qc cur eb g1 g2) :
    Calls Try.prog 22 #[.pointer (some ⟨tb, 3, none⟩), .pointer (some ⟨eb, 0, none⟩), .int .i64 ex'] w fun e w' => e = .returned (.tuple #[]) ∧ w' = w.setCell ⟨eb, 12, none⟩ (.int .i64 ex') := by
  have c12 : w.cell? ⟨eb, 12, none⟩ = some (.int .i64 ex) := cell_row h.en 12
  have f12 := frozen_of_row w _ 12 _ _ h.en
  have h' := h.end ex'
  have c13 : (w.setCell ⟨eb, 12, none⟩ (.int .i64 ex')).cell? ⟨eb, 13, none⟩ = some (.int .i64 0) := cell_row h'.en 13
  have c3 : (w.setCell ⟨eb, 12, none⟩ (.int .i64 ex')).cell? ⟨tb, 3, none⟩ = some (.slice (some ⟨qg, 0, none⟩) 1 qc) := cell_row h'.t 3
  have C3 : Hid _ := c3
  have c13' : w.cell? ⟨eb, 13, none⟩ = some (.int .i64 0) := cell_row h.en 13
  clear h h' c3 c13
  go_enter Try.func22, Try.ntmps22
  go_wp2_with fail
  refine (fix_one tb _ _ _ C3.out).mono ?_
  rintro e W2 ⟨rfl, hw2⟩
  rw [hw2]
  clear hw2
  go_wp2
  go_end0
  exact ⟨rfl, rfl⟩
end Go.Proofs.Ytjjehncnjcepkaa
