/- All of a table's zone, empty or not. Conditions: as said. -/
import Derived.Test.YtjjehncnjcepkaaFF
import Derived.Lib.Hide
namespace Go.Proofs.Ytjjehncnjcepkaa
open Go.RowKit
set_option linter.unusedSimpArgs false in
set_option maxRecDepth 20000 in
set_option maxHeartbeats 4000000 in
theorem emp_all {w : World} {B tb zb c : Nat} {room : Int} {q : Value} (h : Emp w B tb zb c room 0 q) (z : Int) :
    Calls Try.prog 7 #[.pointer (some ⟨tb, 0, none⟩), .int .i64 z] w fun x w' => x = .returned (.slice none 0 0) ∧ Below w.heap.size w w' := by
  have HM : Hid _ := isMade_any tb zb room 0 _ w h.t
  have c2 : w.cell? ⟨tb, 2, none⟩ = some (.map (some zb)) := cell_row h.t 2
  have hlk : (Instr.lookup 61 (.map (some zb)) (iv z) false).run Try.prog w = .ok (.agg #[.map none, .map none]) w := by
    have := look_any intK Try.underlying61 (.agg #[.map none, .map none]) zero_zone h.zm z
    simpa [findG] using this
  unfold iv at hlk
  have hfz := field_zone
  have hrg := run_range_nilMap (P := Try.prog) w 58 _ _ Try.underlying58
  have hnx : ∀ ty, (Instr.next (.pointer (some ⟨w.heap.size, 0, none⟩)) false ty).run Try.prog (w.alloc (.mapIter none 0 #[] 0)) = _ := fun ty => run_next_nilMap w ty 0 0 #[]
  have HS : Hid _ := sort_none (w.alloc (.mapIter none 0 #[] 0))
  have hb := below1 w (.mapIter none 0 #[] 0)
  have hlt := lt_of_heap h.t
  clear h
  go_enter Try.func7, Try.ntmps7
  go_wp2_with fail
  refine Calls.mono HM.out ?_
  rintro x W1 ⟨rfl, hW1⟩
  rw [hW1]
  clear hW1 HM
  go_wp2_with fail
  refine wp_loop_rounds 1 ?_
  rw [rounds_succ]
  go_wp2_with fail
  refine Calls.mono HS.out ?_
  rintro x W1 ⟨rfl, hW1⟩
  rw [hW1]
  clear hW1 HS
  go_wp2
  go_ret
  exact ⟨rfl, hb⟩
theorem tab_all {w : World} {B tb zb : Nat} {room z : Int} {E : List Nat} {O : Nat → Tup} (h : Tab w B tb zb room z E O) :
    Calls Try.prog 7 #[.pointer (some ⟨tb, 0, none⟩), .int .i64 z] w fun x w' => ∃ a c, x = .returned (.slice a E.length c) ∧ CR w' z a (srtT (E.map O)) ∧ Below w.heap.size w w' := by
  rcases h with ⟨rfl, c, q, e⟩ | ⟨_, q, g1, g2, zs, cz, e⟩
  · refine (emp_all e z).mono ?_
    rintro x w' ⟨rfl, hb⟩
    exact ⟨none, 0, rfl, .inl (List.length_eq_zero_iff.1 (by rw [srtT_len]; rfl)), hb⟩
  · exact tz_all e
set_option maxRecDepth 20000 in
theorem neq_conn (z : Int) (t : Tup) (W : World) : (binOp .neq 51 (.agg (connC z t (turn t) false 30)) (.agg (connC z t (turn t) false 30))).run Try.prog W = .ok (.bool false) W := by
  unfold connC
  simp [go_sem]
theorem guard_conn9 (x y : Operand) (A B : Array Value) (W : World) : (eqGuard .neq 51 x y (.agg A) (.agg B)).run Try.prog W = .ok () W := by kernel_rfl
theorem PL.rng2 {w w' : World} {b o : Nat} {L : List Value} (h : w.rangeAt b o L) (hlt : b < w.heap.size) (hb : Below w.heap.size w w') : w'.rangeAt b o L := fun j v hj => by
  have c := h j v hj
  unfold World.cell? at c ⊢
  rw [show w'.heap[(⟨b, o + j, none⟩ : Addr).block]? = w.heap[(⟨b, o + j, none⟩ : Addr).block]? from hb.block b hlt]
  exact c
theorem CR.of {w w' : World} {z : Int} {a : Option Addr} {L : List Tup} (h : CR w z a L) (hb : Below w.heap.size w w') : CR w' z a L := by
  rcases h with h | ⟨g, e, h1, h2⟩
  · exact .inl h
  · exact .inr ⟨g, e, by have := hb.size; omega, PL.rng2 h2 h1 hb⟩
/-- The connection at a place. -/
theorem CR.at {w : World} {z : Int} {a : Option Addr} {L : List Tup} (h : CR w z a L) {i : Nat} {t : Tup} (hi : L[i]? = some t) : ∃ g, a = some ⟨g, 0, none⟩ ∧ g < w.heap.size ∧ w.rangeAt g (i * 13) (connC z t (turn t) false 30).toList := by
  rcases h with rfl | ⟨g, e, h1, h2⟩
  · simp at hi
  · refine ⟨g, e, h1, fun j v hj => ?_⟩
    have hj13 : j < 13 := by
      have := (List.getElem?_eq_some_iff.1 hj).1
      simpa [connC] using this
    have := rowC_at z L i t hi j hj13
    have h3 := h2 (i * 13 + j) v (by rw [this]; exact hj)
    simpa using h3
end Go.Proofs.Ytjjehncnjcepkaa
