/- Tick of a table with one connection or none. Conditions: as said. -/
import Derived.Test.YtjjehncnjcepkaaCP
namespace Go.Proofs.Ytjjehncnjcepkaa
open Go.RowKit
/-- How many entries a queue has. -/
def qlen (tb : Nat) (W : World) : Nat := match W.cell? ⟨tb, 3, none⟩ with | some (.slice _ n _) => n | _ => 0
theorem Emp.slice {w : World} {B tb zb c : Nat} {room clock : Int} {q : Value} (h : Emp w B tb zb c room clock q) : ∃ a k, q = .slice a 0 k := own_slice h.q
theorem HasC.clock {w : World} {B tb zb c : Nat} {room clock z : Int} {o r : Tup} {nat : Bool} {ex : Int} {qg qc : Nat} {cur : Array Value} {eb g1 g2 : Nat} (h : HasC w B tb zb c room clock z o r nat ex qg qc cur eb g1 g2) (k : Int) : HasC (w.setCell ⟨tb, 1, none⟩ (.int .i64 k)) B tb zb c room k z o r nat ex qg qc cur eb g1 g2 := by
  have oth : ∀ g, g ≠ tb → (w.setCell ⟨tb, 1, none⟩ (.int .i64 k)).heap[g]? = w.heap[g]? := fun g hg => Below.heap_setCell _ _ _ _ hg
  refine ⟨h.bt, h.bz, h.be, h.b1, h.b2, h.bq, h.n12, (row_setCell h.t 1 _).trans rfl, (oth _ (ne_map h.t h.zm).symm).trans h.zm, (oth _ (ne_map h.t h.m1).symm).trans h.m1, (oth _ (ne_map h.t h.m2).symm).trans h.m2, (oth _ (ne_cells h.en h.t (by decide))).trans h.en, (oth _ (ne_cells h.q h.t (by decide))).trans h.q, h.qs, h.q1, h.q2, h.q0⟩
theorem Emp.clock {w : World} {B tb zb c : Nat} {room clock : Int} {q : Value} (h : Emp w B tb zb c room clock q) (k : Int) : Emp (w.setCell ⟨tb, 1, none⟩ (.int .i64 k)) B tb zb c room k q := by
  have oth : ∀ g, g ≠ tb → (w.setCell ⟨tb, 1, none⟩ (.int .i64 k)).heap[g]? = w.heap[g]? := fun g hg => Below.heap_setCell _ _ _ _ hg
  refine ⟨h.bt, h.bz, (row_setCell h.t 1 _).trans rfl, (oth _ (ne_map h.t h.zm).symm).trans h.zm, ?_⟩
  exact ownsRow_setCell_other h.q (own_apart h.q h.t (by decide)) _
set_option linter.unusedSimpArgs false in
set_option maxRecDepth 20000 in
set_option maxHeartbeats 2000000 in
theorem tick_emp {w : World} {B tb zb c : Nat} {room clock : Int} {q : Value} (h : Emp w B tb zb c room clock q) (n : Int) (h0 : 0 ≤ n) (h1 : n ≤ 2147483647) (hc : 0 ≤ clock) (hcn : clock + n ≤ 4611686018427387904) :
    Calls Try.prog 14 #[.pointer (some ⟨tb, 0, none⟩), .int .i64 n] w fun e w' => e = .returned (.int .i64 0) ∧ Emp w' B tb zb c room (clock + n) q ∧ Below B w w' := by
  obtain ⟨a, k, rfl⟩ := h.slice
  have H : Hid _ := h
  have HT : Hid _ := h.t
  have c1 : w.cell? ⟨tb, 1, none⟩ = some (.int .i64 clock) := cell_row h.t 1
  have f1 := frozen_of_row w _ 1 _ _ h.t
  have h9 := h.clock (clock + n)
  have c31 : (w.setCell ⟨tb, 1, none⟩ (.int .i64 (clock + n))).cell? ⟨tb, 3, none⟩ = some (.slice a 0 k) := cell_row h9.t 3
  have c32 : w.cell? ⟨tb, 3, none⟩ = some (.slice a 0 k) := cell_row h.t 3
  have H9 : Hid _ := h9
  have bt : B ≤ tb := h.bt
  have HBB : Hid (Below B w (w.setCell ⟨tb, 1, none⟩ (.int .i64 (clock + n)))) := (Below.refl B w).setCell bt _
  clear h h9
  go_enter Try.func14, Try.ntmps14
  go_wp2_with fail
  refine (isMade_any tb zb room clock _ _ HT.out).mono ?_
  rintro e W1 ⟨rfl, hw1⟩
  rw [hw1]
  clear hw1
  go_wp2_with fail
  generalize w.setCell ⟨tb, 1, none⟩ (.int .i64 (clock + n)) = V at *
  go_loopw [] (fun wr => wr = V) (fun _ => 0)
  case atStart => exact rfl
  case round =>
    subst hrel
    have hd : decide ((0 : Int) > 0) = false := by decide
    go_wp2_with fail
    go_quiet (fail)
    go_wp2
    go_ret
    exact ⟨rfl, H9.out.of (below_drewN (Below.refl _ _) _), below_drewN HBB.out _⟩
set_option linter.unusedSimpArgs false in
set_option maxRecDepth 20000 in
set_option maxHeartbeats 2000000 in
theorem tick_stay {w : World} {B tb zb c : Nat} {room clock z : Int} {o r : Tup} {nat : Bool} {ex : Int} {qg qc : Nat} {cur : Array Value} {eb g1 g2 : Nat} (h : HasC w B tb zb c room clock z o r nat ex qg qc cur eb g1 g2) (n : Int) (h0 : 0 ≤ n) (h1 : n ≤ 2147483647) (hc : 0 ≤ clock) (hcn : clock + n ≤ 4611686018427387904) (hex : clock + n < ex) :
    Calls Try.prog 14 #[.pointer (some ⟨tb, 0, none⟩), .int .i64 n] w fun e w' => e = .returned (.int .i64 0) ∧ HasC w' B tb zb c room (clock + n) z o r nat ex qg qc cur eb g1 g2 ∧ Below B w w' := by
  have H : Hid _ := h
  have HT : Hid _ := h.t
  have c1 : w.cell? ⟨tb, 1, none⟩ = some (.int .i64 clock) := cell_row h.t 1
  have f1 := frozen_of_row w _ 1 _ _ h.t
  have h9 := h.clock (clock + n)
  have c31 : (w.setCell ⟨tb, 1, none⟩ (.int .i64 (clock + n))).cell? ⟨tb, 3, none⟩ = some (.slice (some ⟨qg, 0, none⟩) 1 qc) := cell_row h9.t 3
  have c11 : (w.setCell ⟨tb, 1, none⟩ (.int .i64 (clock + n))).cell? ⟨tb, 1, none⟩ = some (.int .i64 (clock + n)) := cell_row h9.t 1
  have c12 : (w.setCell ⟨tb, 1, none⟩ (.int .i64 (clock + n))).cell? ⟨eb, 12, none⟩ = some (.int .i64 ex) := cell_row h9.en 12
  have C31 : Hid _ := c31
  have C11 : Hid _ := c11
  have C12 : Hid _ := c12
  have H9 : Hid _ := h9
  have bt : B ≤ tb := h.bt
  have HBB : Hid (Below B w (w.setCell ⟨tb, 1, none⟩ (.int .i64 (clock + n)))) := (Below.refl B w).setCell bt _
  clear h h9 c31 c11 c12
  go_enter Try.func14, Try.ntmps14
  go_wp2_with fail
  refine (isMade_any tb zb room clock _ _ HT.out).mono ?_
  rintro e W1 ⟨rfl, hw1⟩
  rw [hw1]
  clear hw1
  go_wp2_with fail
  generalize w.setCell ⟨tb, 1, none⟩ (.int .i64 (clock + n)) = V at *
  have c31 := C31.out
  have c11 := C11.out
  have c12 := C12.out
  go_loopw [] (fun wr => wr = V) (fun _ => 0)
  case atStart => exact rfl
  case round =>
    subst hrel
    have hd : decide (ex ≤ clock + n) = false := by simp; omega
    go_wp2_with fail
    go_quiet ((go_at_call 30; exact Calls.quiet_of_same (first_one (H9.out.below (below_drewN (Below.refl _ _) _)))))
    go_wp2
    go_ret
    exact ⟨rfl, H9.out.below (below_drewN (Below.refl _ _) _), below_drewN HBB.out _⟩
set_option linter.unusedSimpArgs false in
set_option maxRecDepth 20000 in
set_option maxHeartbeats 2000000 in
theorem tick_gone {w : World} {B tb zb c : Nat} {room clock z : Int} {o r : Tup} {nat : Bool} {ex : Int} {qg qc : Nat} {cur : Array Value} {eb g1 g2 : Nat} (h : HasC w B tb zb c room clock z o r nat ex qg qc cur eb g1 g2) (n : Int) (h0 : 0 ≤ n) (h1 : n ≤ 2147483647) (hc : 0 ≤ clock) (hcn : clock + n ≤ 4611686018427387904) (hex : ex ≤ clock + n) (hB : B ≤ w.heap.size) :
    Calls Try.prog 14 #[.pointer (some ⟨tb, 0, none⟩), .int .i64 n] w fun e w' => e = .returned (.int .i64 0) ∧ Emp w' B tb zb (c + 1) room (clock + n) (.slice (some ⟨qg, 0, none⟩) 0 qc) ∧ Below B w w' := by
  have H : Hid _ := h
  have HT : Hid _ := h.t
  have c1 : w.cell? ⟨tb, 1, none⟩ = some (.int .i64 clock) := cell_row h.t 1
  have f1 := frozen_of_row w _ 1 _ _ h.t
  have h9 := h.clock (clock + n)
  have C31 : Hid ((w.setCell ⟨tb, 1, none⟩ (.int .i64 (clock + n))).cell? ⟨tb, 3, none⟩ = some (.slice (some ⟨qg, 0, none⟩) 1 qc)) := cell_row h9.t 3
  have C11 : Hid ((w.setCell ⟨tb, 1, none⟩ (.int .i64 (clock + n))).cell? ⟨tb, 1, none⟩ = some (.int .i64 (clock + n))) := cell_row h9.t 1
  have C12 : Hid ((w.setCell ⟨tb, 1, none⟩ (.int .i64 (clock + n))).cell? ⟨eb, 12, none⟩ = some (.int .i64 ex)) := cell_row h9.en 12
  have hsz : B ≤ (w.setCell ⟨tb, 1, none⟩ (.int .i64 (clock + n))).heap.size := by simp [World.setCell]; omega
  have HSZ : Hid _ := hsz
  have H9 : Hid _ := h9
  have bt : B ≤ tb := h.bt
  have HBB : Hid (Below B w (w.setCell ⟨tb, 1, none⟩ (.int .i64 (clock + n)))) := (Below.refl B w).setCell bt _
  clear h h9 hsz
  go_enter Try.func14, Try.ntmps14
  go_wp2_with fail
  refine (isMade_any tb zb room clock _ _ HT.out).mono ?_
  rintro e W1 ⟨rfl, hw1⟩
  rw [hw1]
  clear hw1
  go_wp2_with fail
  generalize w.setCell ⟨tb, 1, none⟩ (.int .i64 (clock + n)) = V at *
  have EQ1 : Hid (qlen tb V = 1) := by show _ = _; unfold qlen; rw [C31.out]
  go_loopw [] (fun wr => wr = V ∨ (Emp wr B tb zb (c + 1) room (clock + n) (.slice (some ⟨qg, 0, none⟩) 0 qc) ∧ Below B w wr)) (fun wr => qlen tb wr)
  case atStart => exact .inl rfl
  case round =>
    rcases hrel with hrel | hrel
    · subst hrel
      have c31 := C31.out
      have c11 := C11.out
      have c12 := C12.out
      have hd : decide (ex ≤ clock + n) = true := by simp; omega
      go_wp2_with fail
      go_quiet ((go_at_call 30; exact Calls.quiet_of_same (first_one (H9.out.below (below_drewN (Below.refl _ _) _)))))
      rename_i nq
      have H8 : Hid _ := H9.out.below (below_drewN (Below.refl _ _) nq)
      have HB8 : Hid _ := below_drewN HBB.out nq
      have hs8 : B ≤ (World.drewN wr nq).heap.size := HSZ.out
      go_wp2_with fail
      refine (first_one H8.out).mono ?_
      rintro e W2 ⟨rfl, hw2⟩
      rw [hw2]
      clear hw2
      go_wp2_with fail
      refine (remove_one H8.out hs8).mono ?_
      rintro e W3 ⟨rfl, h3, hb3⟩
      have H3 : Hid _ := h3
      have HB3 : Hid _ := HB8.out.trans hb3
      clear h3 hb3
      go_wp2_with fail
      go_roundw
      case rel => exact .inr ⟨H3.out, HB3.out⟩
      case measure =>
        rw [EQ1.out]
        have c3 : W3.cell? ⟨tb, 3, none⟩ = some (.slice (some ⟨qg, 0, none⟩) 0 qc) := cell_row H3.out.t 3
        unfold qlen; rw [c3]; exact Nat.zero_lt_one
    · obtain ⟨h3, hb3⟩ := hrel
      have c31 : wr.cell? ⟨tb, 3, none⟩ = some (.slice (some ⟨qg, 0, none⟩) 0 qc) := cell_row h3.t 3
      have H3 : Hid _ := h3
      have HB3 : Hid _ := hb3
      clear h3 hb3
      have hd : decide ((0 : Int) > 0) = false := by decide
      go_wp2_with fail
      go_quiet (fail)
      go_wp2
      go_ret
      exact ⟨rfl, H3.out.of (below_drewN (Below.refl _ _) _), below_drewN HB3.out _⟩
end Go.Proofs.Ytjjehncnjcepkaa
