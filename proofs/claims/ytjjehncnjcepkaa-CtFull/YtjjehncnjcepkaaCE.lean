/- A table of connections in memory; whether it was made; which zones may be asked; finding in a zone. Conditions: as said. -/
import Derived.Test.YtjjehncnjcepkaaCD
namespace Go.Proofs.Ytjjehncnjcepkaa
open Go.RowKit
/-- A table's own cells. -/
def tabV (room clock : Int) (zb : Nat) (q : Value) : Array Value := #[.int .i64 room, .int .i64 clock, .map (some zb), q]
theorem neq_zmap (r : Nat) (W : World) : (binOp .neq 61 (.map (some r)) (.map none)).run Try.prog W = .ok (.bool true) W := by
  first | kernel_rfl | simp [binOp, go_sem]
theorem neq_pent (a : Addr) (W : World) : (binOp .neq 66 (.pointer (some a)) (.pointer none)).run Try.prog W = .ok (.bool true) W := by
  first | kernel_rfl | simp [binOp, go_sem]
set_option maxHeartbeats 400000 in
theorem isMade_any (tb zb : Nat) (room clock : Int) (q : Value) (w : World) (h : w.heap[tb]? = some (.cells (tabV room clock zb q) 65 (0, 0))) :
    Calls Try.prog 15 #[.pointer (some ⟨tb, 0, none⟩)] w fun e w' => e = .returned (.bool true) ∧ w' = w := by
  have c2 : w.cell? ⟨tb, 2, none⟩ = some (.map (some zb)) := cell_row h 2
  have hne := neq_zmap zb
  clear h
  go_enter Try.func15, Try.ntmps15
  go_wp2
  go_ret
  exact ⟨rfl, rfl⟩
set_option maxHeartbeats 400000 in
theorem isMade_nil (w : World) : Calls Try.prog 15 #[.pointer none] w fun e w' => e = .returned (.bool false) ∧ w' = w := by
  go_enter Try.func15, Try.ntmps15
  go_wp2
  go_ret
  exact ⟨rfl, rfl⟩
def zoneE (z : Int) : Int := if z < 0 then 1 else if 65535 < z then 1 else 0
set_option maxHeartbeats 400000 in
theorem check_any (tb zb : Nat) (room clock z : Int) (q : Value) (w : World) (h : w.heap[tb]? = some (.cells (tabV room clock zb q) 65 (0, 0))) :
    Calls Try.prog 19 #[.pointer (some ⟨tb, 0, none⟩), .int .i64 z] w fun e w' => e = .returned (.int .i64 (zoneE z)) ∧ w' = w := by
  have H : Hid _ := h
  clear h
  by_cases h1 : z < 0
  · have HE : Hid (zoneE z = 1) := by show _ = _; unfold zoneE; rw [if_pos h1]
    go_enter Try.func19, Try.ntmps19
    go_wp2_with fail
    refine (isMade_any tb zb room clock q _ H.out).mono ?_
    rintro e W1 ⟨rfl, rfl⟩
    go_wp2
    go_ret
    exact ⟨by rw [HE.out]; rfl, rfl⟩
  · have h1' : 0 ≤ z := by omega
    by_cases h2 : 65535 < z
    · have HE : Hid (zoneE z = 1) := by show _ = _; unfold zoneE; rw [if_neg h1, if_pos h2]
      clear h1
      go_enter Try.func19, Try.ntmps19
      go_wp2_with fail
      refine (isMade_any tb zb room clock q _ H.out).mono ?_
      rintro e W1 ⟨rfl, rfl⟩
      go_wp2
      go_ret
      exact ⟨by rw [HE.out]; rfl, rfl⟩
    · have h2' : z ≤ 65535 := by omega
      have HE : Hid (zoneE z = 0) := by show _ = _; unfold zoneE; rw [if_neg h1, if_neg h2]
      clear h1 h2
      go_enter Try.func19, Try.ntmps19
      go_wp2_with fail
      refine (isMade_any tb zb room clock q _ H.out).mono ?_
      rintro e W1 ⟨rfl, rfl⟩
      go_wp2
      go_ret
      exact ⟨by rw [HE.out]; rfl, rfl⟩
set_option maxHeartbeats 400000 in
theorem check_nil (z : Int) (w : World) : Calls Try.prog 19 #[.pointer none, .int .i64 z] w fun e w' => e = .returned (.int .i64 6) ∧ w' = w := by
  go_enter Try.func19, Try.ntmps19
  go_wp2_with fail
  refine (isMade_nil _).mono ?_
  rintro e W1 ⟨rfl, rfl⟩
  go_wp2
  go_ret
  exact ⟨rfl, rfl⟩
set_option maxHeartbeats 1000000 in
theorem find_any (m1 m2 : Option Nat) (t : Tup) (p1 p2 : Option Addr) (w : World)
    (h1 : ∀ W, Below w.heap.size w W → (Instr.lookup 58 (.map m1) (tv t) false).run Try.prog W = .ok (.pointer p1) W) (h2 : ∀ W, Below w.heap.size w W → (Instr.lookup 58 (.map m2) (tv t) false).run Try.prog W = .ok (.pointer p2) W) :
    Calls Try.prog 21 #[.agg #[.map m1, .map m2], tv t] w fun e w' => e = .returned (if p1.isSome then .tuple #[.pointer p1, .bool false] else .tuple #[.pointer p2, .bool p2.isSome]) ∧ Below w.heap.size w w' := by
  obtain ⟨a0, a1, a2, a3, a4⟩ := t
  have l1 := h1 _ (below2 w (.cells #[.map m1, .map m2] 60) (.cells (tupC a0 a1 a2 a3 a4) 44))
  have l2 := h2 _ (below2 w (.cells #[.map m1, .map m2] 60) (.cells (tupC a0 a1 a2 a3 a4) 44))
  unfold tv tupC at l1 l2
  unfold tv tupC
  have hne := neq_pent
  clear h1 h2
  cases p1 with
  | some a =>
    go_enter Try.func21, Try.ntmps21
    go_wp2
    go_ret2
    exact ⟨rfl, below2 _ _ _⟩
  | none =>
    cases p2 with
    | some a =>
      go_enter Try.func21, Try.ntmps21
      go_wp2
      go_ret2
      exact ⟨rfl, below2 _ _ _⟩
    | none =>
      go_enter Try.func21, Try.ntmps21
      go_wp2
      go_ret2
      exact ⟨rfl, below2 _ _ _⟩
end Go.Proofs.Ytjjehncnjcepkaa
