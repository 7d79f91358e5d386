/- Bits, Name, Find of package field; Set of no field; lives. No condition. -/
import Derived.Test.YtijeakggeichcaaGreatDoorFH
namespace Go.Proofs.YtijeakggeichcaaGreatDoor
open Go.RowKit

theorem field_bits (a b c d e : Value) (W : World) : (Instr.field 148 (.agg #[a, b, c, d, e]) 1).run Tryz.prog W = .ok b W := by
  simp [Instr.field, go_sem, asAgg]
theorem field_name (a b c d e : Value) (W : World) : (Instr.field 148 (.agg #[a, b, c, d, e]) 0).run Tryz.prog W = .ok a W := by
  simp [Instr.field, go_sem, asAgg]
theorem field_of (a b c d e : Value) (W : World) : (Instr.field 148 (.agg #[a, b, c, d, e]) 2).run Tryz.prog W = .ok c W := by
  simp [Instr.field, go_sem, asAgg]
set_option maxRecDepth 20000 in
set_option maxHeartbeats 400000 in
theorem bits_any (f : Nat) (hf : 1 ≤ f) (hf2 : f ≤ 28) (w : World) : Calls Tryz.prog 90 #[.int .i64 f] w fun e w' => e = .returned (.int .i64 (fBits f)) ∧ Below w.heap.size w w' := by
  go_enter Tryz.func90, Tryz.ntmps90
  go_wp2_with fail
  refine (rowOf_any f hf hf2 _).mono ?_
  rintro e W1 ⟨R, S, rfl, hrow, hb1⟩
  have HB : Hid _ := hb1
  clear hrow hb1
  unfold rowV
  have hfl := field_bits
  go_wp2
  go_ret
  exact ⟨rfl, HB.out⟩
set_option maxRecDepth 20000 in
set_option maxHeartbeats 400000 in
theorem name_any (f : Nat) (hf : 1 ≤ f) (hf2 : f ≤ 28) (w : World) : Calls Tryz.prog 87 #[.int .i64 f] w fun e w' => e = .returned (.string (fName f)) ∧ Below w.heap.size w w' := by
  go_enter Tryz.func87, Tryz.ntmps87
  go_wp2_with fail
  refine (rowOf_any f hf hf2 _).mono ?_
  rintro e W1 ⟨R, S, rfl, hrow, hb1⟩
  have HB : Hid _ := hb1
  clear hrow hb1
  unfold rowV
  have hfl := field_name
  go_wp2
  go_ret
  exact ⟨rfl, HB.out⟩
set_option maxRecDepth 20000 in
set_option maxHeartbeats 400000 in
theorem name_none (f : Int) (hf : f < 1 ∨ 28 < f) (w : World) : Calls Tryz.prog 87 #[.int .i64 f] w fun e w' => e = .returned (.string ⟨#[]⟩) ∧ Below w.heap.size w w' := by
  go_enter Tryz.func87, Tryz.ntmps87
  go_wp2_with fail
  refine (row_none f hf _).mono ?_
  rintro e W1 ⟨rfl, hb1⟩
  have HB : Hid _ := hb1
  clear hb1
  unfold rowV
  have hfl := field_name
  go_wp2
  go_ret
  exact ⟨rfl, HB.out⟩
set_option maxRecDepth 20000 in
set_option maxHeartbeats 400000 in
theorem bits_none (f : Int) (hf : f < 1 ∨ 28 < f) (w : World) : Calls Tryz.prog 90 #[.int .i64 f] w fun e w' => e = .returned (.int .i64 0) ∧ Below w.heap.size w w' := by
  go_enter Tryz.func90, Tryz.ntmps90
  go_wp2_with fail
  refine (row_none f hf _).mono ?_
  rintro e W1 ⟨rfl, hb1⟩
  have HB : Hid _ := hb1
  clear hb1
  unfold rowV
  have hfl := field_bits
  go_wp2
  go_ret
  exact ⟨rfl, HB.out⟩
/-- The field of a name, from k on; 0 if there is none. -/
def findF (name : ByteArray) (k : Nat) : Nat → Nat
  | 0 => 0
  | n + 1 => if (fName k).toList == name.toList then k else findF name (k + 1) n
theorem findF_step (name : ByteArray) (k : Nat) (hk : k ≤ 28) : findF name k (29 - k) = if (fName k).toList == name.toList then k else findF name (k + 1) (29 - (k + 1)) := by
  obtain ⟨n, hn⟩ : ∃ n, 29 - k = n + 1 := ⟨28 - k, by omega⟩
  rw [hn, show 29 - (k + 1) = n from by omega]
  rfl
end Go.Proofs.YtijeakggeichcaaGreatDoor
