/- Bits, Name, Find of package field; Set of no field; lives. No condition. -/
import Derived.Test.YthodjgaaojmihaaDoorFH
namespace Go.Proofs.YthodjgaaojmihaaDoor.Fl
open Go.RowKit

theorem field_bits (a b c d e : Value) (W : World) : (Instr.field 69 (.agg #[a, b, c, d, e]) 1).run Tryd.prog W = .ok b W := by
  simp [Instr.field, go_sem, asAgg]
theorem field_name (a b c d e : Value) (W : World) : (Instr.field 69 (.agg #[a, b, c, d, e]) 0).run Tryd.prog W = .ok a W := by
  simp [Instr.field, go_sem, asAgg]
theorem field_of (a b c d e : Value) (W : World) : (Instr.field 69 (.agg #[a, b, c, d, e]) 2).run Tryd.prog W = .ok c W := by
  simp [Instr.field, go_sem, asAgg]
set_option maxRecDepth 20000 in
set_option maxHeartbeats 400000 in
theorem bits_any (f : Nat) (hf : 1 ≤ f) (hf2 : f ≤ 28) (w : World) : Calls Tryd.prog 16 #[.int .i64 f] w fun e w' => e = .returned (.int .i64 (fBits f)) ∧ Below w.heap.size w w' := by
  go_enter Tryd.func16, Tryd.ntmps16
  go_wp2_with fail
  refine (rowOf_any f hf hf2 _).mono ?_
  rintro e W1 ⟨R, S, rfl, hrow, hb1⟩
  have HB : Hid _ := hb1
  clear hrow hb1
  unfold rowV
  have hfl := field_bits
  go_wp2
  go_ret
  exact ⟨rfl, HB.out⟩
set_option maxRecDepth 20000 in
set_option maxHeartbeats 400000 in
theorem name_any (f : Nat) (hf : 1 ≤ f) (hf2 : f ≤ 28) (w : World) : Calls Tryd.prog 33 #[.int .i64 f] w fun e w' => e = .returned (.string (fName f)) ∧ Below w.heap.size w w' := by
  go_enter Tryd.func33, Tryd.ntmps33
  go_wp2_with fail
  refine (rowOf_any f hf hf2 _).mono ?_
  rintro e W1 ⟨R, S, rfl, hrow, hb1⟩
  have HB : Hid _ := hb1
  clear hrow hb1
  unfold rowV
  have hfl := field_name
  go_wp2
  go_ret
  exact ⟨rfl, HB.out⟩
set_option maxRecDepth 20000 in
set_option maxHeartbeats 400000 in
theorem name_none (f : Int) (hf : f < 1 ∨ 28 < f) (w : World) : Calls Tryd.prog 33 #[.int .i64 f] w fun e w' => e = .returned (.string ⟨#[]⟩) ∧ Below w.heap.size w w' := by
  go_enter Tryd.func33, Tryd.ntmps33
  go_wp2_with fail
  refine (row_none f hf _).mono ?_
  rintro e W1 ⟨rfl, hb1⟩
  have HB : Hid _ := hb1
  clear hb1
  unfold rowV
  have hfl := field_name
  go_wp2
  go_ret
  exact ⟨rfl, HB.out⟩
set_option maxRecDepth 20000 in
set_option maxHeartbeats 400000 in
theorem bits_none (f : Int) (hf : f < 1 ∨ 28 < f) (w : World) : Calls Tryd.prog 16 #[.int .i64 f] w fun e w' => e = .returned (.int .i64 0) ∧ Below w.heap.size w w' := by
  go_enter Tryd.func16, Tryd.ntmps16
  go_wp2_with fail
  refine (row_none f hf _).mono ?_
  rintro e W1 ⟨rfl, hb1⟩
  have HB : Hid _ := hb1
  clear hb1
  unfold rowV
  have hfl := field_bits
  go_wp2
  go_ret
  exact ⟨rfl, HB.out⟩
/-- The field of a name, from k on; 0 if there is none. -/
def findF (name : ByteArray) (k : Nat) : Nat → Nat
  | 0 => 0
  | n + 1 => if (fName k).toList == name.toList then k else findF name (k + 1) n
theorem findF_step (name : ByteArray) (k : Nat) (hk : k ≤ 28) : findF name k (29 - k) = if (fName k).toList == name.toList then k else findF name (k + 1) (29 - (k + 1)) := by
  obtain ⟨n, hn⟩ : ∃ n, 29 - k = n + 1 := ⟨28 - k, by omega⟩
  rw [hn, show 29 - (k + 1) = n from by omega]
  rfl
set_option maxHeartbeats 1000000 in
theorem find_any (name : ByteArray) (w : World) : Calls Tryd.prog 15 #[.string name] w fun e w' => e = .returned (.tuple #[.int .i64 (findF name 1 28), .bool (decide (0 < findF name 1 28))]) ∧ Below w.heap.size w w' := by
  go_enter Tryd.func15, Tryd.ntmps15
  go_wp2_with fail
  go_loopw [4] (fun i wr => ∃ k : Nat, 1 ≤ k ∧ k ≤ 29 ∧ i = .int .i64 k ∧ findF name 1 28 = findF name k (29 - k) ∧ Below w.heap.size w wr) (fun i _ => 29 - (intOf i).toNat)
  case atStart => exact ⟨1, by omega, by omega, rfl, rfl, Below.refl _ _⟩
  case round =>
    obtain ⟨k, hk1, hk2, rfl, hfi, hb⟩ := hrel
    have HB : Hid _ := hb
    have HF : Hid _ := hfi
    clear hb hfi
    by_cases hlt : k ≤ 28
    · have hkI : (k : Int) ≤ 28 := by omega
      go_wp2_with fail
      refine (name_any k hk1 hlt _).mono ?_
      rintro e W1 ⟨rfl, hb1⟩
      have HB1 : Hid _ := HB.out.trans (hb1.mono HB.out.size)
      clear hb1
      have hst := findF_step name k hlt
      cases hc : ((fName k).toList == name.toList)
      · rw [hc, if_neg (by simp)] at hst
        have HF2 : Hid _ := HF.out.trans hst
        clear hst
        go_wp2
        go_roundw
        case rel => exact ⟨k + 1, by omega, by omega, by go_num, HF2.out, HB1.out⟩
        case measure => simp [intOf]; omega
      · rw [hc, if_pos rfl] at hst
        have HF2 : Hid _ := HF.out.trans hst
        clear hst
        go_wp2
        go_ret2
        refine ⟨?_, HB1.out⟩
        rw [HF2.out]
        simp; omega
    · obtain rfl : k = 29 := by omega
      go_wp2
      go_ret2
      refine ⟨?_, HB.out⟩
      rw [HF.out]
      rfl
set_option linter.unusedSimpArgs false in
set_option maxHeartbeats 1000000 in
set_option maxRecDepth 20000 in
theorem set_none (f : Int) (hf : f < 1 ∨ 28 < f) (cs : Array Value) (v m : Int) (w : World) :
    Calls Tryd.prog 14 #[.agg cs, .int .i64 f, .int .u64 v, .int .u64 m] w fun e w' => e = .returned (.tuple #[.agg zeroC, .int .i64 80]) ∧ Below w.heap.size w w' := by
  go_enter Tryd.func14, Tryd.ntmps14
  go_wp2_with fail
  refine (row_none f hf _).mono ?_
  rintro e W1 ⟨rfl, hb1⟩
  have hZ1 : W1.heap[w.heap.size + 1]? = some (.cells zeroC 43 (0, 0)) := (hb1.block _ (by simp)).trans (two_last _ _ _)
  have hlt1 : w.heap.size + 1 < W1.heap.size := by have := hb1.size; simp at this; omega
  have HZ1 : Hid _ := hZ1
  have HB1 : Hid (Below w.heap.size w W1) := (below2 w _ _).trans (hb1.mono (by simp; omega))
  clear hb1 hZ1
  unfold rowV
  go_wp2_with fail
  refine (isField_any ⟨#[]⟩ _ _ _ _ _).mono ?_
  rintro e W2 ⟨rfl, hb2⟩
  rw [show (⟨#[]⟩ : ByteArray).toList.isEmpty = true from by decide +kernel]
  have hZ2 : W2.heap[w.heap.size + 1]? = some (.cells zeroC 43 (0, 0)) := (hb2.block _ (by simp; omega)).trans ((heap_alloc_old _ _ (by omega)).trans HZ1.out)
  have HB2 : Hid (Below W1.heap.size W1 W2) := (below1 W1 _).trans (hb2.mono (by simp))
  have HZ2 : Hid _ := hZ2
  clear hb2 hZ2 HZ1
  go_wp2_with (first
    | refine wpList_store_row rfl 43 _ _ rfl (w.heap.size + 1) zeroC zeroC 43 rfl rfl HZ2.out (info_size zeroC_size) rfl zeroC_one ?_
    | fail)
  intro W9 z1 z2 z3 z4
  go_wp2
  refine bodyPost_ret (results_state (p := 8) (u := 9) rfl _ _ (w.heap.size + 1) zeroC rfl z1 zeroC_size) rfl ⟨rfl, ?_⟩
  exact HB1.out.trans ((HB2.out.mono HB1.out.size).trans (z4.mono (by omega)))
end Go.Proofs.YthodjgaaojmihaaDoor.Fl
