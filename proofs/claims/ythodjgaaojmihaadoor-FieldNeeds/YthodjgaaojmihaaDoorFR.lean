/- Needs of the program and of the reference: the same terms. No condition. -/
import Derived.Test.YthodjgaaojmihaaDoorFJ
import Derived.Deep.RegionHeld3
import Derived.Deep.RegionWith
import Derived.Deep.DrawnRows
namespace Go.Proofs.YthodjgaaojmihaaDoor.Fl
open Go.RowKit
theorem infoTerm : (Tryd.prog.info? 49).map (·.size) = some 3 := by kernel_rfl
theorem ones_min (f : Nat) : IntKind.u64.wrap (IntKind.u64.wrap (2 ^ min (fBits f) 64) - 1) = (2 ^ fBits f - 1 : Int) := by
  rw [show min (fBits f) 64 = fBits f from by have := fBits_le f; omega]
  exact ones_val _ (fBits_le f)
set_option maxHeartbeats 1000000 in
theorem exactly_any (f : Nat) (hf : 1 ≤ f) (hf2 : f ≤ 28) (v : Int) (w : World) : Calls Tryd.prog 34 #[.int .i64 f, .int .u64 v] w fun e w' => e = .returned (.agg #[.int .i64 f, .int .u64 v, .int .u64 (2 ^ fBits f - 1)]) ∧ Below w.heap.size w w' := by
  go_enter Tryd.func34, Tryd.ntmps34
  go_wp2_with fail
  refine (bits_any f hf hf2 _).mono ?_
  rintro e W1 ⟨rfl, hb1⟩
  have HB1 : Hid _ := hb1
  clear hb1
  go_wp2_with fail
  refine (ones_any _ (fBits_le f) _).mono ?_
  rintro e W2 ⟨rfl, rfl⟩
  have hV := HB1.out
  clear HB1
  have HB2 : Hid (Below w.heap.size w W2) := (below1 w _).trans (hV.mono (by simp))
  have hz : W2.heap[w.heap.size]? = some (.cells #[.int .i64 0, .int .u64 0, .int .u64 0] 49 (0, 0)) := (hV.block _ (by simp)).trans (heap_alloc_new _ _)
  have HZ : Hid _ := hz
  clear hz hV
  go_wp2_with (first
    | refine wpList_store_row rfl 49 _ _ rfl w.heap.size #[.int .i64 0, .int .u64 0, .int .u64 0] #[.int .i64 f, .int .u64 v, .int .u64 (2 ^ fBits f - 1)] 49 rfl rfl HZ.out infoTerm rfl (by simp [Value.oneCell']) ?_
    | fail)
  intro W9 z1 z2 z3 z4
  go_wp2
  exact bodyPost_ret (results_cell_row (p := 4) (ty := 49) rfl _ _ w.heap.size 49 _ (0, 0) _ rfl z1 Tryd.underlying49 rfl infoTerm) rfl ⟨rfl, HB2.out.trans z4⟩
def needC : Nat → Array Value
  | 1 => #[.int .i64 3, .int .u64 2054, .int .u64 65535]
  | 2 => #[.int .i64 3, .int .u64 2048, .int .u64 65535]
  | 3 => #[.int .i64 3, .int .u64 2048, .int .u64 65535, .int .i64 12, .int .u64 1, .int .u64 255]
  | 4 => #[.int .i64 3, .int .u64 2048, .int .u64 65535]
  | 5 => #[.int .i64 3, .int .u64 2048, .int .u64 65535, .int .i64 12, .int .u64 6, .int .u64 255]
  | _ => #[]
def needLen : Nat → Nat
  | 1 => 1
  | 2 => 1
  | 3 => 2
  | 4 => 1
  | 5 => 2
  | _ => 0
/-- The terms that packets of a sort must have, as a slice. -/
def NeedS (W : World) (o : Nat) (v : Value) : Prop := (needLen o = 0 ∧ v = .slice none 0 0) ∨ (∃ g, v = .slice (some ⟨g, 0, none⟩) (needLen o) (needLen o) ∧ W.heap[g]? = some (.cells (needC o) 49 (0, 0)))
theorem NeedS.below {W W' : World} {o : Nat} {v : Value} (h : NeedS W o v) (hb : Below W.heap.size W W') : NeedS W' o v := by
  rcases h with h | ⟨g, h1, h2⟩
  · exact .inl h
  · exact .inr ⟨g, h1, (hb.block _ (lt_of_heap h2)).trans h2⟩
set_option maxHeartbeats 1000000 in
theorem needsOf_0 (w : World) : Calls Tryd.prog 17 #[.int .i64 0] w fun e w' => ∃ v, e = .returned v ∧ NeedS w' 0 v ∧ Below w.heap.size w w' := by
  go_enter Tryd.func17, Tryd.ntmps17
  go_wp2
  go_ret
  exact ⟨_, rfl, .inl ⟨rfl, rfl⟩, Below.refl _ _⟩
set_option maxHeartbeats 1000000 in
theorem needsOf_1 (w : World) : Calls Tryd.prog 17 #[.int .i64 1] w fun e w' => ∃ v, e = .returned v ∧ NeedS w' 1 v ∧ Below w.heap.size w w' := by
  go_enter Tryd.func17, Tryd.ntmps17
  go_wp2_with fail
  refine (exactly_any 3 (by omega) (by omega) 2054 _).mono ?_
  rintro e V0 ⟨rfl, hb0⟩
  have HB0 : Hid (Below w.heap.size w V0) := hb0
  clear hb0
  go_wp2
  go_ret
  exact ⟨_, rfl, .inr ⟨V0.heap.size, rfl, heap_alloc_new _ _⟩, HB0.out.trans ((below1 V0 _).mono HB0.out.size)⟩
set_option maxHeartbeats 1000000 in
theorem needsOf_2 (w : World) : Calls Tryd.prog 17 #[.int .i64 2] w fun e w' => ∃ v, e = .returned v ∧ NeedS w' 2 v ∧ Below w.heap.size w w' := by
  go_enter Tryd.func17, Tryd.ntmps17
  go_wp2_with fail
  refine (exactly_any 3 (by omega) (by omega) 2048 _).mono ?_
  rintro e V0 ⟨rfl, hb0⟩
  have HB0 : Hid (Below w.heap.size w V0) := hb0
  clear hb0
  go_wp2
  go_ret
  exact ⟨_, rfl, .inr ⟨V0.heap.size, rfl, heap_alloc_new _ _⟩, HB0.out.trans ((below1 V0 _).mono HB0.out.size)⟩
set_option maxHeartbeats 1000000 in
theorem needsOf_3 (w : World) : Calls Tryd.prog 17 #[.int .i64 3] w fun e w' => ∃ v, e = .returned v ∧ NeedS w' 3 v ∧ Below w.heap.size w w' := by
  go_enter Tryd.func17, Tryd.ntmps17
  go_wp2_with fail
  refine (exactly_any 3 (by omega) (by omega) 2048 _).mono ?_
  rintro e V0 ⟨rfl, hb0⟩
  have HB0 : Hid (Below w.heap.size w V0) := hb0
  clear hb0
  go_wp2_with fail
  refine (exactly_any 12 (by omega) (by omega) 1 _).mono ?_
  rintro e V1 ⟨rfl, hb1⟩
  have HB1 : Hid (Below w.heap.size w V1) := HB0.out.trans (hb1.mono HB0.out.size)
  clear hb1
  go_wp2
  go_ret
  exact ⟨_, rfl, .inr ⟨V1.heap.size, rfl, heap_alloc_new _ _⟩, HB1.out.trans ((below1 V1 _).mono HB1.out.size)⟩
set_option maxHeartbeats 1000000 in
theorem needsOf_4 (w : World) : Calls Tryd.prog 17 #[.int .i64 4] w fun e w' => ∃ v, e = .returned v ∧ NeedS w' 4 v ∧ Below w.heap.size w w' := by
  go_enter Tryd.func17, Tryd.ntmps17
  go_wp2_with fail
  refine (exactly_any 3 (by omega) (by omega) 2048 _).mono ?_
  rintro e V0 ⟨rfl, hb0⟩
  have HB0 : Hid (Below w.heap.size w V0) := hb0
  clear hb0
  go_wp2
  go_ret
  exact ⟨_, rfl, .inr ⟨V0.heap.size, rfl, heap_alloc_new _ _⟩, HB0.out.trans ((below1 V0 _).mono HB0.out.size)⟩
set_option maxHeartbeats 1000000 in
theorem needsOf_5 (w : World) : Calls Tryd.prog 17 #[.int .i64 5] w fun e w' => ∃ v, e = .returned v ∧ NeedS w' 5 v ∧ Below w.heap.size w w' := by
  go_enter Tryd.func17, Tryd.ntmps17
  go_wp2_with fail
  refine (exactly_any 3 (by omega) (by omega) 2048 _).mono ?_
  rintro e V0 ⟨rfl, hb0⟩
  have HB0 : Hid (Below w.heap.size w V0) := hb0
  clear hb0
  go_wp2_with fail
  refine (exactly_any 12 (by omega) (by omega) 6 _).mono ?_
  rintro e V1 ⟨rfl, hb1⟩
  have HB1 : Hid (Below w.heap.size w V1) := HB0.out.trans (hb1.mono HB0.out.size)
  clear hb1
  go_wp2
  go_ret
  exact ⟨_, rfl, .inr ⟨V1.heap.size, rfl, heap_alloc_new _ _⟩, HB1.out.trans ((below1 V1 _).mono HB1.out.size)⟩
theorem needsOf_any (o : Nat) (h : o ≤ 5) (w : World) : Calls Tryd.prog 17 #[.int .i64 o] w fun e w' => ∃ v, e = .returned v ∧ NeedS w' o v ∧ Below w.heap.size w w' := by
  match o, h with
  | 0, _ => exact needsOf_0 w
  | 1, _ => exact needsOf_1 w
  | 2, _ => exact needsOf_2 w
  | 3, _ => exact needsOf_3 w
  | 4, _ => exact needsOf_4 w
  | 5, _ => exact needsOf_5 w
set_option maxHeartbeats 1000000 in
set_option maxRecDepth 20000 in
theorem needs_any (f : Nat) (hf : 1 ≤ f) (hf2 : f ≤ 28) (w : World) : Calls Tryd.prog 6 #[.int .i64 f] w fun e w' => ∃ v, e = .returned v ∧ NeedS w' (fOf f) v ∧ Below w.heap.size w w' := by
  go_enter Tryd.func6, Tryd.ntmps6
  go_wp2_with fail
  refine (rowOf_any f hf hf2 _).mono ?_
  rintro e W1 ⟨R, S, rfl, hrow, hb1⟩
  have HB : Hid _ := hb1
  clear hrow hb1
  unfold rowV
  have hfl := field_of
  go_wp2_with fail
  refine (needsOf_any (fOf f) (fOf_le f) _).mono ?_
  rintro e W2 ⟨v, rfl, hn, hb2⟩
  have HN : Hid _ := hn
  have HB2 : Hid (Below w.heap.size w W2) := HB.out.trans (hb2.mono HB.out.size)
  clear hn hb2 hfl
  go_wp2
  go_ret
  exact ⟨_, rfl, HN.out, HB2.out⟩
set_option maxHeartbeats 1000000 in
set_option maxRecDepth 20000 in
theorem needs_none (f : Int) (hf : f < 1 ∨ 28 < f) (w : World) : Calls Tryd.prog 6 #[.int .i64 f] w fun e w' => ∃ v, e = .returned v ∧ NeedS w' 0 v ∧ Below w.heap.size w w' := by
  go_enter Tryd.func6, Tryd.ntmps6
  go_wp2_with fail
  refine (row_none f hf _).mono ?_
  rintro e W1 ⟨rfl, hb1⟩
  have HB : Hid _ := hb1
  clear hb1
  unfold rowV
  have hfl := field_of
  go_wp2_with fail
  refine (needsOf_any 0 (by omega) _).mono ?_
  rintro e W2 ⟨v, rfl, hn, hb2⟩
  have HN : Hid _ := hn
  have HB2 : Hid (Below w.heap.size w W2) := HB.out.trans (hb2.mono HB.out.size)
  clear hn hb2 hfl
  go_wp2
  go_ret
  exact ⟨_, rfl, HN.out, HB2.out⟩
theorem needS_four {W : World} {v : Value} (h : NeedS W 2 v) : NeedS W 4 v := h
end Go.Proofs.YthodjgaaojmihaaDoor.Fl
