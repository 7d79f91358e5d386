/- Needs of the program and of the reference: the same terms. No condition. -/
import Derived.Test.YtpinhnkceaephaaDoorFQ
import Derived.Deep.RegionHeld3
import Derived.Deep.RegionWith
import Derived.Deep.DrawnRows
namespace Go.Proofs.YtpinhnkceaephaaDoor
open Go.RowKit
theorem infoTerm : (Tryd.prog.info? 55).map (·.size) = some 3 := by kernel_rfl
theorem ones_min (f : Nat) : IntKind.u64.wrap (IntKind.u64.wrap (2 ^ min (fBits f) 64) - 1) = (2 ^ fBits f - 1 : Int) := by
  rw [show min (fBits f) 64 = fBits f from by have := fBits_le f; omega]
  exact ones_val _ (fBits_le f)
set_option maxHeartbeats 1000000 in
theorem all_any (f : Nat) (hf : 1 ≤ f) (hf2 : f ≤ 28) (w : World) : Calls Tryd.prog 32 #[.int .i64 f] w fun e w' => e = .returned (.int .u64 (2 ^ fBits f - 1)) ∧ Below w.heap.size w w' := by
  go_enter Tryd.func32, Tryd.ntmps32
  go_wp2_with fail
  refine (rbits_any f hf hf2 _).mono ?_
  rintro e W1 ⟨rfl, hb⟩
  have HB : Hid _ := hb
  clear hb
  go_wp2
  go_ret
  exact ⟨congrArg (fun x => Ending.returned (.int .u64 x)) (ones_min f), HB.out⟩
set_option maxHeartbeats 1000000 in
theorem exactly_any (f : Nat) (hf : 1 ≤ f) (hf2 : f ≤ 28) (v : Int) (w : World) : Calls Tryd.prog 50 #[.int .i64 f, .int .u64 v] w fun e w' => e = .returned (.agg #[.int .i64 f, .int .u64 v, .int .u64 (2 ^ fBits f - 1)]) ∧ Below w.heap.size w w' := by
  go_enter Tryd.func50, Tryd.ntmps50
  go_wp2_with fail
  refine (bits_any f hf hf2 _).mono ?_
  rintro e W1 ⟨rfl, hb1⟩
  have HB1 : Hid _ := hb1
  clear hb1
  go_wp2_with fail
  refine (ones_any _ (fBits_le f) _).mono ?_
  rintro e W2 ⟨rfl, rfl⟩
  have hV := HB1.out
  clear HB1
  have HB2 : Hid (Below w.heap.size w W2) := (below1 w _).trans (hV.mono (by simp))
  have hz : W2.heap[w.heap.size]? = some (.cells #[.int .i64 0, .int .u64 0, .int .u64 0] 55 (0, 0)) := (hV.block _ (by simp)).trans (heap_alloc_new _ _)
  have HZ : Hid _ := hz
  clear hz hV
  go_wp2_with (first
    | refine wpList_store_row rfl 55 _ _ rfl w.heap.size #[.int .i64 0, .int .u64 0, .int .u64 0] #[.int .i64 f, .int .u64 v, .int .u64 (2 ^ fBits f - 1)] 55 rfl rfl HZ.out infoTerm rfl (by simp [Value.oneCell']) ?_
    | fail)
  intro W9 z1 z2 z3 z4
  go_wp2
  exact bodyPost_ret (results_cell_row (p := 4) (ty := 55) rfl _ _ w.heap.size 55 _ (0, 0) _ rfl z1 Tryd.underlying55 rfl infoTerm) rfl ⟨rfl, HB2.out.trans z4⟩
set_option maxHeartbeats 1000000 in
theorem rt_any (f : Nat) (hf : 1 ≤ f) (hf2 : f ≤ 28) (v : Int) (w : World) : Calls Tryd.prog 40 #[.int .i64 f, .int .u64 v] w fun e w' => e = .returned (.agg #[.int .i64 f, .int .u64 v, .int .u64 (2 ^ fBits f - 1)]) ∧ Below w.heap.size w w' := by
  go_enter Tryd.func40, Tryd.ntmps40
  go_wp2_with fail
  refine (all_any f hf hf2 _).mono ?_
  rintro e W2 ⟨rfl, hV⟩
  have HB2 : Hid (Below w.heap.size w W2) := (below1 w _).trans (hV.mono (by simp))
  have hz : W2.heap[w.heap.size]? = some (.cells #[.int .i64 0, .int .u64 0, .int .u64 0] 55 (0, 0)) := (hV.block _ (by simp)).trans (heap_alloc_new _ _)
  have HZ : Hid _ := hz
  clear hz hV
  go_wp2_with (first
    | refine wpList_store_row rfl 55 _ _ rfl w.heap.size #[.int .i64 0, .int .u64 0, .int .u64 0] #[.int .i64 f, .int .u64 v, .int .u64 (2 ^ fBits f - 1)] 55 rfl rfl HZ.out infoTerm rfl (by simp [Value.oneCell']) ?_
    | fail)
  intro W9 z1 z2 z3 z4
  go_wp2
  exact bodyPost_ret (results_cell_row (p := 4) (ty := 55) rfl _ _ w.heap.size 55 _ (0, 0) _ rfl z1 Tryd.underlying55 rfl infoTerm) rfl ⟨rfl, HB2.out.trans z4⟩

def needC : Nat → Array Value
  | 1 => #[.int .i64 3, .int .u64 2054, .int .u64 65535]
  | 2 => #[.int .i64 3, .int .u64 2048, .int .u64 65535]
  | 3 => #[.int .i64 3, .int .u64 2048, .int .u64 65535, .int .i64 12, .int .u64 1, .int .u64 255]
  | 4 => #[.int .i64 3, .int .u64 2048, .int .u64 65535]
  | 5 => #[.int .i64 3, .int .u64 2048, .int .u64 65535, .int .i64 12, .int .u64 6, .int .u64 255]
  | _ => #[]
def needLen : Nat → Nat
  | 1 => 1
  | 2 => 1
  | 3 => 2
  | 4 => 1
  | 5 => 2
  | _ => 0
/-- The terms that packets of a sort must have, as a slice. -/
def NeedS (W : World) (o : Nat) (v : Value) : Prop := (needLen o = 0 ∧ v = .slice none 0 0) ∨ (∃ g, v = .slice (some ⟨g, 0, none⟩) (needLen o) (needLen o) ∧ W.heap[g]? = some (.cells (needC o) 55 (0, 0)))
theorem NeedS.below {W W' : World} {o : Nat} {v : Value} (h : NeedS W o v) (hb : Below W.heap.size W W') : NeedS W' o v := by
  rcases h with h | ⟨g, h1, h2⟩
  · exact .inl h
  · exact .inr ⟨g, h1, (hb.block _ (lt_of_heap h2)).trans h2⟩
set_option maxHeartbeats 1000000 in
theorem needsOf_0 (w : World) : Calls Tryd.prog 38 #[.int .i64 0] w fun e w' => ∃ v, e = .returned v ∧ NeedS w' 0 v ∧ Below w.heap.size w w' := by
  go_enter Tryd.func38, Tryd.ntmps38
  go_wp2
  go_ret
  exact ⟨_, rfl, .inl ⟨rfl, rfl⟩, Below.refl _ _⟩
set_option maxHeartbeats 1000000 in
theorem needsOf_1 (w : World) : Calls Tryd.prog 38 #[.int .i64 1] w fun e w' => ∃ v, e = .returned v ∧ NeedS w' 1 v ∧ Below w.heap.size w w' := by
  go_enter Tryd.func38, Tryd.ntmps38
  go_wp2_with fail
  refine (exactly_any 3 (by omega) (by omega) 2054 _).mono ?_
  rintro e V0 ⟨rfl, hb0⟩
  have HB0 : Hid (Below w.heap.size w V0) := hb0
  clear hb0
  go_wp2
  go_ret
  exact ⟨_, rfl, .inr ⟨V0.heap.size, rfl, heap_alloc_new _ _⟩, HB0.out.trans ((below1 V0 _).mono HB0.out.size)⟩
set_option maxHeartbeats 1000000 in
theorem needsOf_2 (w : World) : Calls Tryd.prog 38 #[.int .i64 2] w fun e w' => ∃ v, e = .returned v ∧ NeedS w' 2 v ∧ Below w.heap.size w w' := by
  go_enter Tryd.func38, Tryd.ntmps38
  go_wp2_with fail
  refine (exactly_any 3 (by omega) (by omega) 2048 _).mono ?_
  rintro e V0 ⟨rfl, hb0⟩
  have HB0 : Hid (Below w.heap.size w V0) := hb0
  clear hb0
  go_wp2
  go_ret
  exact ⟨_, rfl, .inr ⟨V0.heap.size, rfl, heap_alloc_new _ _⟩, HB0.out.trans ((below1 V0 _).mono HB0.out.size)⟩
set_option maxHeartbeats 1000000 in
theorem needsOf_3 (w : World) : Calls Tryd.prog 38 #[.int .i64 3] w fun e w' => ∃ v, e = .returned v ∧ NeedS w' 3 v ∧ Below w.heap.size w w' := by
  go_enter Tryd.func38, Tryd.ntmps38
  go_wp2_with fail
  refine (exactly_any 3 (by omega) (by omega) 2048 _).mono ?_
  rintro e V0 ⟨rfl, hb0⟩
  have HB0 : Hid (Below w.heap.size w V0) := hb0
  clear hb0
  go_wp2_with fail
  refine (exactly_any 12 (by omega) (by omega) 1 _).mono ?_
  rintro e V1 ⟨rfl, hb1⟩
  have HB1 : Hid (Below w.heap.size w V1) := HB0.out.trans (hb1.mono HB0.out.size)
  clear hb1
  go_wp2
  go_ret
  exact ⟨_, rfl, .inr ⟨V1.heap.size, rfl, heap_alloc_new _ _⟩, HB1.out.trans ((below1 V1 _).mono HB1.out.size)⟩
set_option maxHeartbeats 1000000 in
theorem needsOf_4 (w : World) : Calls Tryd.prog 38 #[.int .i64 4] w fun e w' => ∃ v, e = .returned v ∧ NeedS w' 4 v ∧ Below w.heap.size w w' := by
  go_enter Tryd.func38, Tryd.ntmps38
  go_wp2_with fail
  refine (exactly_any 3 (by omega) (by omega) 2048 _).mono ?_
  rintro e V0 ⟨rfl, hb0⟩
  have HB0 : Hid (Below w.heap.size w V0) := hb0
  clear hb0
  go_wp2
  go_ret
  exact ⟨_, rfl, .inr ⟨V0.heap.size, rfl, heap_alloc_new _ _⟩, HB0.out.trans ((below1 V0 _).mono HB0.out.size)⟩
set_option maxHeartbeats 1000000 in
theorem needsOf_5 (w : World) : Calls Tryd.prog 38 #[.int .i64 5] w fun e w' => ∃ v, e = .returned v ∧ NeedS w' 5 v ∧ Below w.heap.size w w' := by
  go_enter Tryd.func38, Tryd.ntmps38
  go_wp2_with fail
  refine (exactly_any 3 (by omega) (by omega) 2048 _).mono ?_
  rintro e V0 ⟨rfl, hb0⟩
  have HB0 : Hid (Below w.heap.size w V0) := hb0
  clear hb0
  go_wp2_with fail
  refine (exactly_any 12 (by omega) (by omega) 6 _).mono ?_
  rintro e V1 ⟨rfl, hb1⟩
  have HB1 : Hid (Below w.heap.size w V1) := HB0.out.trans (hb1.mono HB0.out.size)
  clear hb1
  go_wp2
  go_ret
  exact ⟨_, rfl, .inr ⟨V1.heap.size, rfl, heap_alloc_new _ _⟩, HB1.out.trans ((below1 V1 _).mono HB1.out.size)⟩
theorem needsOf_any (o : Nat) (h : o ≤ 5) (w : World) : Calls Tryd.prog 38 #[.int .i64 o] w fun e w' => ∃ v, e = .returned v ∧ NeedS w' o v ∧ Below w.heap.size w w' := by
  match o, h with
  | 0, _ => exact needsOf_0 w
  | 1, _ => exact needsOf_1 w
  | 2, _ => exact needsOf_2 w
  | 3, _ => exact needsOf_3 w
  | 4, _ => exact needsOf_4 w
  | 5, _ => exact needsOf_5 w
set_option maxHeartbeats 1000000 in
set_option maxRecDepth 20000 in
theorem needs_any (f : Nat) (hf : 1 ≤ f) (hf2 : f ≤ 28) (w : World) : Calls Tryd.prog 26 #[.int .i64 f] w fun e w' => ∃ v, e = .returned v ∧ NeedS w' (fOf f) v ∧ Below w.heap.size w w' := by
  go_enter Tryd.func26, Tryd.ntmps26
  go_wp2_with fail
  refine (rowOf_any f hf hf2 _).mono ?_
  rintro e W1 ⟨R, S, rfl, hrow, hb1⟩
  have HB : Hid _ := hb1
  clear hrow hb1
  unfold rowV
  have hfl := field_of
  go_wp2_with fail
  refine (needsOf_any (fOf f) (fOf_le f) _).mono ?_
  rintro e W2 ⟨v, rfl, hn, hb2⟩
  have HN : Hid _ := hn
  have HB2 : Hid (Below w.heap.size w W2) := HB.out.trans (hb2.mono HB.out.size)
  clear hn hb2 hfl
  go_wp2
  go_ret
  exact ⟨_, rfl, HN.out, HB2.out⟩
set_option maxHeartbeats 1000000 in
set_option maxRecDepth 20000 in
theorem needs_none (f : Int) (hf : f < 1 ∨ 28 < f) (w : World) : Calls Tryd.prog 26 #[.int .i64 f] w fun e w' => ∃ v, e = .returned v ∧ NeedS w' 0 v ∧ Below w.heap.size w w' := by
  go_enter Tryd.func26, Tryd.ntmps26
  go_wp2_with fail
  refine (row_none f hf _).mono ?_
  rintro e W1 ⟨rfl, hb1⟩
  have HB : Hid _ := hb1
  clear hb1
  unfold rowV
  have hfl := field_of
  go_wp2_with fail
  refine (needsOf_any 0 (by omega) _).mono ?_
  rintro e W2 ⟨v, rfl, hn, hb2⟩
  have HN : Hid _ := hn
  have HB2 : Hid (Below w.heap.size w W2) := HB.out.trans (hb2.mono HB.out.size)
  clear hn hb2 hfl
  go_wp2
  go_ret
  exact ⟨_, rfl, HN.out, HB2.out⟩
set_option maxHeartbeats 1000000 in
theorem rneeds_arp (f : Int) (h1 : 5 ≤ f) (h2 : f ≤ 9) (w : World) : Calls Tryd.prog 27 #[.int .i64 f] w fun e w' => ∃ v, e = .returned v ∧ NeedS w' 1 v ∧ Below w.heap.size w w' := by
  go_enter Tryd.func27, Tryd.ntmps27
  go_wp2_with fail
  refine (rt_any 3 (by omega) (by omega) 2054 _).mono ?_
  rintro e V0 ⟨rfl, hb0⟩
  have HB0 : Hid (Below w.heap.size w V0) := hb0
  clear hb0
  go_wp2
  go_ret
  exact ⟨_, rfl, .inr ⟨V0.heap.size, rfl, heap_alloc_new _ _⟩, HB0.out.trans ((below1 V0 _).mono HB0.out.size)⟩
set_option maxHeartbeats 1000000 in
theorem rneeds_16 (w : World) : Calls Tryd.prog 27 #[.int .i64 16] w fun e w' => ∃ v, e = .returned v ∧ NeedS w' 3 v ∧ Below w.heap.size w w' := by
  go_enter Tryd.func27, Tryd.ntmps27
  go_wp2_with fail
  refine (rt_any 3 (by omega) (by omega) 2048 _).mono ?_
  rintro e V0 ⟨rfl, hb0⟩
  have HB0 : Hid (Below w.heap.size w V0) := hb0
  clear hb0
  go_wp2_with fail
  refine (rt_any 12 (by omega) (by omega) 1 _).mono ?_
  rintro e V1 ⟨rfl, hb1⟩
  have HB1 : Hid (Below w.heap.size w V1) := HB0.out.trans (hb1.mono HB0.out.size)
  clear hb1
  go_wp2
  go_ret
  exact ⟨_, rfl, .inr ⟨V1.heap.size, rfl, heap_alloc_new _ _⟩, HB1.out.trans ((below1 V1 _).mono HB1.out.size)⟩
set_option maxHeartbeats 1000000 in
theorem rneeds_17 (w : World) : Calls Tryd.prog 27 #[.int .i64 17] w fun e w' => ∃ v, e = .returned v ∧ NeedS w' 3 v ∧ Below w.heap.size w w' := by
  go_enter Tryd.func27, Tryd.ntmps27
  go_wp2_with fail
  refine (rt_any 3 (by omega) (by omega) 2048 _).mono ?_
  rintro e V0 ⟨rfl, hb0⟩
  have HB0 : Hid (Below w.heap.size w V0) := hb0
  clear hb0
  go_wp2_with fail
  refine (rt_any 12 (by omega) (by omega) 1 _).mono ?_
  rintro e V1 ⟨rfl, hb1⟩
  have HB1 : Hid (Below w.heap.size w V1) := HB0.out.trans (hb1.mono HB0.out.size)
  clear hb1
  go_wp2
  go_ret
  exact ⟨_, rfl, .inr ⟨V1.heap.size, rfl, heap_alloc_new _ _⟩, HB1.out.trans ((below1 V1 _).mono HB1.out.size)⟩
set_option maxHeartbeats 1000000 in
theorem rneeds_20 (w : World) : Calls Tryd.prog 27 #[.int .i64 20] w fun e w' => ∃ v, e = .returned v ∧ NeedS w' 5 v ∧ Below w.heap.size w w' := by
  go_enter Tryd.func27, Tryd.ntmps27
  go_wp2_with fail
  refine (rt_any 3 (by omega) (by omega) 2048 _).mono ?_
  rintro e V0 ⟨rfl, hb0⟩
  have HB0 : Hid (Below w.heap.size w V0) := hb0
  clear hb0
  go_wp2_with fail
  refine (rt_any 12 (by omega) (by omega) 6 _).mono ?_
  rintro e V1 ⟨rfl, hb1⟩
  have HB1 : Hid (Below w.heap.size w V1) := HB0.out.trans (hb1.mono HB0.out.size)
  clear hb1
  go_wp2
  go_ret
  exact ⟨_, rfl, .inr ⟨V1.heap.size, rfl, heap_alloc_new _ _⟩, HB1.out.trans ((below1 V1 _).mono HB1.out.size)⟩
set_option maxHeartbeats 1000000 in
theorem rneeds_ip (f : Int) (h1 : 10 ≤ f) (h2 : f ≤ 19) (h3 : f ≠ 16) (h4 : f ≠ 17) (w : World) : Calls Tryd.prog 27 #[.int .i64 f] w fun e w' => ∃ v, e = .returned v ∧ NeedS w' 2 v ∧ Below w.heap.size w w' := by
  have n16 : (f == 16) = false := by simp; omega
  have n17 : (f == 17) = false := by simp; omega
  have n20 : (f == 20) = false := by simp; omega
  have n9 : 9 < f := by omega
  clear h3 h4
  go_enter Tryd.func27, Tryd.ntmps27
  go_wp2_with fail
  refine (rt_any 3 (by omega) (by omega) 2048 _).mono ?_
  rintro e V0 ⟨rfl, hb0⟩
  have HB0 : Hid (Below w.heap.size w V0) := hb0
  clear hb0
  go_wp2
  go_ret
  exact ⟨_, rfl, .inr ⟨V0.heap.size, rfl, heap_alloc_new _ _⟩, HB0.out.trans ((below1 V0 _).mono HB0.out.size)⟩
set_option maxHeartbeats 1000000 in
theorem rneeds_low (f : Int) (h1 : f < 5) (w : World) : Calls Tryd.prog 27 #[.int .i64 f] w fun e w' => ∃ v, e = .returned v ∧ NeedS w' 0 v ∧ Below w.heap.size w w' := by
  have n16 : (f == 16) = false := by simp; omega
  have n17 : (f == 17) = false := by simp; omega
  have n20 : (f == 20) = false := by simp; omega
  have n9 : f < 10 := by omega
  go_enter Tryd.func27, Tryd.ntmps27
  go_wp2
  go_ret
  exact ⟨_, rfl, .inl ⟨rfl, rfl⟩, Below.refl _ _⟩
set_option maxHeartbeats 1000000 in
theorem rneeds_high (f : Int) (h1 : 20 < f) (w : World) : Calls Tryd.prog 27 #[.int .i64 f] w fun e w' => ∃ v, e = .returned v ∧ NeedS w' 0 v ∧ Below w.heap.size w w' := by
  have n16 : (f == 16) = false := by simp; omega
  have n17 : (f == 17) = false := by simp; omega
  have n20 : (f == 20) = false := by simp; omega
  have n9 : 9 < f := by omega
  have n19 : 19 < f := by omega
  go_enter Tryd.func27, Tryd.ntmps27
  go_wp2
  go_ret
  exact ⟨_, rfl, .inl ⟨rfl, rfl⟩, Below.refl _ _⟩
theorem needS_four {W : World} {v : Value} (h : NeedS W 2 v) : NeedS W 4 v := h
theorem rneeds_any (f : Nat) (hf : 1 ≤ f) (hf2 : f ≤ 28) (w : World) : Calls Tryd.prog 27 #[.int .i64 f] w fun e w' => ∃ v, e = .returned v ∧ NeedS w' (fOf f) v ∧ Below w.heap.size w w' := by
  rcases (show f = 1 ∨ f = 2 ∨ f = 3 ∨ f = 4 ∨ f = 5 ∨ f = 6 ∨ f = 7 ∨ f = 8 ∨ f = 9 ∨ f = 10 ∨ f = 11 ∨ f = 12 ∨ f = 13 ∨ f = 14 ∨ f = 15 ∨ f = 16 ∨ f = 17 ∨ f = 18 ∨ f = 19 ∨ f = 20 ∨ f = 21 ∨ f = 22 ∨ f = 23 ∨ f = 24 ∨ f = 25 ∨ f = 26 ∨ f = 27 ∨ f = 28 from by omega) with rfl | rfl | rfl | rfl | rfl | rfl | rfl | rfl | rfl | rfl | rfl | rfl | rfl | rfl | rfl | rfl | rfl | rfl | rfl | rfl | rfl | rfl | rfl | rfl | rfl | rfl | rfl | rfl
  · exact rneeds_low 1 (by omega) w
  · exact rneeds_low 2 (by omega) w
  · exact rneeds_low 3 (by omega) w
  · exact rneeds_low 4 (by omega) w
  · exact rneeds_arp 5 (by omega) (by omega) w
  · exact rneeds_arp 6 (by omega) (by omega) w
  · exact rneeds_arp 7 (by omega) (by omega) w
  · exact rneeds_arp 8 (by omega) (by omega) w
  · exact rneeds_arp 9 (by omega) (by omega) w
  · exact rneeds_ip 10 (by omega) (by omega) (by omega) (by omega) w
  · exact rneeds_ip 11 (by omega) (by omega) (by omega) (by omega) w
  · exact rneeds_ip 12 (by omega) (by omega) (by omega) (by omega) w
  · exact rneeds_ip 13 (by omega) (by omega) (by omega) (by omega) w
  · exact rneeds_ip 14 (by omega) (by omega) (by omega) (by omega) w
  · exact rneeds_ip 15 (by omega) (by omega) (by omega) (by omega) w
  · exact rneeds_16 w
  · exact rneeds_17 w
  · exact rneeds_ip 18 (by omega) (by omega) (by omega) (by omega) w
  · exact rneeds_ip 19 (by omega) (by omega) (by omega) (by omega) w
  · exact rneeds_20 w
  · exact rneeds_high 21 (by omega) w
  · exact rneeds_high 22 (by omega) w
  · exact rneeds_high 23 (by omega) w
  · exact rneeds_high 24 (by omega) w
  · exact rneeds_high 25 (by omega) w
  · exact rneeds_high 26 (by omega) w
  · exact rneeds_high 27 (by omega) w
  · exact rneeds_high 28 (by omega) w
theorem rneeds_none (f : Int) (hf : f < 1 ∨ 28 < f) (w : World) : Calls Tryd.prog 27 #[.int .i64 f] w fun e w' => ∃ v, e = .returned v ∧ NeedS w' 0 v ∧ Below w.heap.size w w' := by
  rcases hf with h | h
  · exact rneeds_low f (by omega) w
  · exact rneeds_high f (by omega) w
end Go.Proofs.YtpinhnkceaephaaDoor
