/- ClassNobody's walk. Conditions: the table of trailing zeros holds 4 at its fifteenth place; the State has 49 cells. -/
import Derived.Test.YtijeakggeichcaaGreatDoorQV
import Derived.Lib.Hide
namespace Go.Proofs.YtijeakggeichcaaGreatDoor
open Go.RowKit Go.Shelf
attribute [local go_sem] Oper.semAt_some
set_option maxRecDepth 100000 in
set_option maxHeartbeats 4000000 in
theorem nobody_any (p id : Int) (s : Value) (cs : Array Value) (w : World) (hcs : cs.size = 49) (htab : w.cell? ⟨2, 15, none⟩ = some (.int .u8 4)) :
    Calls Tryz.prog 5 #[.agg (ruC p s id), .agg cs] w fun e w' => e = .returned (.bool true) ∧ Below w.heap.size w w' := by
  have q1 := eql_seq
  have hgl : 2 < w.heap.size := cell_lt htab
  obtain ⟨V0, hV0⟩ : ∃ V0, V0 = ((w.alloc (.cells (ruC p s id) 29)).alloc (.cells cs 50)).alloc (.cells #[.bool false] 4) := ⟨_, rfl⟩
  have B0 : Hid (Below w.heap.size w V0) := by rw [hV0]; exact (below2 w _ _).alloc (by simp; omega) _
  have Z0 : Hid (V0.heap.size = w.heap.size + 3) := by show _ = _; rw [hV0]; simp
  have R0 : Hid (V0.heap[w.heap.size]? = some (.cells (ruC p s id) 29 (0, 0))) := by
    show _ = _; rw [hV0, heap_alloc_old _ _ (by simp; omega), heap_alloc_old _ _ (by simp)]; exact heap_alloc_new _ _
  have S0 : Hid (V0.heap[w.heap.size + 1]? = some (.cells cs 50 (0, 0))) := by
    show _ = _; rw [hV0, heap_alloc_old _ _ (by simp)]
    have := heap_alloc_new (w.alloc (.cells (ruC p s id) 29)) (.cells cs 50)
    simpa using this
  have D0 : Hid (V0.heap[w.heap.size + 1 + 1]? = some (.cells #[.bool false] 4 (0, 0))) := by
    show _ = _; rw [hV0]
    have := heap_alloc_new ((w.alloc (.cells (ruC p s id) 29)).alloc (.cells cs 50)) (.cells #[.bool false] 4)
    simpa using this
  have HLV : Hid _ := lives_any V0 ((B0.out.cell (p := ⟨2, 15, none⟩) hgl).trans htab)
  have HIS : Hid _ := info_size hcs
  clear htab hcs hgl
  refine (callsIn_wide (n := 6)).1 ?_
  refine callsIn_of_wp_marks Tryz.func5 rfl trivial ?_ rfl
  simp only [Tryz.ntmps5, List.size_toArray, List.length_cons, List.length_nil, Nat.reduceAdd, Nat.reduceSub, Array.replicate_succ, Array.replicate_zero, List.push_toArray, List.append_toArray, List.nil_append, List.cons_append]
  gi_wp2_with (first
    | (refine ⟨trivial, ?_⟩; gi_at_call 8; rw [← hV0]; refine (callsIn_wide.2 HLV.out).mono ?_; rintro e W1 ⟨rfl, b1⟩; skip)
    | fail)
  have B1 : Hid (Below w.heap.size w W1) := B0.out.trans (b1.mono B0.out.size)
  have Z1 : Hid (w.heap.size + 3 ≤ W1.heap.size) := by have := b1.size; have := Z0.out; show _ ≤ _; omega
  have R1 : Hid _ := (b1.block _ (lt_of_heap R0.out)).trans R0.out
  have S1 : Hid _ := (b1.block _ (lt_of_heap S0.out)).trans S0.out
  have D1 : Hid _ := (b1.block _ (lt_of_heap D0.out)).trans D0.out
  clear b1 HLV R0 S0 D0 B0 Z0 hV0
  refine ⟨trivial, ?_⟩
  gi_at_call 15
  refine (callsIn_wide.2 (all_any none _)).mono ?_
  rintro e W2 ⟨rfl, hw2⟩
  have b2 : Below W1.heap.size W1 W2 := by rw [hw2]; exact below1 _ _
  have B2 : Hid (Below w.heap.size w W2) := B1.out.trans (b2.mono B1.out.size)
  have Z2 : Hid (w.heap.size + 3 ≤ W2.heap.size) := by have := b2.size; have := Z1.out; show _ ≤ _; omega
  have R2 : Hid _ := (b2.block _ (lt_of_heap R1.out)).trans R1.out
  have S2 : Hid _ := (b2.block _ (lt_of_heap S1.out)).trans S1.out
  have D2 : Hid _ := (b2.block _ (lt_of_heap D1.out)).trans D1.out
  clear b2 hw2 R1 S1 D1 B1 Z1
  gi_wp2_with (first
    | refine wpListIn_load_row (by rfl) 50 _ rfl (w.heap.size + 1) rfl 50 cs (0, 0) _ S2.out Tryz.underlying50 rfl HIS.out ?_
    | (refine ⟨trivial, ?_⟩; gi_at_call 10; refine (callsIn_wide.2 (find_nil cs W2)).mono ?_; rintro e W3 ⟨rfl, b3⟩; skip)
    | fail)
  have b3' : Below W2.heap.size W2 (W3.alloc (.cells ruZ 29)) := b3.alloc b3.size _
  have B3 : Hid (Below w.heap.size w (W3.alloc (.cells ruZ 29))) := B2.out.trans (b3'.mono B2.out.size)
  have Z3 : Hid (w.heap.size + 3 ≤ W3.heap.size) := by have := b3.size; have := Z2.out; show _ ≤ _; omega
  have R3 : Hid _ := (b3'.block _ (lt_of_heap R2.out)).trans R2.out
  have D3 : Hid _ := (b3'.block _ (lt_of_heap D2.out)).trans D2.out
  have X3 : Hid _ := heap_alloc_new W3 (.cells ruZ 29)
  clear b3 b3' R2 S2 D2 B2 Z2
  obtain ⟨g3, hg3⟩ : ∃ g3, W3.heap.size = g3 := ⟨_, rfl⟩
  rw [hg3] at X3 Z3
  obtain ⟨V3, hV3⟩ : ∃ V3, V3 = W3.alloc (.cells ruZ 29) := ⟨_, rfl⟩
  rw [← hV3] at B3 R3 D3 X3
  refine ⟨trivial, ?_⟩
  gi_at_call 15
  rw [hg3, ← hV3]
  refine (callsIn_wide.2 (all_any none V3)).mono ?_
  rintro e W4 ⟨rfl, hw4⟩
  have b4 : Below V3.heap.size V3 W4 := by rw [hw4]; exact below1 _ _
  have B4 : Hid (Below w.heap.size w W4) := B3.out.trans (b4.mono B3.out.size)
  have R4 : Hid _ := (b4.block _ (lt_of_heap R3.out)).trans R3.out
  have D4 : Hid _ := (b4.block _ (lt_of_heap D3.out)).trans D3.out
  have X4 : Hid _ := (b4.block _ (lt_of_heap X3.out)).trans X3.out
  clear b4 hw4 R3 D3 X3 B3 hV3
  gi_wp2_with fail
  refine ⟨trivial, ?_⟩
  gi_at_call 15
  refine (callsIn_wide.2 (all_any none W4)).mono ?_
  rintro e W5 ⟨rfl, hw5⟩
  have b5 : Below W4.heap.size W4 W5 := by rw [hw5]; exact below1 _ _
  have B5 : Hid (Below w.heap.size w W5) := B4.out.trans (b5.mono B4.out.size)
  have R5 : Hid _ := (b5.block _ (lt_of_heap R4.out)).trans R4.out
  have D5 : Hid _ := (b5.block _ (lt_of_heap D4.out)).trans D4.out
  have X5 : Hid _ := (b5.block _ (lt_of_heap X4.out)).trans X4.out
  have t5 : W5.cell? ⟨W4.heap.size, 0, none⟩ = some (.pointer none) := by rw [hw5]; exact cell_row (heap_alloc_new W4 _) 0
  clear b5 hw5 R4 D4 X4 B4
  gi_wp2_with fail
  refine wpIn_rangeFunc_ownF (α := Array Value) rfl (by omega) (gf := 30) (lb := #[.pointer (some ⟨W4.heap.size, 0, none⟩)]) rfl trivial (enters_of Tryz.func30 (by kernel_rfl) rfl)
    (all1_nil (6 - 1) W4.heap.size W5.heap.size W5 t5 (by omega)) belowK_t (belowK_b (Nat.le_refl _)) (Below.refl _ _) (fun _ => rfl)
    (fun pre W => Below W5.heap.size W5 W)
    (fun _ _ _ => False)
    (ownFrom_below (Nat.le_refl _) (Nat.le_refl _))
    (fun _ _ _ _ _ hs _ _ => hs)
    (Below.refl _ _) ?a1 ?assign ?body ?done ?stop
  case assign =>
    intro l x W K hK
    gi_wp2
    exact hK
  case body =>
    rintro l pre x W _ h
    omega
  case stop =>
    rintro D c pre W _ _ h _
    exact h.elim
  case done =>
    rintro D ys W hD rfl hB hK
    have B6 : Hid (Below w.heap.size w W) := B5.out.trans (hB.mono B5.out.size)
    have R6 : Hid _ := (hB.block _ (lt_of_heap R5.out)).trans R5.out
    have D6 : Hid _ := (hB.block _ (lt_of_heap D5.out)).trans D5.out
    have X6 : Hid _ := (hB.block _ (lt_of_heap X5.out)).trans X5.out
    have HD : Hid (w.heap.size + 1 + 1 < D) := by have := lt_of_heap D5.out; show _ < _; omega
    have HK : Hid _ := hK
    clear hB hK R5 D5 X5 B5 t5 hD
    gi_wp2_with (first
      | refine wpListIn_load_row (by rfl) 29 _ rfl g3 rfl 29 ruZ (0, 0) _ X6.out Tryz.underlying29 rfl size3r ?_
      | refine wpListIn_build_as (by rfl) 29 _ rfl ruZ (by rw [List.map_toArray]; exact build_rule0) ?_
      | fail)
    refine ⟨trivial, ?_⟩
    gi_at_call 11
    refine (callsIn_wide.2 (same_zero _)).mono ?_
    rintro e W7 ⟨rfl, b7⟩
    have B7 : Hid (Below w.heap.size w W7) := B6.out.trans (b7.mono B6.out.size)
    have R7 : Hid _ := (b7.block _ (lt_of_heap R6.out)).trans R6.out
    have D7 : Hid _ := (b7.block _ (lt_of_heap D6.out)).trans D6.out
    have K7 : Hid _ := (b7.block _ (lt_of_heap HK.out)).trans HK.out
    clear b7 R6 D6 X6 HK B6
    gi_wp2_with (first
      | refine wpListIn_load_row (by rfl) 29 _ rfl w.heap.size rfl 29 (ruC p s id) (0, 0) _ R7.out Tryz.underlying29 rfl size3r ?_
      | fail)
    refine ⟨trivial, ?_⟩
    gi_at_call 9
    refine (callsIn_wide.2 (add_nil p id s _)).mono ?_
    rintro e W8 ⟨rfl, b8⟩
    have B8 : Hid (Below w.heap.size w W8) := B7.out.trans (b8.mono B7.out.size)
    have r8 : W8.cell? ⟨w.heap.size, 2, none⟩ = some (.int .i64 id) := cell_row ((b8.block _ (lt_of_heap R7.out)).trans R7.out) 2
    have D8 : Hid _ := (b8.block _ (lt_of_heap D7.out)).trans D7.out
    have K8 : Hid _ := (b8.block _ (lt_of_heap K7.out)).trans K7.out
    have c8 : W8.cell? ⟨w.heap.size + 1 + 1, 0, none⟩ = some (.bool false) := cell_row D8.out 0
    have f8 : W8.frozen? ⟨w.heap.size + 1 + 1, 0, none⟩ = false := frozen_of_row W8 _ 0 _ _ D8.out
    clear b8 R7 D7 K7 B7 D8
    gi_wp2_with (first
      | (refine ⟨trivial, ?_⟩; gi_at_call 14; refine (callsIn_wide.2 (remove_nil _ _)).mono ?_; rintro e w9 ⟨rfl, rfl⟩; skip)
      | (refine ⟨trivial, ?_⟩; gi_at_call 12; refine (callsIn_wide.2 (len_nil _)).mono ?_; rintro e w9 ⟨rfl, rfl⟩; skip)
      | (refine ⟨trivial, ?_⟩; gi_at_call 16; refine (callsIn_wide.2 (tuples_nil _)).mono ?_; rintro e w9 ⟨rfl, rfl⟩; skip)
      | (refine ⟨trivial, ?_⟩; gi_at_call 13; refine (callsIn_wide.2 (shadowed_nil _)).mono ?_; rintro e w9 ⟨rfl, rfl⟩; skip)
      | fail)
    have hK' := (KeepsOthers.setCell w9 ⟨w.heap.size + 1 + 1, 0, none⟩ (.bool true)).same D _ K8.out rfl
    refine ⟨by simp, .inl ⟨_, _, rfl, run_takeDeferred hK', ?_⟩⟩
    have hc5 := cell_kept (World.cell?_setCell_same' w9 ⟨w.heap.size + 1 + 1, 0, none⟩ (.bool true) (by rw [c8]; rfl)) (grownBy_putObj' _ D (.deferred none)) (fun r e => by cases e; exact ⟨_, hK', rfl⟩)
    have hDw : w.heap.size ≤ D := by have := HD.out; omega
    refine ⟨.bool true, ?_, rfl, (B8.out.setCell (p := ⟨w.heap.size + 1 + 1, 0, none⟩) (by show w.heap.size ≤ w.heap.size + 1 + 1; omega) _).trans (belowK_b (w := w) (Nat.le_refl _) _ D _ _ hDw hK' rfl rfl)⟩
    simp [results, Tryz.f5, go_sem, hc5]
end Go.Proofs.YtijeakggeichcaaGreatDoor
