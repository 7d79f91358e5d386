/- LpmNobody's walk: a range over a nil table's iterator. Conditions: as said. -/
import Derived.Test.YtlopnagajhjmmaaLM
import Derived.RangeFuncNested
import Derived.RangeFuncBound
import Derived.RangeFuncCalls
import Derived.RangeFuncLeaves
import Derived.Shelf.Abstract
import Derived.Shelf.RegionOpen
import Derived.WalkKit
import Derived.OwnWalkIn
import Derived.TacticsInMore
import Derived.LoopNIn
import Derived.LoopIn
namespace Go.Proofs.Ytlopnagajhjmmaa
open Go.RowKit Go.Shelf Tr
attribute [local go_sem] Oper.semAt_some
def encR (x : Ro) : Array Value := #[.agg (roC x)]
set_option maxRecDepth 20000 in
set_option maxHeartbeats 2000000 in
theorem all1_nil (n Bn n₀ : Nat) (w : World) (hc : w.cell? ⟨Bn, 0, none⟩ = some (.pointer none)) (hn : 1 ≤ n) : SeqStopsK Fence.wide n Try.prog 31 #[ptr Bn] encR (Below n₀) (fun xs => xs = []) (fun _ => False) 0 w := by
  intro l J Jx W hW hJ hJx hY h0
  have hlt := cell_lt hc
  have hc' : W.cell? ⟨Bn, 0, none⟩ = some (.pointer none) := (hW.cell (p := ⟨Bn, 0, none⟩) hlt).trans hc
  clear hY hJ hJx hW hc
  refine callsIn_of_wp Try.func31 rfl trivial ?_ rfl
  simp only [Try.ntmps31, List.size_toArray, List.length_cons, List.length_nil, Nat.reduceAdd, Nat.reduceSub, Array.replicate_succ, Array.replicate_zero, List.push_toArray, List.append_toArray, List.nil_append, List.cons_append]
  gi_wp2_with (first
    | (refine ⟨trivial, ?_⟩; gi_at_call 32; refine (callsIn_wide.2 (routes_nil _)).mono ?_; rintro e w9 ⟨rfl, rfl⟩; skip)
    | fail)
  gi_loopw [8] (fun i wr => i = .int .i64 0 ∧ J [] wr) (fun _ _ => 0)
  case atStart => exact ⟨rfl, h0⟩
  case round =>
    obtain ⟨rfl, hJ0⟩ := hrel
    gi_wp2
    go_end0
    exact ⟨⟨_, rfl⟩, .inl ⟨[], rfl, hJ0⟩⟩
set_option maxRecDepth 100000 in
set_option maxHeartbeats 4000000 in
theorem nobody_any (p : BitVec 32) (n : Int) (w : World) : Calls Try.prog 6 #[.int .u32 p.toNat, .int .i64 n] w fun e w' => e = .returned (.bool true) ∧ Below w.heap.size w w' := by
  have hfn := func_nil
  refine (callsIn_wide (n := 6)).1 ?_
  refine callsIn_of_wp_marks Try.func6 rfl trivial ?_ rfl
  simp only [Try.ntmps6, List.size_toArray, List.length_cons, List.length_nil, Nat.reduceAdd, Nat.reduceSub, Array.replicate_succ, Array.replicate_zero, List.push_toArray, List.append_toArray, List.nil_append, List.cons_append]
  gi_wp2_with (first
    | (refine ⟨trivial, ?_⟩; gi_at_call 9; refine (callsIn_wide.2 (lives_any _)).mono ?_; rintro e W1 ⟨rfl, b1⟩; skip)
    | (refine ⟨trivial, ?_⟩; gi_at_call 21; refine (callsIn_wide.2 (all_any none _)).mono ?_; rintro e w9 ⟨rfl, rfl⟩; skip)
    | (refine ⟨trivial, ?_⟩; gi_at_call 14; refine (callsIn_wide.2 (find_nil _ _)).mono ?_; rintro e W2 ⟨rfl, b2⟩; skip)
    | (refine ⟨trivial, ?_⟩; gi_at_call 16; refine (callsIn_wide.2 (get_nil _ _ _)).mono ?_; rintro e w9 ⟨rfl, rfl⟩; skip)
    | fail)
  have e1 : W1.heap[w.heap.size]? = some (.cells #[.bool false] 4 (0, 0)) := (b1.block _ (by simp)).trans (heap_alloc_new _ _)
  have s1 := b1.size
  have s2 := b2.size
  simp at s1 s2
  have e2 : W2.heap[w.heap.size]? = some (.cells #[.bool false] 4 (0, 0)) := (b2.block _ (by simp; omega)).trans ((heap_alloc_old _ _ (by omega)).trans e1)
  have B2 : Below w.heap.size w W2 := ((below1 w _).trans (b1.mono (by simp))).trans (((below1 W1 _).mono (by omega)).trans (b2.mono (by simp; omega)))
  obtain ⟨W3, hW3⟩ : ∃ W3, W3 = ((W2.alloc (.cells #[.int .u32 0, .int .i64 0, .int .i64 0] 37)).alloc (.cells #[.pointer none] 23)).alloc (.cells #[.pointer none] 23) := ⟨_, rfl⟩
  rw [← hW3]
  have s3 : W3.heap.size = W2.heap.size + 3 := by rw [hW3]; simp
  have e3 : W3.heap[w.heap.size]? = some (.cells #[.bool false] 4 (0, 0)) := by rw [hW3]; exact (heap_alloc_old _ _ (by simp; omega)).trans ((heap_alloc_old _ _ (by simp; omega)).trans ((heap_alloc_old _ _ (by omega)).trans e2))
  have B3 : Below w.heap.size w W3 := by rw [hW3]; exact B2.trans ((below3 W2 _ _ _).mono (by omega))
  have t3 : W3.cell? ⟨W2.heap.size + 1 + 1, 0, none⟩ = some (.pointer none) := by rw [hW3]; exact cell_row (three_last W2 _ _ _) 0
  clear hW3 e1 e2 b1 b2
  refine wpIn_rangeFunc_ownF (α := Ro) rfl (by omega) (gf := 31) (lb := #[ptr (W2.heap.size + 1 + 1)]) rfl trivial (enters_of Try.func31 (by kernel_rfl) rfl)
    (all1_nil (6 - 1) (W2.heap.size + 1 + 1) w.heap.size W3 t3 (by omega)) belowK_t (belowK_b (by omega)) (Below.refl _ _) (fun _ => rfl)
    (fun pre W => (W.cell? ⟨w.heap.size, 0, none⟩ = some (.bool false) ∧ W.frozen? ⟨w.heap.size, 0, none⟩ = false) ∧ Below w.heap.size w W)
    (fun _ _ _ => False)
    (OwnFrom.and (Own.from (fun s A B row hs hg hr => ⟨cell_kept hs.1 hg hr, (frozen_kept hs.1 hg hr).trans hs.2⟩) _) (ownFrom_below (Nat.le_refl _) (by omega)))
    (fun _ _ _ _ _ hs _ _ => hs)
    ⟨⟨cell_row e3 0, frozen_of_row W3 _ 0 _ _ e3⟩, B3⟩ ?a1 ?assign ?body ?done ?stop
  case assign =>
    intro l x W K hK
    gi_wp2
    exact hK
  case body =>
    rintro l pre x W _ h
    omega
  case done =>
    rintro D ys W hD rfl ⟨⟨hc, hf⟩, hB⟩ hK
    gi_wp2_with (first
      | (refine ⟨trivial, ?_⟩; gi_at_call 10; refine (callsIn_wide.2 (add_nil _ _ _ _)).mono ?_; rintro e w9 ⟨rfl, rfl⟩; skip)
      | (refine ⟨trivial, ?_⟩; gi_at_call 12; refine (callsIn_wide.2 (remove_nil _ _ _)).mono ?_; rintro e w9 ⟨rfl, rfl⟩; skip)
      | (refine ⟨trivial, ?_⟩; gi_at_call 22; refine (callsIn_wide.2 (len_nil _)).mono ?_; rintro e w9 ⟨rfl, rfl⟩; skip)
      | fail)
    have hK' := (KeepsOthers.setCell w9 ⟨w.heap.size, 0, none⟩ (.bool true)).same D _ hK rfl
    refine ⟨by simp, .inl ⟨_, _, rfl, run_takeDeferred hK', ?_⟩⟩
    have hc5 := cell_kept (World.cell?_setCell_same' w9 ⟨w.heap.size, 0, none⟩ (.bool true) (by rw [hc]; rfl)) (grownBy_putObj' _ D (.deferred none)) (fun r e => by cases e; exact ⟨_, hK', rfl⟩)
    refine ⟨.bool true, ?_, rfl, (hB.setCell (p := ⟨w.heap.size, 0, none⟩) (Nat.le_refl _) _).trans (belowK_b (w := w) (Nat.le_refl _) _ D _ _ (by omega) hK' rfl rfl)⟩
    simp [results, Try.f6, go_sem, hc5]
  case stop =>
    rintro D c pre W _ _ h _
    exact h.elim
end Go.Proofs.Ytlopnagajhjmmaa
