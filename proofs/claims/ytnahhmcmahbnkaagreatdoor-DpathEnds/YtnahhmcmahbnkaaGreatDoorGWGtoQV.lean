/- flow.Copy of a flow without terms. Conditions: what becomes of its actions is given. -/
import Derived.Test.YtnahhmcmahbnkaaGreatDoorGWFtoFR
import Derived.Test.YtnahhmcmahbnkaaGreatDoorGQRtoWB
import Derived.OrdersHeld
import Derived.Deep.DeepMust
import Derived.Lib.Hide
import Derived.Test.YtnahhmcmahbnkaaGreatDoorMC
import Derived.RangeFuncNested
import Derived.RangeFuncBound
import Derived.RangeFuncCalls
import Derived.RangeFuncLeaves
import Derived.Shelf.Abstract
import Derived.Shelf.RegionOpen
import Derived.WalkKit
import Derived.OwnWalkIn
import Derived.BigFrameIn
import Derived.TacticsInMore
import Derived.LoopNIn
import Derived.LoopIn
namespace Go.Proofs.YtnahhmcmahbnkaaGreatDoor
open Go.RowKit
section
variable {P : Program} {md : Region.Mode} {ops : Array Oper} {Q : Exit → Act → World → Prop} {S : World → Prop} {z : Nat}
/-- Whatever order is picked; S holds behind every operation but number z. -/
def HeldBut (P : Program) (md : Region.Mode) (ops : Array Oper) (Q : Exit → Act → World → Prop) (S : World → Prop) (z : Nat) : Nat → Array Bool → Act → World → Prop
  | 0, L, a, w => Region.ready md ops L = [] ∧ Q .normal a w
  | n + 1, L, a, w => (Region.ready md ops L = [] → Q .normal a w) ∧ ∀ i ∈ Region.ready md ops L, wpOp P ops Q i (fun a' w' => (i = z ∨ S w') ∧ HeldBut P md ops Q S z n (L.setIfInBounds i true) a' w') a w
theorem HeldBut.any : ∀ {n : Nat} {L : Array Bool} {a : Act} {w : World}, HeldBut P md ops Q S z n L a w → wpAny P md ops Q n L a w
  | 0, _, _, _, h => h
  | _ + 1, _, _, _, ⟨h1, h2⟩ => ⟨h1, fun i hi => wpOp_mono (fun _ _ h => h.2.any) (h2 i hi)⟩
/-- Number z waits for number i. -/
def waitsFor (md : Region.Mode) (ops : Array Oper) (z i : Nat) : Bool := match ops[z]? with
  | some o => o.after.any fun e => Region.binds md e && e.on == i
  | none => true
theorem waits_ready {i j : Nat} {L : Array Bool} (hz : waitsFor md ops z i = true) (hi : i ∈ Region.ready md ops L) (hj : j ∈ Region.ready md ops L) : j ≠ z := by
  rintro rfl
  obtain ⟨_, o, ho, hall⟩ := mem_ready.1 hj
  unfold waitsFor at hz
  rw [ho] at hz
  obtain ⟨e, he, hb⟩ := Array.any_eq_true'.1 hz
  simp only [Bool.and_eq_true, beq_iff_eq] at hb
  have h1 := hall e he hb.1
  have h0 := (mem_ready.1 hi).1
  rw [hb.2] at h1
  rcases Nat.lt_or_ge i L.size with g | g
  · simp [g] at h0 h1
    rw [h0] at h1; cases h1
  · simp [Array.getElem?_eq_none g] at h1
theorem HeldBut.first {i : Nat} {o : Oper} {v : Value} (hi : ops[i]? = some o) (hsel : ∀ (j : Nat) (o : Oper) cs b, ops[j]? = some o → o.op ≠ .select cs b) (hQ : ∀ c a w, Q (.panic c) (a.put o.dst v) w → Q (.panic c) a w) (hz : waitsFor md ops z i = true) :
    ∀ (n : Nat) (L : Array Bool) (a : Act) (w : World), (∀ j oj, ops[j]? = some oj → j ≠ i → L.getD j true = false → (∀ e ∈ oj.after, Region.binds md e = true → e.on ≠ i) → o.apart ops oj = true) →
      i ∈ Region.ready md ops L → YieldsIf P ops S o v a → S w → HeldBut P md ops Q S z n (L.setIfInBounds i true) (a.put o.dst v) w → HeldBut P md ops Q S z (n + 1) L a w
  | 0, L, a, w, _, hr, hy, hS, H => by
    refine ⟨fun h => absurd (h ▸ hr) (by simp), fun j hj => ?_⟩
    by_cases e : j = i
    · subst e
      exact hy.wpOp hi hS ⟨.inr hS, H⟩
    · exact absurd (H.1 ▸ ready_mono hj e) (by simp)
  | n + 1, L, a, w, hf, hr, hy, hS, H => by
    refine ⟨fun h => absurd (h ▸ hr) (by simp), fun j hj => ?_⟩
    by_cases e : j = i
    · subst e
      exact hy.wpOp hi hS ⟨.inr hS, H⟩
    · have hjz := waits_ready hz hr hj
      obtain ⟨hun, oj, hoj, hall⟩ := mem_ready.1 hj
      have hno : ∀ e ∈ oj.after, Region.binds md e = true → e.on ≠ i := by
        intro e he hb hon
        have h1 := hall e he hb
        have h0 := (mem_ready.1 hr).1
        rw [hon] at h1
        rcases Nat.lt_or_ge i L.size with g | g
        · simp [g] at h0 h1
          rw [h0] at h1; cases h1
        · simp [Array.getElem?_eq_none g] at h1
      have st := wpOp_putIf hoj (hf j oj hoj e hun hno) (fun cs b => hsel i o cs b hi) (fun cs b => hsel j oj cs b hoj) hQ hy (H.2 j (ready_mono hj e))
      refine wpOp_mono (fun a' w' h => ?_) st
      have hS' : S w' := h.2.1.resolve_left hjz
      refine ⟨.inr hS', HeldBut.first hi hsel hQ hz n _ a' w' ?_ (ready_mono hr (Ne.symm e)) h.1 hS' ?_⟩
      · intro k ok hk hki hun' hno'
        refine hf k ok hk hki ?_ hno'
        by_cases hjk : j = k
        · subst hjk; exact hun
        · rwa [getD_set_ne true hjk] at hun'
      · rw [Array.setIfInBounds_comm _ _ e]
        exact h.2.2
theorem HeldBut.take {i : Nat} {o : Oper} {v : Value} {n : Nat} {L : Array Bool} {a : Act} {w : World} (hi : ops[i]? = some o) (hs : Region.noSelect ops = true) (hf : Region.free md ops L i = true) (hr : (Region.ready md ops L).contains i = true) (hz : waitsFor md ops z i = true)
    (hQ : ∀ c a w, Q (.panic c) (a.put o.dst v) w → Q (.panic c) a w) (hy : YieldsIf P ops S o v a) (hS : S w) (h : HeldBut P md ops Q S z n (L.setIfInBounds i true) (a.put o.dst v) w) : HeldBut P md ops Q S z (n + 1) L a w :=
  HeldBut.first hi (Region.noSelect_spec hs) hQ hz n L a w (Region.free_spec hi hf) (by simpa using hr) hy hS h
/-- The ones that may come up, one by one. -/
def AllBut (P : Program) (md : Region.Mode) (ops : Array Oper) (Q : Exit → Act → World → Prop) (S : World → Prop) (z n : Nat) (L : Array Bool) (a : Act) (w : World) (rs : List Nat) : Prop := ∀ i ∈ rs, wpOp P ops Q i (fun a' w' => (i = z ∨ S w') ∧ HeldBut P md ops Q S z n (L.setIfInBounds i true) a' w') a w
theorem AllBut.nil {n : Nat} {L : Array Bool} {a : Act} {w : World} : AllBut P md ops Q S z n L a w [] := fun _ h => by cases h
theorem AllBut.cons {n : Nat} {L : Array Bool} {a : Act} {w : World} {i : Nat} {o : Oper} {rs : List Nat} (ho : ops[i]? = some o)
    (h : ∀ K' : Act → World → Prop, Shut (∀ a w, (i = z ∨ S w) → HeldBut P md ops Q S z n (L.setIfInBounds i true) a w → K' a w) → if Region.wanted o (yielded ops a.tmps) = true then Oper.wp P o a w K' Q else K' (a.put o.dst undef) w)
    (hs : AllBut P md ops Q S z n L a w rs) : AllBut P md ops Q S z n L a w (i :: rs) := fun j hj => by
  rcases List.mem_cons.1 hj with rfl | hj
  · exact wpOp_step ho (fun K' hK => h K' (fun a w hS hW => hK a w ⟨hS, hW⟩))
  · exact hs j hj
theorem HeldBut.ready {rs : List Nat} {n : Nat} {L : Array Bool} {a : Act} {w : World} (hr : Region.ready md ops L = rs) (hne : rs ≠ []) (h : AllBut P md ops Q S z n L a w rs) : HeldBut P md ops Q S z (n + 1) L a w :=
  ⟨fun h0 => absurd (hr ▸ h0) hne, hr ▸ h⟩
theorem HeldBut.done {L : Array Bool} {a : Act} {w : World} (hr : Region.ready md ops L = []) (h : Q .normal a w) : ∀ n, HeldBut P md ops Q S z n L a w
  | 0 => ⟨hr, h⟩
  | _ + 1 => ⟨fun _ => h, by rw [hr]; simp⟩
theorem region_but {id : Nat} {a : Act} {w : World} (S : World → Prop) (z : Nat) (hm : P.follows .mixedOrders = true) (h : HeldBut P .any ops Q S z ops.size (Array.replicate ops.size false) a w.drew) : (Code.region id ops true).wp P Q a w := wp_region_any hm h.any
end

theorem cloneterms_nil (c : Nat) (w : World) : Calls Tryz.prog 40 #[.slice none 0 c] w fun e w' => e = .returned (.slice none 0 0) ∧ w' = w := by
  have hnil : ∀ W : World, (binOp .eql 50 (.slice none 0 c) (.slice none 0 0)).run Tryz.prog W = .ok (.bool true) W := fun W => Lib.run_eql_slice_nil W _ _ none 0 c 0 0 Tryz.underlying50
  go_enter Tryz.func40, Tryz.ntmps40
  go_wp2_with fail
  go_ret
  exact ⟨rfl, rfl⟩
abbrev flC (t p : Int) (ts ac : Value) : Array Value := #[.int .i64 t, .int .i64 p, ts, ac]
theorem size4 : (Tryz.prog.info? 52).map (·.size) = some 4 := by kernel_rfl
set_option linter.unusedSimpArgs false in
set_option maxRecDepth 100000 in
set_option maxHeartbeats 4000000 in
theorem copy_any (t p : Int) (a : Option Addr) (m k : Nat) (w : World) (R : Nat → World → Value → Prop) (hR : Ac.Lasts R)
    (h : ∀ W, Below w.heap.size w W → Calls Tryz.prog 41 #[.slice a m k] W fun e w' => ∃ a' m' k', e = .returned (.slice a' m' k') ∧ R W.heap.size w' (.slice a' m' k') ∧ Below W.heap.size W w') :
    Calls Tryz.prog 23 #[.agg (flC t p (.slice none 0 0) (.slice a m k))] w fun e w' => ∃ a' m' k' B, w.heap.size + 2 ≤ B ∧ e = .returned (.agg (flC t p (.slice none 0 0) (.slice a' m' k'))) ∧ R B w' (.slice a' m' k') ∧ Below w.heap.size w w' := by
  have HH : Hid _ := h
  have HR : Hid (Ac.Lasts R) := hR
  obtain ⟨V, hV⟩ : ∃ V, V = (w.alloc (.cells (flC t p (.slice none 0 0) (.slice a m k)) 52)).alloc (.cells #[.int .i64 0, .int .i64 0, .slice none 0 0, .slice none 0 0] 52) := ⟨_, rfl⟩
  have B0 : Hid (Below w.heap.size w V) := by rw [hV]; exact below2 _ _ _
  have R0 : Hid (V.heap[w.heap.size]? = some (.cells (flC t p (.slice none 0 0) (.slice a m k)) 52 (0, 0))) := by rw [hV]; exact two_first _ _ _
  have Z0 : Hid (V.heap[w.heap.size + 1]? = some (.cells #[.int .i64 0, .int .i64 0, .slice none 0 0, .slice none 0 0] 52 (0, 0))) := by rw [hV]; exact two_last _ _ _
  have KC : Hid (∀ W : World, W.heap[w.heap.size]? = some (.cells (flC t p (.slice none 0 0) (.slice a m k)) 52 (0, 0)) → W.cell? ⟨w.heap.size, 2, none⟩ = some (.slice none 0 0) ∧ W.cell? ⟨w.heap.size, 3, none⟩ = some (.slice a m k)) := fun W h => ⟨cell_row h 2, cell_row h 3⟩
  clear h hR
  go_enter Tryz.func23, Tryz.ntmps23
  go_wp2_with fail
  rw [← hV]
  clear hV
  refine region_but (fun W : World => W.cell? ⟨w.heap.size, 2, none⟩ = some (.slice none 0 0) ∧ W.cell? ⟨w.heap.size, 3, none⟩ = some (.slice a m k)) 9 (by kernel_rfl) ?_
  have hHeld := KC.out V.drew R0.out
  have B1 : Hid (Below w.heap.size w V.drew) := B0.out.drew
  have R1 : Hid (V.drew.heap[w.heap.size]? = some (.cells (flC t p (.slice none 0 0) (.slice a m k)) 52 (0, 0))) := R0.out
  have Z1 : Hid (V.drew.heap[w.heap.size + 1]? = some (.cells #[.int .i64 0, .int .i64 0, .slice none 0 0, .slice none 0 0] 52 (0, 0))) := Z0.out
  clear B0 R0 Z0
  obtain ⟨V1, hV1⟩ : ∃ V1, V1 = V.drew := ⟨_, rfl⟩
  rw [← hV1] at hHeld B1 R1 Z1 ⊢
  clear hV1
  refine HeldBut.take (i := 0) (v := ?_) rfl (by kernel_rfl) (by kernel_rfl) (by kernel_rfl) (by kernel_rfl) (fun _ _ _ h => h) (Or.inl ⟨by rfl, ?_⟩) (by assumption) ?_
  rotate_left
  · (intro w hSw; (try dsimp only at hSw); go_simp; try with_reducible rfl)
  try simp only [List.getElem_toArray, List.getElem_cons_zero, List.getElem_cons_succ, Act.put, List.setIfInBounds_toArray, List.set_cons_zero, List.set_cons_succ]
  refine HeldBut.take (i := 1) (v := ?_) rfl (by kernel_rfl) (by kernel_rfl) (by kernel_rfl) (by kernel_rfl) (fun _ _ _ h => h) (Or.inl ⟨by rfl, ?_⟩) (by assumption) ?_
  rotate_left
  · (intro w hSw; (try dsimp only at hSw); go_simp; try with_reducible rfl)
  try simp only [List.getElem_toArray, List.getElem_cons_zero, List.getElem_cons_succ, Act.put, List.setIfInBounds_toArray, List.set_cons_zero, List.set_cons_succ]
  refine HeldBut.take (i := 3) (v := ?_) rfl (by kernel_rfl) (by kernel_rfl) (by kernel_rfl) (by kernel_rfl) (fun _ _ _ h => h) (Or.inl ⟨by rfl, ?_⟩) (by assumption) ?_
  rotate_left
  · (intro w hSw; (try dsimp only at hSw); go_simp; try with_reducible rfl)
  try simp only [List.getElem_toArray, List.getElem_cons_zero, List.getElem_cons_succ, Act.put, List.setIfInBounds_toArray, List.set_cons_zero, List.set_cons_succ]
  refine HeldBut.take (i := 4) (v := ?_) rfl (by kernel_rfl) (by kernel_rfl) (by kernel_rfl) (by kernel_rfl) (fun _ _ _ h => h) (Or.inl ⟨by rfl, ?_⟩) (by assumption) ?_
  rotate_left
  · (intro w hSw; (try dsimp only at hSw); go_simp; try with_reducible rfl)
  try simp only [List.getElem_toArray, List.getElem_cons_zero, List.getElem_cons_succ, Act.put, List.setIfInBounds_toArray, List.set_cons_zero, List.set_cons_succ]
  refine HeldBut.ready (rs := [2]) (by kernel_rfl) (by simp) ?_
  refine AllBut.cons (o := _) rfl (fun K hK => ?_) AllBut.nil
  go_simp
  refine Calls.mono (cloneterms_nil 0 V1) ?_
  rintro e V2 ⟨rfl, hv2⟩
  rw [hv2]
  clear hv2
  go_wp2_with fail
  refine hK.out _ _ (.inr hHeld) ?_
  clear hK K
  try simp only [List.getElem_toArray, List.getElem_cons_zero, List.getElem_cons_succ, Act.put, List.setIfInBounds_toArray, List.set_cons_zero, List.set_cons_succ]
  refine HeldBut.take (i := 6) (v := ?_) rfl (by kernel_rfl) (by kernel_rfl) (by kernel_rfl) (by kernel_rfl) (fun _ _ _ h => h) (Or.inl ⟨by rfl, ?_⟩) (by assumption) ?_
  rotate_left
  · (intro w hSw; (try dsimp only at hSw); go_simp; try with_reducible rfl)
  try simp only [List.getElem_toArray, List.getElem_cons_zero, List.getElem_cons_succ, Act.put, List.setIfInBounds_toArray, List.set_cons_zero, List.set_cons_succ]
  refine HeldBut.ready (rs := [5]) (by kernel_rfl) (by simp) ?_
  refine AllBut.cons (o := _) rfl (fun K hK => ?_) AllBut.nil
  go_simp
  refine Calls.mono (HH.out V1 B1.out) ?_
  rintro e V3 ⟨xa, xm, xk, rfl, hr3, hb3⟩
  have HR3 : Hid _ := hr3
  have B3 : Hid (Below w.heap.size w V3) := B1.out.trans (hb3.mono B1.out.size)
  have R3 : Hid _ := (hb3.block _ (lt_of_heap R1.out)).trans R1.out
  have Z3 : Hid _ := (hb3.block _ (lt_of_heap Z1.out)).trans Z1.out
  have N1 : Hid (w.heap.size + 2 ≤ V1.heap.size) := lt_of_heap Z1.out
  clear hr3 hb3 B1 R1 Z1 hHeld
  go_wp2_with fail
  have hHeld := KC.out V3 R3.out
  refine hK.out _ _ (.inr hHeld) ?_
  clear hK K
  try simp only [List.getElem_toArray, List.getElem_cons_zero, List.getElem_cons_succ, Act.put, List.setIfInBounds_toArray, List.set_cons_zero, List.set_cons_succ]
  refine HeldBut.ready (rs := [7]) (by kernel_rfl) (by simp) ?_
  refine AllBut.cons (o := _) rfl (fun K hK => ?_) AllBut.nil
  have c2 := hHeld.1
  have f2 : V3.frozen? ⟨w.heap.size, 2, none⟩ = false := frozen_of_row V3 w.heap.size 2 _ _ R3.out
  go_simp
  obtain ⟨V4, hV4⟩ : ∃ V4, V4 = V3.setCell ⟨w.heap.size, 2, none⟩ (.slice none 0 0) := ⟨_, rfl⟩
  rw [← hV4]
  have R4 : Hid (V4.heap[w.heap.size]? = some (.cells (flC t p (.slice none 0 0) (.slice a m k)) 52 (0, 0))) := by show _ = _; rw [hV4]; exact row_setCell R3.out 2 _
  have F4 : Hid (∀ g, g ≠ w.heap.size → V4.heap[g]? = V3.heap[g]?) := fun g hg => by rw [hV4]; exact Below.heap_setCell _ _ _ _ (by exact hg)
  have N4 : Hid (V4.heap.size = V3.heap.size ∧ V4.os = V3.os ∧ V4.tape = V3.tape ∧ V4.output = V3.output) := by rw [hV4]; exact ⟨by simp, rfl, rfl, rfl⟩
  clear hV4 hHeld c2 f2
  have hHeld := KC.out V4 R4.out
  refine hK.out _ _ (.inr hHeld) ?_
  clear hK K
  try simp only [List.getElem_toArray, List.getElem_cons_zero, List.getElem_cons_succ, Act.put, List.setIfInBounds_toArray, List.set_cons_zero, List.set_cons_succ]
  refine HeldBut.take (i := 8) (v := ?_) rfl (by kernel_rfl) (by kernel_rfl) (by kernel_rfl) (by kernel_rfl) (fun _ _ _ h => h) (Or.inl ⟨by rfl, ?_⟩) (by assumption) ?_
  rotate_left
  · (intro w hSw; (try dsimp only at hSw); go_simp; try with_reducible rfl)
  try simp only [List.getElem_toArray, List.getElem_cons_zero, List.getElem_cons_succ, Act.put, List.setIfInBounds_toArray, List.set_cons_zero, List.set_cons_succ]
  refine HeldBut.ready (rs := [9]) (by kernel_rfl) (by simp) ?_
  refine AllBut.cons (o := _) rfl (fun K hK => ?_) AllBut.nil
  have c3 := hHeld.2
  have f3 : V4.frozen? ⟨w.heap.size, 3, none⟩ = false := frozen_of_row V4 w.heap.size 3 _ _ R4.out
  go_simp
  obtain ⟨V5, hV5⟩ : ∃ V5, V5 = V4.setCell ⟨w.heap.size, 3, none⟩ (.slice xa xm xk) := ⟨_, rfl⟩
  rw [← hV5]
  have R5 : Hid (V5.heap[w.heap.size]? = some (.cells (flC t p (.slice none 0 0) (.slice xa xm xk)) 52 (0, 0))) := by show _ = _; rw [hV5]; exact row_setCell R4.out 3 _
  have F5 : Hid (∀ g, g ≠ w.heap.size → V5.heap[g]? = V3.heap[g]?) := fun g hg => by rw [hV5]; exact (Below.heap_setCell _ _ _ _ (by exact hg)).trans (F4.out g hg)
  have N5 : Hid (V5.heap.size = V3.heap.size ∧ V5.os = V3.os ∧ V5.tape = V3.tape ∧ V5.output = V3.output) := by
    rw [hV5]; obtain ⟨n1, n2, n3, n4⟩ := N4.out; exact ⟨by simp [n1], n2, n3, n4⟩
  have Z5 : Hid _ := (F5.out (w.heap.size + 1) (by omega)).trans Z3.out
  clear hV5 hHeld c3 f3 R4 F4 N4 R3 Z3
  refine hK.out _ _ (.inl rfl) ?_
  clear hK K
  try simp only [List.getElem_toArray, List.getElem_cons_zero, List.getElem_cons_succ, Act.put, List.setIfInBounds_toArray, List.set_cons_zero, List.set_cons_succ]
  refine HeldBut.done (by kernel_rfl) ?_ _
  go_wp2_with (first
    | refine wpList_load_row rfl 52 _ rfl w.heap.size rfl 52 (flC t p (.slice none 0 0) (.slice xa xm xk)) (0, 0) _ R5.out Tryz.underlying52 rfl size4 ?_
    | refine wpList_store_row rfl 52 _ _ rfl (w.heap.size + 1) _ (flC t p (.slice none 0 0) (.slice xa xm xk)) 52 rfl rfl Z5.out size4 rfl (by simp [Value.oneCell']) ?_
    | fail)
  intro V6 r6 k6 z6 b6
  have HF : Hid (∃ B, w.heap.size + 2 ≤ B ∧ R B V6 (.slice xa xm xk) ∧ Below w.heap.size w V6) := by
    obtain ⟨n1, n2, n3, n4⟩ := N5.out
    have h1 := N1.out
    refine ⟨V1.heap.size, N1.out, HR.out _ V3 V6 _ HR3.out (by omega) (fun q hq _ => ?_), B3.out.trans ⟨b6.os.trans n2, b6.tape.trans n3, b6.output.trans n4, by omega, fun q hq => ?_⟩⟩
    · rw [k6 q (by omega)]; exact F5.out q (by omega)
    · rw [k6 q (by omega)]; exact F5.out q (by omega)
  have R6 : Hid _ := r6
  clear r6 k6 z6 b6 R5 F5 N5 Z5 HR3 B3 N1
  go_wp2
  obtain ⟨B, h1, h2, h3⟩ := HF.out
  exact bodyPost_ret (results_cell_row (p := 2) (ty := 52) rfl _ _ (w.heap.size + 1) 52 (flC t p (.slice none 0 0) (.slice xa xm xk)) (0, 0) _ rfl R6.out Tryz.underlying52 rfl size4) rfl ⟨xa, xm, xk, B, h1, rfl, h2, h3⟩
end Go.Proofs.YtnahhmcmahbnkaaGreatDoor
/- dpath.check of a flow that may be. Conditions: as said. -/
namespace Go.Proofs.YtnahhmcmahbnkaaGreatDoor
open Go.RowKit
set_option maxRecDepth 20000 in
set_option maxHeartbeats 1000000 in
theorem fcheck_yes (t p : Int) (a : Option Addr) (m k : Nat) (w : World) (ht : 0 ≤ t) (ht2 : t < 64) (hp : 0 ≤ p) (hp2 : p ≤ 65535)
    (hA : ∀ W, Below w.heap.size w W → Calls Tryz.prog 43 #[.slice a m k] W fun e w' => e = .returned (.int .i64 0) ∧ Below W.heap.size W w') :
    Calls Tryz.prog 24 #[.agg (flC t p (.slice none 0 0) (.slice a m k))] w fun e w' => e = .returned (.int .i64 0) ∧ Below w.heap.size w w' := by
  have HA : Hid _ := hA
  have hchk : chkE [] = 0 := by have h : chk abV 0 [] = true := by decide +kernel
                                unfold chkE; rw [if_pos h]
  have HT : Hid (∀ W, Calls Tryz.prog 19 #[.int .i64 t] W fun e w' => e = .returned (.bool true) ∧ w' = W) := fun W => (isTable_any t W).mono fun e w' ⟨he, hw⟩ => ⟨by rw [he]; simp [ht, ht2], hw⟩
  have HM : Hid (∀ W, Calls Tryz.prog 42 #[.slice none 0 0] W fun e w' => e = .returned (.int .i64 0) ∧ Below W.heap.size W w') := fun W => (check_any (.slice none 0 0) [] W TV.nil).mono fun e w' ⟨he, hw⟩ => ⟨by rw [he, hchk], hw⟩
  have R0 : Hid _ := heap_alloc_new w (.cells (flC t p (.slice none 0 0) (.slice a m k)) 52)
  clear hA hchk ht ht2
  go_enter Tryz.func24, Tryz.ntmps24
  go_wp2_with fail
  refine Calls.mono (HT.out _) ?_
  rintro e W0 ⟨rfl, hw0⟩
  rw [hw0]
  clear hw0
  go_wp2_with fail
  refine Calls.mono (HM.out _) ?_
  rintro e W1 ⟨rfl, hb1⟩
  have B1 : Hid (Below w.heap.size w W1) := (below1 w _).trans (hb1.mono (by simp))
  have c3 : W1.cell? ⟨w.heap.size, 3, none⟩ = some (.slice a m k) := cell_row ((hb1.block _ (lt_of_heap R0.out)).trans R0.out) 3
  clear hb1
  go_wp2_with fail
  refine Calls.mono (HA.out _ B1.out) ?_
  rintro e W2 ⟨rfl, hb2⟩
  have B2 : Hid (Below w.heap.size w W2) := B1.out.trans (hb2.mono B1.out.size)
  clear hb2
  go_wp2
  go_ret
  exact ⟨rfl, B2.out⟩
end Go.Proofs.YtnahhmcmahbnkaaGreatDoor
/- ClassNobody's walk: a range over a nil classifier's iterator. Conditions: as said. -/
namespace Go.Proofs.YtnahhmcmahbnkaaGreatDoor
open Go.RowKit Go.Shelf
attribute [local go_sem] Oper.semAt_some
section
variable {F : Fence} {n : Nat} {P : Program} {ops : Array Oper} {Q : Exit → Act → World → Prop} {rest : List Oper} {o : Oper} {a : Act} {w w' : World}
theorem wpListIn_of_value (hw : Region.wanted o (yielded ops a.tmps) = true) (hc : ∀ c, o.op ≠ .call c) (hd : ∀ c, o.op ≠ .defer c) (v : Value) (hr : (execOp a.eval o).run P w = .ok (.value v) w')
    (h : wpListIn F n P ops Q rest (a.put o.dst v) w') : wpListIn F n P ops Q (o :: rest) a w :=
  wpListIn_step fun K hK => by
    rw [if_pos hw]
    unfold Oper.wpIn
    refine ⟨fun f hf => ?_, ?_⟩
    · unfold Oper.about at hf
      split at hf
      · rename_i c hc'; exact absurd hc' (hc c)
      · cases hf
    · rw [Oper.semAt_plain F _ _ hd, hr]
      exact hK _ _ h
theorem wpListIn_of_skip (hw : Region.wanted o (yielded ops a.tmps) = true) (hc : ∀ c, o.op ≠ .call c) (hd : ∀ c, o.op ≠ .defer c) (hr : (execOp a.eval o).run P w = .ok .skip w')
    (h : wpListIn F n P ops Q rest (a.put o.dst undef) w') : wpListIn F n P ops Q (o :: rest) a w :=
  wpListIn_step fun K hK => by
    rw [if_pos hw]
    unfold Oper.wpIn
    refine ⟨fun f hf => ?_, ?_⟩
    · unfold Oper.about at hf
      split at hf
      · rename_i c hc'; exact absurd hc' (hc c)
      · cases hf
    · rw [Oper.semAt_plain F _ _ hd, hr]
      exact hK _ _ h
theorem wpListIn_load_row (hw : Region.wanted o (yielded ops a.tmps) = true) (ty : TypeId) (x : Operand) (ho : o.op = .load ty x)
    (g : Nat) (hx : a.eval x = .pointer (some ⟨g, 0, none⟩)) (t : TypeId) (cs : Array Value) (fr : Nat × Nat) (d : TypeDesc) (hg : w.heap[g]? = some (.cells cs t fr))
    (hu : P.underlying ty = some d) (hd : d.isRow = true) (hi : (P.info? ty).map (·.size) = some cs.size)
    (h : wpListIn F n P ops Q rest (a.put o.dst (.agg cs)) w) : wpListIn F n P ops Q (o :: rest) a w :=
  wpListIn_of_value (w' := w) hw (fun c hc => by rw [ho] at hc; cases hc) (fun c hc => by rw [ho] at hc; cases hc) (.agg cs) (by
    have hq := run_loadVar_row w g t ty cs fr d hg hu (by cases d <;> first | rfl | exact (Bool.noConfusion hd)) hi
    unfold execOp
    simp only [ho, hx, Instr.loadAt, Instr.sureAddr, Sem.run_bind, Sem.run_pure, Result.andThen_ok, hq]) h
theorem wpListIn_store_row (hw : Region.wanted o (yielded ops a.tmps) = true) (ty : TypeId) (x y : Operand) (ho : o.op = .store ty x y)
    (g : Nat) (old c' : Array Value) (t : TypeId) (hx : a.eval x = .pointer (some ⟨g, 0, none⟩)) (hy : a.eval y = .agg c') (hg : w.heap[g]? = some (.cells old t (0, 0)))
    (hi : (P.info? ty).map (·.size) = some c'.size) (hs : old.size = c'.size) (h1 : c'.all (·.oneCell') = true)
    (h : ∀ w', w'.heap[g]? = some (.cells c' t (0, 0)) → (∀ k, k ≠ g → w'.heap[k]? = w.heap[k]?) → w'.heap.size = w.heap.size → Below g w w' → wpListIn F n P ops Q rest (a.put o.dst undef) w') : wpListIn F n P ops Q (o :: rest) a w := by
  have e1 : (w.setRow g c').heap.size = w.heap.size := by simp [World.setRow]
  have e2 : ∀ k, k ≠ g → (w.setRow g c').heap[k]? = w.heap[k]? := fun k hk => by
    simp only [World.setRow, Array.getElem?_modify]
    rw [if_neg (fun e => hk e.symm)]
  have e3 : (w.setRow g c').heap[g]? = some (.cells c' t (0, 0)) := by
    simp only [World.setRow, Array.getElem?_modify, hg]
    simp
  exact wpListIn_of_skip (w' := w.setRow g c') hw (fun c hc => by rw [ho] at hc; cases hc) (fun c hc => by rw [ho] at hc; cases hc) (by
    unfold execOp
    simp only [ho, hx, hy, Sem.run_bind, Instr.storeAt, Instr.sureAddr, Sem.run_pure, Result.andThen_ok, run_storeVar_row w g t ty old c' hg hi hs h1]) (h _ e3 e2 e1 ⟨rfl, rfl, rfl, by omega, fun k hk => e2 k (by omega)⟩)
theorem wpListIn_build_as (hw : Region.wanted o (yielded ops a.tmps) = true) (t : TypeId) (parts : Array (Nat × Operand)) (ho : o.op = .build t parts)
    (cells : Array Value) (hc : P.built t (parts.map fun (i, x) => (i, a.eval x)).toList = some cells)
    (h : wpListIn F n P ops Q rest (a.put o.dst (.agg cells)) w) : wpListIn F n P ops Q (o :: rest) a w :=
  wpListIn_of_value (w' := w) hw (fun c hc => by rw [ho] at hc; cases hc) (fun c hc => by rw [ho] at hc; cases hc) (.agg cells) (by
    unfold execOp
    simp only [ho, Sem.run_bind, run_build w t _ cells hc, Result.andThen_ok, Sem.run_pure]) h
end
end Go.Proofs.YtnahhmcmahbnkaaGreatDoor
