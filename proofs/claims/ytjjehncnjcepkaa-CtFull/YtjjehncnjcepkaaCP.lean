/- One connection goes out of a table; Tick of a table with one connection or none. Conditions: as said. -/
import Derived.Test.YtjjehncnjcepkaaCO
namespace Go.Proofs.Ytjjehncnjcepkaa
open Go.RowKit
structure OwnQ (W : World) (B : Nat) (q : Value) : Prop where
  out : W.ownsRow B 66 1 q 0 []
theorem HasC.popped {w : World} {B tb zb c : Nat} {room clock z : Int} {o r : Tup} {nat : Bool} {ex : Int} {qg qc : Nat} {cur : Array Value} {eb g1 g2 : Nat} (h : HasC w B tb zb c room clock z o r nat ex qg qc cur eb g1 g2) :
    ∃ W, W = (w.setCell ⟨qg, 0, none⟩ (.pointer none)).setCell ⟨tb, 3, none⟩ (.slice (some ⟨qg, 0, none⟩) 0 qc) ∧ W.heap[tb]? = some (.cells (tabV room clock zb (.slice (some ⟨qg, 0, none⟩) 0 qc)) 65 (0, 0)) ∧ W.heap[zb]? = some (.map (entG iv [(z, .agg #[.map (some g1), .map (some g2)], c)]).toArray (c + 1)) ∧ W.heap[g1]? = some (.map (entG tv [(o, .pointer (some ⟨eb, 0, none⟩), 0)]).toArray 1) ∧ W.heap[g2]? = some (.map (entG tv [(r, .pointer (some ⟨eb, 0, none⟩), 0)]).toArray 1) ∧ W.heap[eb]? = some (.cells (entC z o r nat ex 0) 68 (0, 0)) ∧ W.ownsRow B 66 1 (.slice (some ⟨qg, 0, none⟩) 0 qc) 0 [] ∧ W.heap.size = w.heap.size ∧ Below B w W := by
  have htq : tb ≠ qg := ne_cells h.t h.q (by decide)
  have o1 : ∀ g, g ≠ qg → g ≠ tb → ((w.setCell ⟨qg, 0, none⟩ (.pointer none)).setCell ⟨tb, 3, none⟩ (.slice (some ⟨qg, 0, none⟩) 0 qc)).heap[g]? = w.heap[g]? := fun g a b => (Below.heap_setCell _ _ _ _ b).trans (Below.heap_setCell _ _ _ _ a)
  refine ⟨_, rfl, ?_, (o1 _ (ne_map h.q h.zm).symm (ne_map h.t h.zm).symm).trans h.zm, (o1 _ (ne_map h.q h.m1).symm (ne_map h.t h.m1).symm).trans h.m1, (o1 _ (ne_map h.q h.m2).symm (ne_map h.t h.m2).symm).trans h.m2, (o1 _ (ne_cells h.en h.q (by decide)) (ne_cells h.en h.t (by decide))).trans h.en, ⟨rfl, .inr ⟨qg, qc, cur.setIfInBounds 0 (.pointer none), rfl, h.bq, ?_, by omega, h.q2, by simpa using h.qs, by simp⟩⟩, by simp [World.setCell], ((Below.refl B w).setCell h.bq _).setCell h.bt _⟩
  · exact (row_setCell ((Below.heap_setCell _ _ _ _ htq).trans h.t) 3 _).trans rfl
  · exact (Below.heap_setCell _ _ _ _ htq.symm).trans (row_setCell h.q 0 _)
set_option linter.unusedSimpArgs false in
set_option maxRecDepth 20000 in
set_option maxHeartbeats 2000000 in
theorem remove_one {w : World} {B tb zb c : Nat} {room clock z : Int} {o r : Tup} {nat : Bool} {ex : Int} {qg qc : Nat} {cur : Array Value} {eb g1 g2 : Nat} (h : HasC w B tb zb c room clock z o r nat ex qg qc cur eb g1 g2) (hB : B ≤ w.heap.size) :
    Calls Try.prog 31 #[.pointer (some ⟨tb, 0, none⟩), .pointer (some ⟨eb, 0, none⟩)] w fun e w' => e = .returned (.tuple #[]) ∧ Emp w' B tb zb (c + 1) room clock (.slice (some ⟨qg, 0, none⟩) 0 qc) ∧ Below B w w' := by
  have HQ : Hid _ := qremove_one h
  have n12 := h.n12
  have bt := h.bt
  have bz := h.bz
  have b1 := h.b1
  have b2 := h.b2
  have nz1 : zb ≠ g1 := ne_zone h.zm h.m1
  have nz2 : zb ≠ g2 := ne_zone h.zm h.m2
  have ntz : tb ≠ zb := ne_map h.t h.zm
  have nt1 : tb ≠ g1 := ne_map h.t h.m1
  have nt2 : tb ≠ g2 := ne_map h.t h.m2
  have ne1 : eb ≠ g1 := ne_map h.en h.m1
  have ne2 : eb ≠ g2 := ne_map h.en h.m2
  obtain ⟨V, hV, v1, v2, v3, v4, v5, v6, v7, v8⟩ := h.popped
  rw [← hV] at HQ
  obtain ⟨en, hen⟩ : ∃ en, entC z o r nat ex 0 = en := ⟨_, rfl⟩
  have hen0 : en[0]? = some (.int .i64 z) := by rw [← hen]; rfl
  have HEN : Hid _ := hen
  have E0 : Hid _ := hen0
  rw [hen] at v5
  have lt := lt_of_heap v1
  have lz := lt_of_heap v2
  have l1 := lt_of_heap v3
  have l2 := lt_of_heap v4
  have le := lt_of_heap v5
  have V1 : Hid _ := v1
  have V2 : Hid _ := v2
  have V3 : Hid _ := v3
  have V4 : Hid _ := v4
  have V5 : Hid _ := v5
  have V6 : OwnQ V B (.slice (some ⟨qg, 0, none⟩) 0 qc) := ⟨v6⟩
  have V8 : Hid _ := v8
  have hBV : B ≤ V.heap.size := by omega
  have hVw : w.heap.size ≤ V.heap.size := by omega
  clear h hV hen hen0 v1 v2 v3 v4 v5 v6 v7 v8
  go_enter Try.func31, Try.ntmps31
  go_wp2_with fail
  refine Calls.mono HQ.out ?_
  rintro e W0 ⟨rfl, hw0⟩
  rw [hw0]
  clear hw0 HQ
  go_wp2_with fail
  have key : ∀ W, Below V.heap.size V W → W.cell? ⟨tb, 2, none⟩ = some (.map (some zb)) ∧ W.cell? ⟨eb, 0, none⟩ = some (.int .i64 z) ∧ W.heap[zb]? = some (.map (entG iv [(z, .agg #[.map (some g1), .map (some g2)], c)]).toArray (c + 1)) := fun W hb =>
    ⟨cell_row ((hb.block _ lt).trans V1.out) 2, (cell_row ((hb.block _ le).trans V5.out) 0).trans E0.out, (hb.block _ lz).trans V2.out⟩
  have KC : Hid _ := key
  clear key
  refine wp_region_held_drew (S := (fun W => W.cell? ⟨tb, 2, none⟩ = some (.map (some zb)) ∧ W.cell? ⟨eb, 0, none⟩ = some (.int .i64 z) ∧ W.heap[zb]? = some (.map (entG iv [(z, .agg #[.map (some g1), .map (some g2)], c)]).toArray (c + 1)))) (by kernel_rfl) ?_ (fun hHeld => ?_)
  · exact KC.out _ (Below.refl _ _).drew
  refine wpAnyH_take (i := 0) (v := ?_) rfl (by kernel_rfl) (by kernel_rfl) (by kernel_rfl) (fun _ _ _ h => h) (Or.inl ⟨by rfl, ?_⟩) (by assumption) ?_
  rotate_left
  · (intro w hSw; (try dsimp only at hSw); go_simp; try with_reducible rfl)
  try simp only [List.getElem_toArray, List.getElem_cons_zero, List.getElem_cons_succ, Act.put, List.setIfInBounds_toArray, List.set_cons_zero, List.set_cons_succ]
  refine wpAnyH_take (i := 1) (v := ?_) rfl (by kernel_rfl) (by kernel_rfl) (by kernel_rfl) (fun _ _ _ h => h) (Or.inl ⟨by rfl, ?_⟩) (by assumption) ?_
  rotate_left
  · (intro w hSw; (try dsimp only at hSw); go_simp; try with_reducible rfl)
  try simp only [List.getElem_toArray, List.getElem_cons_zero, List.getElem_cons_succ, Act.put, List.setIfInBounds_toArray, List.set_cons_zero, List.set_cons_succ]
  refine wpAnyH_take (i := 2) (v := ?_) rfl (by kernel_rfl) (by kernel_rfl) (by kernel_rfl) (fun _ _ _ h => h) (Or.inl ⟨by rfl, ?_⟩) (by assumption) ?_
  rotate_left
  · (intro w hSw; (try dsimp only at hSw); go_simp; try with_reducible rfl)
  try simp only [List.getElem_toArray, List.getElem_cons_zero, List.getElem_cons_succ, Act.put, List.setIfInBounds_toArray, List.set_cons_zero, List.set_cons_succ]
  refine wpAnyH_take (i := 3) (v := ?_) rfl (by kernel_rfl) (by kernel_rfl) (by kernel_rfl) (fun _ _ _ h => h) (Or.inl ⟨by rfl, ?_⟩) (by assumption) ?_
  rotate_left
  · (intro w hSw; (try dsimp only at hSw); go_simp; try with_reducible rfl)
  try simp only [List.getElem_toArray, List.getElem_cons_zero, List.getElem_cons_succ, Act.put, List.setIfInBounds_toArray, List.set_cons_zero, List.set_cons_succ]
  refine wpAnyH_take (i := 4) (v := ?_) rfl (by kernel_rfl) (by kernel_rfl) (by kernel_rfl) (fun _ _ _ h => h) (Or.inl ⟨by rfl, ?_⟩) (by assumption) ?_
  rotate_left
  · (intro w hSw; (try dsimp only at hSw); go_simp; try with_reducible rfl)
  try simp only [List.getElem_toArray, List.getElem_cons_zero, List.getElem_cons_succ, Act.put, List.setIfInBounds_toArray, List.set_cons_zero, List.set_cons_succ]
  refine wpAnyH_take (i := 5) (v := ?_) rfl (by kernel_rfl) (by kernel_rfl) (by kernel_rfl) (fun _ _ _ h => h) (Or.inl ⟨by rfl, ?_⟩) (by assumption) ?_
  rotate_left
  · (intro w hSw; (try dsimp only at hSw); go_simp; try with_reducible rfl)
  try simp only [List.getElem_toArray, List.getElem_cons_zero, List.getElem_cons_succ, Act.put, List.setIfInBounds_toArray, List.set_cons_zero, List.set_cons_succ]
  refine wpAnyH_take (i := 6) (v := ?_) rfl (by kernel_rfl) (by kernel_rfl) (by kernel_rfl) (fun _ _ _ h => h) (Or.inl ⟨by rfl, ?_⟩) (by assumption) ?_
  rotate_left
  · (intro w hSw; (try dsimp only at hSw); go_simp; try with_reducible rfl)
  try simp only [List.getElem_toArray, List.getElem_cons_zero, List.getElem_cons_succ, Act.put, List.setIfInBounds_toArray, List.set_cons_zero, List.set_cons_succ]
  refine wpAnyH_take (i := 7) (v := ?_) rfl (by kernel_rfl) (by kernel_rfl) (by kernel_rfl) (fun _ _ _ h => h) (Or.inl ⟨by rfl, ?_⟩) (by assumption) ?_
  rotate_left
  · (intro w hSw; (try dsimp only at hSw); go_simp; try with_reducible rfl)
  try simp only [List.getElem_toArray, List.getElem_cons_zero, List.getElem_cons_succ, Act.put, List.setIfInBounds_toArray, List.set_cons_zero, List.set_cons_succ]
  refine wpAnyH_take (i := 8) (v := ?_) rfl (by kernel_rfl) (by kernel_rfl) (by kernel_rfl) (fun _ _ _ h => h) (Or.inl ⟨by rfl, ?_⟩) (by assumption) ?_
  rotate_left
  · (intro w hSw; (try dsimp only at hSw); go_simp; try with_reducible rfl)
  try simp only [List.getElem_toArray, List.getElem_cons_zero, List.getElem_cons_succ, Act.put, List.setIfInBounds_toArray, List.set_cons_zero, List.set_cons_succ]
  refine wpAnyH_take (i := 9) (v := .agg #[.map (some g1), .map (some g2)]) rfl (by kernel_rfl) (by kernel_rfl) (by kernel_rfl) (fun _ _ _ h => h) (yields_lookup (by rfl) 61 _ _ rfl (.map (some zb)) (iv z) _ rfl rfl (fun W h => by have hlk := look_any intK Try.underlying61 _ zero_zone h.2.2 z; rw [show findG z [(z, Value.agg #[.map (some g1), .map (some g2)], c)] 0 = some (0, .agg #[.map (some g1), .map (some g2)]) by simp [findG]] at hlk; exact hlk)) (by assumption) ?_
  try simp only [List.getElem_toArray, List.getElem_cons_zero, List.getElem_cons_succ, Act.put, List.setIfInBounds_toArray, List.set_cons_zero, List.set_cons_succ]
  refine wpAnyH_ready (rs := [10]) (by kernel_rfl) (by simp) ?_
  refine AllReadyH.cons (o := _) rfl (fun K hK => ?_) AllReadyH.nil
  go_simp
  have BB : Hid (Below V.heap.size V (V.alloc (.cells #[.map none, .map none] 60)).drew) := (below1 _ _).drew
  have B1 : Hid ((V.alloc (.cells #[.map none, .map none] 60)).drew.heap[V.heap.size]? = some (.cells #[.map none, .map none] 60 (0, 0))) := heap_alloc_new _ _
  refine hK.out _ _ (KC.out _ BB.out) (fun hHeld2 => ?_)
  clear hK K hHeld hHeld2
  try simp only [List.getElem_toArray, List.getElem_cons_zero, List.getElem_cons_succ, Act.put, List.setIfInBounds_toArray, List.set_cons_zero, List.set_cons_succ]
  refine wpAnyH_ready (rs := [11]) (by kernel_rfl) (by simp) ?_
  refine AllReadyH.cons (o := _) rfl (fun K hK => ?_) AllReadyH.nil
  refine wp_store_row 60 _ _ rfl V.heap.size #[.map none, .map none] #[.map (some g1), .map (some g2)] 60 rfl rfl B1.out size2 rfl (by kernel_rfl) ?_
  intro W1 z1 z2 z3 z4
  have CB : Hid (Below V.heap.size V W1) := BB.out.trans z4
  have C1 : Hid _ := z1
  clear z1 z2 z3 z4
  refine hK.out _ _ (KC.out _ CB.out) (fun hHeld => ?_)
  clear hK K
  try simp only [List.getElem_toArray, List.getElem_cons_zero, List.getElem_cons_succ, Act.put, List.setIfInBounds_toArray, List.set_cons_zero, List.set_cons_succ]
  clear hHeld B1 BB
  refine wpAnyH_done (by kernel_rfl) ?_ _
  go_wp2_with (first
    | refine wpList_load_row rfl 60 _ rfl V.heap.size rfl 60 #[.map (some g1), .map (some g2)] (0, 0) _ C1.out Try.underlying60 rfl size2 ?_
    | fail)
  have hs1 : V.heap.size < W1.heap.size := lt_of_heap C1.out
  have HZR : Hid _ := zremove_one g1 g2 1 1 eb (.pointer (some ⟨eb, 0, none⟩)) (.pointer (some ⟨eb, 0, none⟩)) 0 0 z o r nat ex 0 W1 n12 ((CB.out.block _ l1).trans V3.out) ((CB.out.block _ l2).trans V4.out) (by rw [HEN.out]; exact (CB.out.block _ le).trans V5.out) B b1 b2 (by omega)
  refine Calls.mono HZR.out ?_
  rintro e W2 ⟨rfl, u1, u2, u3, u4⟩
  clear HZR
  have D1 : Hid (W2.heap[V.heap.size]? = some (.cells #[.map (some g1), .map (some g2)] 60 (0, 0))) := (u3 _ hs1 (by omega) (by omega)).trans C1.out
  have T2 : Hid (W2.heap[tb]? = some (.cells (tabV room clock zb (.slice (some ⟨qg, 0, none⟩) 0 qc)) 65 (0, 0))) := (u3 _ (by omega) nt1 nt2).trans ((CB.out.block _ lt).trans V1.out)
  have Z2 : Hid (W2.heap[zb]? = some (.map (entG iv [(z, .agg #[.map (some g1), .map (some g2)], c)]).toArray (c + 1))) := (u3 _ (by omega) nz1 nz2).trans ((CB.out.block _ lz).trans V2.out)
  have E2 : Hid (W2.heap[eb]? = some (.cells en 68 (0, 0))) := (u3 _ (by omega) ne1 ne2).trans ((CB.out.block _ le).trans V5.out)
  have Q2 : OwnQ W2 B (.slice (some ⟨qg, 0, none⟩) 0 qc) := by
    constructor
    have q1 := own_below V6.out CB.out
    refine ⟨q1.1, ?_⟩
    rcases q1.2 with h' | ⟨g, cap, cur', e1, e2, e3, e4⟩
    · exact .inl h'
    · have hg1 : g ≠ g1 := ne_map e3 ((CB.out.block _ l1).trans V3.out)
      have hg2 : g ≠ g2 := ne_map e3 ((CB.out.block _ l2).trans V4.out)
      exact .inr ⟨g, cap, cur', e1, e2, (u3 _ (lt_of_heap e3) hg1 hg2).trans e3, e4⟩
  have B2 : Hid (Below B w W2) := (V8.out.trans (CB.out.mono (by omega))).trans u4
  have U1 : Hid _ := u1
  have hs2 : W1.heap.size ≤ W2.heap.size := u4.size
  clear u1 u2 u3 u4 C1
  go_wp2_with (first
    | refine wpList_load_row rfl 60 _ rfl V.heap.size rfl 60 #[.map (some g1), .map (some g2)] (0, 0) _ D1.out Try.underlying60 rfl size2 ?_
    | fail)
  have HIE : Hid _ := isEmpty_any (some g1) (some g2) 0 W2 (fun W hb => len_some ((hb.block _ (lt_of_heap U1.out)).trans U1.out))
  refine Calls.mono HIE.out ?_
  rw [show decide (((0 : Nat) : Int) = 0) = true by decide]
  rintro e W3 ⟨rfl, hb3⟩
  clear HIE
  have T3 : Hid _ := (hb3.block _ (lt_of_heap T2.out)).trans T2.out
  have Z3 : Hid (W3.drew.heap[zb]? = some (.map (entG iv [(z, .agg #[.map (some g1), .map (some g2)], c)]).toArray (c + 1))) := (hb3.block _ (lt_of_heap Z2.out)).trans Z2.out
  have E3 : Hid _ := (hb3.block _ (lt_of_heap E2.out)).trans E2.out
  have Q3 : OwnQ W3 B (.slice (some ⟨qg, 0, none⟩) 0 qc) := ⟨own_below Q2.out hb3⟩
  have B3 : Hid (Below B w W3) := B2.out.trans (hb3.mono (by have := B2.out.size; omega))
  clear hb3 T2 Z2 E2 Q2 B2 D1
  go_wp2_with fail
  refine wp_region_held_drew (S := (fun W => W.cell? ⟨tb, 2, none⟩ = some (.map (some zb)) ∧ W.cell? ⟨eb, 0, none⟩ = some (.int .i64 z))) (by kernel_rfl) ?_ (fun hHeld => ?_)
  · exact ⟨cell_row T3.out 2, (cell_row E3.out 0).trans E0.out⟩
  refine wpAnyH_take (i := 0) (v := ?_) rfl (by kernel_rfl) (by kernel_rfl) (by kernel_rfl) (fun _ _ _ h => h) (Or.inl ⟨by rfl, ?_⟩) (by assumption) ?_
  rotate_left
  · (intro w hSw; (try dsimp only at hSw); go_simp; try with_reducible rfl)
  try simp only [List.getElem_toArray, List.getElem_cons_zero, List.getElem_cons_succ, Act.put, List.setIfInBounds_toArray, List.set_cons_zero, List.set_cons_succ]
  refine wpAnyH_take (i := 1) (v := ?_) rfl (by kernel_rfl) (by kernel_rfl) (by kernel_rfl) (fun _ _ _ h => h) (Or.inl ⟨by rfl, ?_⟩) (by assumption) ?_
  rotate_left
  · (intro w hSw; (try dsimp only at hSw); go_simp; try with_reducible rfl)
  try simp only [List.getElem_toArray, List.getElem_cons_zero, List.getElem_cons_succ, Act.put, List.setIfInBounds_toArray, List.set_cons_zero, List.set_cons_succ]
  refine wpAnyH_take (i := 2) (v := ?_) rfl (by kernel_rfl) (by kernel_rfl) (by kernel_rfl) (fun _ _ _ h => h) (Or.inl ⟨by rfl, ?_⟩) (by assumption) ?_
  rotate_left
  · (intro w hSw; (try dsimp only at hSw); go_simp; try with_reducible rfl)
  try simp only [List.getElem_toArray, List.getElem_cons_zero, List.getElem_cons_succ, Act.put, List.setIfInBounds_toArray, List.set_cons_zero, List.set_cons_succ]
  refine wpAnyH_take (i := 3) (v := ?_) rfl (by kernel_rfl) (by kernel_rfl) (by kernel_rfl) (fun _ _ _ h => h) (Or.inl ⟨by rfl, ?_⟩) (by assumption) ?_
  rotate_left
  · (intro w hSw; (try dsimp only at hSw); go_simp; try with_reducible rfl)
  try simp only [List.getElem_toArray, List.getElem_cons_zero, List.getElem_cons_succ, Act.put, List.setIfInBounds_toArray, List.set_cons_zero, List.set_cons_succ]
  refine wpAnyH_take (i := 4) (v := ?_) rfl (by kernel_rfl) (by kernel_rfl) (by kernel_rfl) (fun _ _ _ h => h) (Or.inl ⟨by rfl, ?_⟩) (by assumption) ?_
  rotate_left
  · (intro w hSw; (try dsimp only at hSw); go_simp; try with_reducible rfl)
  try simp only [List.getElem_toArray, List.getElem_cons_zero, List.getElem_cons_succ, Act.put, List.setIfInBounds_toArray, List.set_cons_zero, List.set_cons_succ]
  refine wpAnyH_take (i := 5) (v := ?_) rfl (by kernel_rfl) (by kernel_rfl) (by kernel_rfl) (fun _ _ _ h => h) (Or.inl ⟨by rfl, ?_⟩) (by assumption) ?_
  rotate_left
  · (intro w hSw; (try dsimp only at hSw); go_simp; try with_reducible rfl)
  try simp only [List.getElem_toArray, List.getElem_cons_zero, List.getElem_cons_succ, Act.put, List.setIfInBounds_toArray, List.set_cons_zero, List.set_cons_succ]
  refine wpAnyH_take (i := 6) (v := ?_) rfl (by kernel_rfl) (by kernel_rfl) (by kernel_rfl) (fun _ _ _ h => h) (Or.inl ⟨by rfl, ?_⟩) (by assumption) ?_
  rotate_left
  · (intro w hSw; (try dsimp only at hSw); go_simp; try with_reducible rfl)
  try simp only [List.getElem_toArray, List.getElem_cons_zero, List.getElem_cons_succ, Act.put, List.setIfInBounds_toArray, List.set_cons_zero, List.set_cons_succ]
  refine wpAnyH_take (i := 7) (v := ?_) rfl (by kernel_rfl) (by kernel_rfl) (by kernel_rfl) (fun _ _ _ h => h) (Or.inl ⟨by rfl, ?_⟩) (by assumption) ?_
  rotate_left
  · (intro w hSw; (try dsimp only at hSw); go_simp; try with_reducible rfl)
  try simp only [List.getElem_toArray, List.getElem_cons_zero, List.getElem_cons_succ, Act.put, List.setIfInBounds_toArray, List.set_cons_zero, List.set_cons_succ]
  refine wpAnyH_take (i := 8) (v := ?_) rfl (by kernel_rfl) (by kernel_rfl) (by kernel_rfl) (fun _ _ _ h => h) (Or.inl ⟨by rfl, ?_⟩) (by assumption) ?_
  rotate_left
  · (intro w hSw; (try dsimp only at hSw); go_simp; try with_reducible rfl)
  try simp only [List.getElem_toArray, List.getElem_cons_zero, List.getElem_cons_succ, Act.put, List.setIfInBounds_toArray, List.set_cons_zero, List.set_cons_succ]
  refine wpAnyH_ready (rs := [9]) (by kernel_rfl) (by simp) ?_
  refine AllReadyH.cons (o := _) rfl (fun K hK => ?_) AllReadyH.nil
  refine wp_delete _ _ 61 3 rfl (.map (some zb)) (iv z) rfl rfl (del_one intK Try.underlying61 (l := [(z, .agg #[.map (some g1), .map (some g2)], c)]) (c := c + 1) Z3.out z (i := 0) (v := .agg #[.map (some g1), .map (some g2)]) (by simp [findG]) _ _ rfl) ?_
  obtain ⟨U, hU⟩ : ∃ U, putObj W3.drew zb (.map (entG iv ([(z, Value.agg #[.map (some g1), .map (some g2)], c)].eraseIdx 0)).toArray (c + 1)) = U := ⟨_, rfl⟩
  have u1 : U.heap[zb]? = some (.map (entG iv []).toArray (c + 1)) := by rw [← hU]; exact putObj_same (lt_of_heap Z3.out) _
  have uo : ∀ g, g ≠ zb → U.heap[g]? = W3.heap[g]? := fun g hg => by rw [← hU]; exact putObj_other _ hg _
  have uB : Below B w U := by rw [← hU]; exact B3.out.drew.trans ((putObj_below _ zb _).mono bz)
  rw [hU]
  clear hU
  have nez : eb ≠ zb := ne_map E3.out Z3.out
  refine hK.out _ _ ⟨cell_row ((uo _ ntz).trans T3.out) 2, (cell_row ((uo _ nez).trans E3.out) 0).trans E0.out⟩ (fun hHeld2 => ?_)
  clear hK K hHeld hHeld2
  try simp only [List.getElem_toArray, List.getElem_cons_zero, List.getElem_cons_succ, Act.put, List.setIfInBounds_toArray, List.set_cons_zero, List.set_cons_succ]
  refine wpAnyH_done (by kernel_rfl) ?_ _
  go_wp2
  go_end0
  refine ⟨rfl, ⟨bt, bz, (uo _ ntz).trans T3.out, u1, ?_⟩, uB⟩
  have q3 := Q3.out
  refine ⟨q3.1, ?_⟩
  rcases q3.2 with h' | ⟨g, cap, cur', e1, e2, e3, e4⟩
  · exact .inl h'
  · exact .inr ⟨g, cap, cur', e1, e2, (uo _ (ne_map e3 Z3.out)).trans e3, e4⟩
end Go.Proofs.Ytjjehncnjcepkaa
