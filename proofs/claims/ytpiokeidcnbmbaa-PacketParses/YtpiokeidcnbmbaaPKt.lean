/- isOfForm of package packet, of frames that are no IPv4. Conditions: as said. -/
import Derived.Test.YtpiokeidcnbmbaaPKc
import Derived.Test.YtpiokeidcnbmbaaPCa
import Derived.Deep.RegionHeld3
namespace Go.Proofs.Ytpiokeidcnbmbaa
open Go.RowKit
set_option maxRecDepth 20000
set_option linter.unusedSimpArgs false
set_option maxHeartbeats 4000000 in
theorem form_plain (ps : Array Value) (hs : ps.size = 36) (d s tag et : Int) (tg : Bool) (bd : ByteArray) (hE : ps.extract 0 (0 + 5) = #[.int .u64 d, .int .u64 s, .bool tg, .int .i64 tag, .int .i64 et]) (h4 : ps[4]? = some (.int .i64 et)) (h34 : ps[34]? = some (.string bd)) (e1 : (et == 2054) = false) (e2 : (et == 2048) = false) (r : Bool) (w : World)
    (HQ : Hid (∀ W, (binOp .eql 34 (.agg ps) (.agg ((Ca.putC zeroPk 0 (#[.int .u64 d, .int .u64 s, .bool tg, .int .i64 tag, .int .i64 et]).toList).setIfInBounds 34 (.string bd)))).run Try.prog W = .ok (.bool r) W)) :
    Calls Try.prog 28 #[.agg ps] w fun e w' => e = .returned (.bool r) ∧ Below w.heap.size w w' := by
  obtain ⟨o1, ho1⟩ : ∃ p, Ca.putC zeroPk 0 (#[.int .u64 d, .int .u64 s, .bool tg, .int .i64 tag, .int .i64 et]).toList = p := ⟨_, rfl⟩
  have Eo1 : Hid (Ca.putC zeroPk 0 (#[.int .u64 d, .int .u64 s, .bool tg, .int .i64 tag, .int .i64 et]).toList = o1) := ho1
  have Zo1 : Hid (o1.size = 36) := by show _ = _; rw [← ho1]; kernel_rfl
  clear ho1
  obtain ⟨o2, ho2⟩ : ∃ p, o1.setIfInBounds 34 (.string bd) = p := ⟨_, rfl⟩
  have Eo2 : Hid (o1.setIfInBounds 34 (.string bd) = o2) := ho2
  have Zo2 : Hid (o2.size = 36) := by show _ = _; rw [← ho2]; rw [Array.size_setIfInBounds]; exact Zo1.out
  clear ho2
  rw [Eo1.out, Eo2.out] at HQ

  have h9E : (ps.extract 0 (0 + 5)).size = 5 := by rw [hE]; rfl
  have HS : Hid (ps.size = 36) := hs
  have H4 : Hid (ps[4]? = some (.int .i64 et)) := h4
  have H34 : Hid (ps[34]? = some (.string bd)) := h34
  have L1 : Hid _ := Ca.two_first w (.cells ps 34) (.cells zeroPk 34)
  have L3 : Hid _ := Ca.two_last w (.cells ps 34) (.cells zeroPk 34)
  have LB : Hid _ := below2 w (.cells ps 34) (.cells zeroPk 34)
  have hone1 : o1.all (·.oneCell') = true := by rw [← Eo1.out]; kernel_rfl
  have hbld : Try.prog.built 34 [(0, .agg #[.int .u64 d, .int .u64 s, .bool tg, .int .i64 tag, .int .i64 et])] = some o1 := by rw [← Eo1.out]; kernel_rfl
  clear hs h4 h34
  go_enter Try.func28, Try.ntmps28
  go_wp2_with (first
    | (refine Ca.wpList_load_at rfl 25 _ rfl w.heap.size 0 5 rfl ps 34 _ (heap_alloc_new w _) Try.underlying25 rfl h9E (by kernel_rfl) ?_; rw [hE]; refine Ca.wpList_build_as rfl 34 _ rfl o1 (by rw [List.map_toArray]; show Try.prog.built 34 [(0, .agg #[.int .u64 d, .int .u64 s, .bool tg, .int .i64 tag, .int .i64 et])] = _; exact hbld) ?_)
    | refine Ca.wpList_store_row rfl 34 _ _ rfl (w.heap.size + 1) zeroPk o1 34 rfl rfl L3.out (info36 Zo1.out) (Eq.trans (b := 36) rfl Zo1.out.symm) hone1 ?_
    | fail)
  intro W1 y1 y2 y3 y4
  have B_W1 : Hid (Below w.heap.size w W1) := LB.out.trans (y4.mono (by omega))
  have Rp_W1 : Hid (W1.heap[w.heap.size]? = some (.cells ps 34 (0, 0))) := (y2 _ (by omega)).trans L1.out
  have Ro_W1 : Hid (W1.heap[w.heap.size + 1]? = some (.cells o1 34 (0, 0))) := y1
  clear y1 y2 y3 y4 L1 L3 LB hbld hone1
  have c4 := (Ca.cell_row Rp_W1.out 4).trans H4.out
  have c34p := (Ca.cell_row Rp_W1.out 34).trans H34.out
  have c34 := (Ca.cell_row Ro_W1.out 34).trans (show _ = some (Value.string ⟨#[]⟩) by rw [← Eo1.out]; kernel_rfl)
  have f34 := frozen_of_row W1 _ 34 _ _ Ro_W1.out
  have B_x : Hid (Below w.heap.size w (W1.setCell ⟨w.heap.size + 1, 34, none⟩ (.string bd))) := B_W1.out.setCell (show w.heap.size ≤ w.heap.size + 1 by omega) _
  have Rp_x : Hid ((W1.setCell ⟨w.heap.size + 1, 34, none⟩ (.string bd)).heap[w.heap.size]? = some (.cells ps 34 (0, 0))) := (Below.heap_setCell _ _ _ _ (show w.heap.size ≠ w.heap.size + 1 by omega)).trans Rp_W1.out
  have Ro_x : Hid ((W1.setCell ⟨w.heap.size + 1, 34, none⟩ (.string bd)).heap[w.heap.size + 1]? = some (.cells o2 34 (0, 0))) := by show _ = _; rw [← Eo2.out]; exact Ca.row_setCell Ro_W1.out 34 _
  have hq := HQ.out
  go_wp2_with (first
    | refine wpList_load_row rfl 34 _ rfl (w.heap.size) rfl 34 ps (0, 0) _ Rp_x.out Try.underlying34 rfl (info36 HS.out) ?_
    | refine wpList_load_row rfl 34 _ rfl (w.heap.size + 1) rfl 34 o2 (0, 0) _ Ro_x.out Try.underlying34 rfl (info36 Zo2.out) ?_
    | fail)
  go_ret
  exact ⟨rfl, B_x.out⟩
set_option maxHeartbeats 4000000 in
theorem form_arp (ps : Array Value) (hs : ps.size = 36) (d s tag : Int) (tg : Bool) (op sha spa tha tpa : Int) (pd : ByteArray) (hE : ps.extract 0 (0 + 5) = #[.int .u64 d, .int .u64 s, .bool tg, .int .i64 tag, .int .i64 2054]) (hA : ps.extract 6 (6 + 5) = #[.int .i64 op, .int .u64 sha, .int .u32 spa, .int .u64 tha, .int .u32 tpa]) (h4 : ps[4]? = some (.int .i64 2054)) (h35 : ps[35]? = some (.string pd)) (r : Bool) (w : World)
    (HQ : Hid (∀ W, (binOp .eql 34 (.agg ps) (.agg ((Ca.putC ((Ca.putC zeroPk 0 (#[.int .u64 d, .int .u64 s, .bool tg, .int .i64 tag, .int .i64 2054]).toList).setIfInBounds 5 (.bool true)) 6 (#[.int .i64 op, .int .u64 sha, .int .u32 spa, .int .u64 tha, .int .u32 tpa]).toList).setIfInBounds 35 (.string pd)))).run Try.prog W = .ok (.bool r) W)) :
    Calls Try.prog 28 #[.agg ps] w fun e w' => e = .returned (.bool r) ∧ Below w.heap.size w w' := by
  obtain ⟨o1, ho1⟩ : ∃ p, Ca.putC zeroPk 0 (#[.int .u64 d, .int .u64 s, .bool tg, .int .i64 tag, .int .i64 2054]).toList = p := ⟨_, rfl⟩
  have Eo1 : Hid (Ca.putC zeroPk 0 (#[.int .u64 d, .int .u64 s, .bool tg, .int .i64 tag, .int .i64 2054]).toList = o1) := ho1
  have Zo1 : Hid (o1.size = 36) := by show _ = _; rw [← ho1]; kernel_rfl
  clear ho1
  obtain ⟨o2, ho2⟩ : ∃ p, o1.setIfInBounds 5 (.bool true) = p := ⟨_, rfl⟩
  have Eo2 : Hid (o1.setIfInBounds 5 (.bool true) = o2) := ho2
  have Zo2 : Hid (o2.size = 36) := by show _ = _; rw [← ho2]; rw [Array.size_setIfInBounds]; exact Zo1.out
  clear ho2
  obtain ⟨o3, ho3⟩ : ∃ p, Ca.putC o2 6 (#[.int .i64 op, .int .u64 sha, .int .u32 spa, .int .u64 tha, .int .u32 tpa]).toList = p := ⟨_, rfl⟩
  have Eo3 : Hid (Ca.putC o2 6 (#[.int .i64 op, .int .u64 sha, .int .u32 spa, .int .u64 tha, .int .u32 tpa]).toList = o3) := ho3
  have Zo3 : Hid (o3.size = 36) := by show _ = _; rw [← ho3]; rw [Ca.putC_size]; exact Zo2.out
  clear ho3
  obtain ⟨o4, ho4⟩ : ∃ p, o3.setIfInBounds 35 (.string pd) = p := ⟨_, rfl⟩
  have Eo4 : Hid (o3.setIfInBounds 35 (.string pd) = o4) := ho4
  have Zo4 : Hid (o4.size = 36) := by show _ = _; rw [← ho4]; rw [Array.size_setIfInBounds]; exact Zo3.out
  clear ho4
  rw [Eo1.out, Eo2.out, Eo3.out, Eo4.out] at HQ

  have h9E : (ps.extract 0 (0 + 5)).size = 5 := by rw [hE]; rfl
  have HS : Hid (ps.size = 36) := hs
  have H4 : Hid (ps[4]? = some (.int .i64 2054)) := h4
  have H35 : Hid (ps[35]? = some (.string pd)) := h35
  have L1 : Hid _ := Ca.two_first w (.cells ps 34) (.cells zeroPk 34)
  have L3 : Hid _ := Ca.two_last w (.cells ps 34) (.cells zeroPk 34)
  have LB : Hid _ := below2 w (.cells ps 34) (.cells zeroPk 34)
  have hone1 : o1.all (·.oneCell') = true := by rw [← Eo1.out]; kernel_rfl
  have hbld : Try.prog.built 34 [(0, .agg #[.int .u64 d, .int .u64 s, .bool tg, .int .i64 tag, .int .i64 2054])] = some o1 := by rw [← Eo1.out]; kernel_rfl
  clear hs h4 h35
  go_enter Try.func28, Try.ntmps28
  go_wp2_with (first
    | (refine Ca.wpList_load_at rfl 25 _ rfl w.heap.size 0 5 rfl ps 34 _ (heap_alloc_new w _) Try.underlying25 rfl h9E (by kernel_rfl) ?_; rw [hE]; refine Ca.wpList_build_as rfl 34 _ rfl o1 (by rw [List.map_toArray]; show Try.prog.built 34 [(0, .agg #[.int .u64 d, .int .u64 s, .bool tg, .int .i64 tag, .int .i64 2054])] = _; exact hbld) ?_)
    | refine Ca.wpList_store_row rfl 34 _ _ rfl (w.heap.size + 1) zeroPk o1 34 rfl rfl L3.out (info36 Zo1.out) (Eq.trans (b := 36) rfl Zo1.out.symm) hone1 ?_
    | fail)
  intro W1 y1 y2 y3 y4
  have B_W1 : Hid (Below w.heap.size w W1) := LB.out.trans (y4.mono (by omega))
  have Rp_W1 : Hid (W1.heap[w.heap.size]? = some (.cells ps 34 (0, 0))) := (y2 _ (by omega)).trans L1.out
  have Ro_W1 : Hid (W1.heap[w.heap.size + 1]? = some (.cells o1 34 (0, 0))) := y1
  clear y1 y2 y3 y4 L1 L3 LB hbld hone1
  have c4 := (Ca.cell_row Rp_W1.out 4).trans H4.out
  go_wp2_with fail
  clear c4
  refine wp_region_held_drew (S := (fun W => W.heap[w.heap.size]? = some (.cells ps 34 (0, 0)))) (by kernel_rfl) Rp_W1.out (fun hHeld => ?_)
  have B_W2 : Hid (Below w.heap.size w W1.drew) := B_W1.out.drew
  have Rp_W2 : Hid (W1.drew.heap[w.heap.size]? = some (.cells ps 34 (0, 0))) := Rp_W1.out
  have Ro_W2 : Hid (W1.drew.heap[w.heap.size + 1]? = some (.cells o1 34 (0, 0))) := Ro_W1.out
  obtain ⟨W2, hW2⟩ : ∃ V, W1.drew = V := ⟨_, rfl⟩
  rw [hW2] at B_W2 Rp_W2 Ro_W2 hHeld ⊢
  clear hW2 B_W1 Rp_W1 Ro_W1
  refine wpAnyH_take (i := 0) (v := ?_) rfl (by kernel_rfl) (by kernel_rfl) (by kernel_rfl) (fun _ _ _ h => h) (Or.inl ⟨by rfl, ?_⟩) (by assumption) ?_
  rotate_left
  · (intro w hSw; (try dsimp only at hSw); go_simp; try with_reducible rfl)
  try simp only [List.getElem_toArray, List.getElem_cons_zero, List.getElem_cons_succ, Act.put, List.setIfInBounds_toArray, List.set_cons_zero, List.set_cons_succ]
  refine wpAnyH_take (i := 1) (v := .agg #[.int .i64 op, .int .u64 sha, .int .u32 spa, .int .u64 tha, .int .u32 tpa]) rfl (by kernel_rfl) (by kernel_rfl) (by kernel_rfl) (fun _ _ _ h => h) (Ca.yields_at (by rfl) 28 _ rfl (w.heap.size) 6 5 rfl 34 ps #[.int .i64 op, .int .u64 sha, .int .u32 spa, .int .u64 tha, .int .u32 tpa] _ (fun W hW => hW) hA rfl Try.underlying28 rfl (by kernel_rfl)) (by assumption) ?_
  try simp only [List.getElem_toArray, List.getElem_cons_zero, List.getElem_cons_succ, Act.put, List.setIfInBounds_toArray, List.set_cons_zero, List.set_cons_succ]
  refine wpAnyH_take (i := 2) (v := ?_) rfl (by kernel_rfl) (by kernel_rfl) (by kernel_rfl) (fun _ _ _ h => h) (Or.inl ⟨by rfl, ?_⟩) (by assumption) ?_
  rotate_left
  · (intro w hSw; (try dsimp only at hSw); go_simp; try with_reducible rfl)
  try simp only [List.getElem_toArray, List.getElem_cons_zero, List.getElem_cons_succ, Act.put, List.setIfInBounds_toArray, List.set_cons_zero, List.set_cons_succ]
  refine wpAnyH_take (i := 3) (v := .string pd) rfl (by kernel_rfl) (by kernel_rfl) (by kernel_rfl) (fun _ _ _ h => h) (Or.inl ⟨by rfl, fun W hW => by have c := (Ca.cell_row hW 35).trans H35.out; go_simp⟩) (by assumption) ?_
  try simp only [List.getElem_toArray, List.getElem_cons_zero, List.getElem_cons_succ, Act.put, List.setIfInBounds_toArray, List.set_cons_zero, List.set_cons_succ]
  refine wpAnyH_take (i := 4) (v := ?_) rfl (by kernel_rfl) (by kernel_rfl) (by kernel_rfl) (fun _ _ _ h => h) (Or.inl ⟨by rfl, ?_⟩) (by assumption) ?_
  rotate_left
  · (intro w hSw; (try dsimp only at hSw); go_simp; try with_reducible rfl)
  try simp only [List.getElem_toArray, List.getElem_cons_zero, List.getElem_cons_succ, Act.put, List.setIfInBounds_toArray, List.set_cons_zero, List.set_cons_succ]
  have c5 := (Ca.cell_row Ro_W2.out 5).trans (show _ = some (Value.bool false) by rw [← Eo1.out]; kernel_rfl)
  have f5 := frozen_of_row W2 _ 5 _ _ Ro_W2.out
  refine wpAnyH_ready (rs := [5]) (by kernel_rfl) (by simp) ?_
  refine AllReadyH.cons (o := _) rfl (fun K hK => ?_) AllReadyH.nil
  go_simp
  clear c5 f5
  have B_W3 : Hid (Below w.heap.size w (W2.setCell ⟨w.heap.size + 1, 5, none⟩ (.bool true))) := B_W2.out.setCell (show w.heap.size ≤ w.heap.size + 1 by omega) _
  have Rp_W3 : Hid ((W2.setCell ⟨w.heap.size + 1, 5, none⟩ (.bool true)).heap[w.heap.size]? = some (.cells ps 34 (0, 0))) := (Below.heap_setCell _ _ _ _ (show w.heap.size ≠ w.heap.size + 1 by omega)).trans Rp_W2.out
  have Ro_W3 : Hid ((W2.setCell ⟨w.heap.size + 1, 5, none⟩ (.bool true)).heap[w.heap.size + 1]? = some (.cells o2 34 (0, 0))) := by show _ = _; rw [← Eo2.out]; exact Ca.row_setCell Ro_W2.out 5 _
  clear B_W2 Rp_W2 Ro_W2
  obtain ⟨W3, hW⟩ : ∃ V, (W2.setCell ⟨w.heap.size + 1, 5, none⟩ (.bool true)) = V := ⟨_, rfl⟩
  rw [hW] at B_W3 Rp_W3 Ro_W3 ⊢
  clear hW
  refine hK _ _ Rp_W3.out (fun hHeld => ?_)
  try simp only [List.getElem_toArray, List.getElem_cons_zero, List.getElem_cons_succ, Act.put, List.setIfInBounds_toArray, List.set_cons_zero, List.set_cons_succ]
  refine wpAnyH_take (i := 6) (v := ?_) rfl (by kernel_rfl) (by kernel_rfl) (by kernel_rfl) (fun _ _ _ h => h) (Or.inl ⟨by rfl, ?_⟩) (by assumption) ?_
  rotate_left
  · (intro w hSw; (try dsimp only at hSw); go_simp; try with_reducible rfl)
  try simp only [List.getElem_toArray, List.getElem_cons_zero, List.getElem_cons_succ, Act.put, List.setIfInBounds_toArray, List.set_cons_zero, List.set_cons_succ]
  refine wpAnyH_ready (rs := [7]) (by kernel_rfl) (by simp) ?_
  refine AllReadyH.cons (o := _) rfl (fun K hK => ?_) AllReadyH.nil
  have hs_W4 : 6 + (#[.int .i64 op, .int .u64 sha, .int .u32 spa, .int .u64 tha, .int .u32 tpa] : Array Value).size ≤ o2.size := by rw [Zo2.out]; exact Nat.le_of_ble_eq_true (by kernel_rfl)
  refine Ca.step_store_at rfl 28 _ _ rfl (w.heap.size + 1) 6 o2 #[.int .i64 op, .int .u64 sha, .int .u32 spa, .int .u64 tha, .int .u32 tpa] 34 rfl rfl Ro_W3.out (by kernel_rfl) hs_W4 (by kernel_rfl) ?_
  intro W4 y1 y2 y3 y4
  have B_W4 : Hid (Below w.heap.size w W4) := B_W3.out.trans (y4.mono (by omega))
  have Rp_W4 : Hid (W4.heap[w.heap.size]? = some (.cells ps 34 (0, 0))) := (y2 _ (by omega)).trans Rp_W3.out
  have Ro_W4 : Hid (W4.heap[w.heap.size + 1]? = some (.cells o3 34 (0, 0))) := by show _ = _; rw [← Eo3.out]; exact y1
  clear y1 y2 y3 y4
  clear B_W3 Rp_W3 Ro_W3
  clear hs_W4
  refine hK _ _ Rp_W4.out (fun hHeld => ?_)
  try simp only [List.getElem_toArray, List.getElem_cons_zero, List.getElem_cons_succ, Act.put, List.setIfInBounds_toArray, List.set_cons_zero, List.set_cons_succ]
  refine wpAnyH_take (i := 8) (v := ?_) rfl (by kernel_rfl) (by kernel_rfl) (by kernel_rfl) (fun _ _ _ h => h) (Or.inl ⟨by rfl, ?_⟩) (by assumption) ?_
  rotate_left
  · (intro w hSw; (try dsimp only at hSw); go_simp; try with_reducible rfl)
  try simp only [List.getElem_toArray, List.getElem_cons_zero, List.getElem_cons_succ, Act.put, List.setIfInBounds_toArray, List.set_cons_zero, List.set_cons_succ]
  have c35 := (Ca.cell_row Ro_W4.out 35).trans (show _ = some (Value.string ⟨#[]⟩) by rw [← Eo3.out, ← Eo2.out, ← Eo1.out]; kernel_rfl)
  have f35 := frozen_of_row W4 _ 35 _ _ Ro_W4.out
  refine wpAnyH_ready (rs := [9]) (by kernel_rfl) (by simp) ?_
  refine AllReadyH.cons (o := _) rfl (fun K hK => ?_) AllReadyH.nil
  go_simp
  clear c35 f35
  have B_W6 : Hid (Below w.heap.size w (W4.setCell ⟨w.heap.size + 1, 35, none⟩ (.string pd))) := B_W4.out.setCell (show w.heap.size ≤ w.heap.size + 1 by omega) _
  have Rp_W6 : Hid ((W4.setCell ⟨w.heap.size + 1, 35, none⟩ (.string pd)).heap[w.heap.size]? = some (.cells ps 34 (0, 0))) := (Below.heap_setCell _ _ _ _ (show w.heap.size ≠ w.heap.size + 1 by omega)).trans Rp_W4.out
  have Ro_W6 : Hid ((W4.setCell ⟨w.heap.size + 1, 35, none⟩ (.string pd)).heap[w.heap.size + 1]? = some (.cells o4 34 (0, 0))) := by show _ = _; rw [← Eo4.out]; exact Ca.row_setCell Ro_W4.out 35 _
  clear B_W4 Rp_W4 Ro_W4
  obtain ⟨W6, hW⟩ : ∃ V, (W4.setCell ⟨w.heap.size + 1, 35, none⟩ (.string pd)) = V := ⟨_, rfl⟩
  rw [hW] at B_W6 Rp_W6 Ro_W6 ⊢
  clear hW
  refine hK _ _ Rp_W6.out (fun hHeld => ?_)
  refine wpAnyH_done (by kernel_rfl) ?_ _
  clear hHeld
  try simp only [List.getElem_toArray, List.getElem_cons_zero, List.getElem_cons_succ, Act.put, List.setIfInBounds_toArray, List.set_cons_zero, List.set_cons_succ]
  have hq := HQ.out
  go_wp2_with (first
    | refine wpList_load_row rfl 34 _ rfl (w.heap.size) rfl 34 ps (0, 0) _ Rp_W6.out Try.underlying34 rfl (info36 HS.out) ?_
    | refine wpList_load_row rfl 34 _ rfl (w.heap.size + 1) rfl 34 o4 (0, 0) _ Ro_W6.out Try.underlying34 rfl (info36 Zo4.out) ?_
    | fail)
  go_ret
  exact ⟨rfl, B_W6.out⟩
end Go.Proofs.Ytpiokeidcnbmbaa
