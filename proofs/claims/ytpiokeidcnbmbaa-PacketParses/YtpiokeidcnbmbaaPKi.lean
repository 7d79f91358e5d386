/- isOfForm of package packet, of IPv4 frames. Conditions: as said. -/
import Derived.Test.YtpiokeidcnbmbaaPKc
import Derived.Test.YtpiokeidcnbmbaaPCa
import Derived.Deep.RegionHeld3
namespace Go.Proofs.Ytpiokeidcnbmbaa
open Go.RowKit
set_option maxRecDepth 20000
set_option linter.unusedSimpArgs false
set_option maxHeartbeats 4000000 in
theorem form_ip (ps : Array Value) (hs : ps.size = 36) (d s tag : Int) (tg : Bool) (tos id fr ttl pr src dst : Int) (io : List Int) (k ty co re sp dp : Int) (ns : Bool) (sq ak fl wi ur : Int) (lo ds : List Int) (pd : ByteArray) (hE : ps.extract 0 (0 + 5) = #[.int .u64 d, .int .u64 s, .bool tg, .int .i64 tag, .int .i64 2048]) (hI : ps.extract 12 (12 + 8) = #[.int .i64 tos, .int .i64 id, .int .i64 fr, .int .i64 ttl, .int .i64 pr, .int .u32 src, .int .u32 dst, .string (strOfNums io)]) (hL : ps.extract 20 (20 + 14) = #[.int .i64 k, .int .i64 ty, .int .i64 co, .int .u32 re, .int .i64 sp, .int .i64 dp, .bool ns, .int .u32 sq, .int .u32 ak, .int .i64 fl, .int .i64 wi, .int .i64 ur, .string (strOfNums lo), .string (strOfNums ds)]) (h4 : ps[4]? = some (.int .i64 2048)) (h35 : ps[35]? = some (.string pd)) (kk : Int) (r : Bool) (w : World)
    (HQ : Hid (∀ W, (binOp .eql 34 (.agg ps) (.agg (((Ca.putC (Ca.putC ((Ca.putC zeroPk 0 (#[.int .u64 d, .int .u64 s, .bool tg, .int .i64 tag, .int .i64 2048]).toList).setIfInBounds 11 (.bool true)) 12 (#[.int .i64 tos, .int .i64 id, .int .i64 fr, .int .i64 ttl, .int .i64 pr, .int .u32 src, .int .u32 dst, .string (strOfNums io)]).toList) 20 (#[.int .i64 k, .int .i64 ty, .int .i64 co, .int .u32 re, .int .i64 sp, .int .i64 dp, .bool ns, .int .u32 sq, .int .u32 ak, .int .i64 fl, .int .i64 wi, .int .i64 ur, .string (strOfNums lo), .string (strOfNums ds)]).toList).setIfInBounds 35 (.string pd)).setIfInBounds 20 (.int .i64 kk)))).run Try.prog W = .ok (.bool r) W))
    (HC : Hid (∀ W, Calls Try.prog 57 #[.agg #[.int .i64 tos, .int .i64 id, .int .i64 fr, .int .i64 ttl, .int .i64 pr, .int .u32 src, .int .u32 dst, .string (strOfNums io)]] W fun e w' => e = .returned (.int .i64 kk) ∧ Below W.heap.size W w')) :
    Calls Try.prog 28 #[.agg ps] w fun e w' => e = .returned (.bool r) ∧ Below w.heap.size w w' := by
  obtain ⟨o1, ho1⟩ : ∃ p, Ca.putC zeroPk 0 (#[.int .u64 d, .int .u64 s, .bool tg, .int .i64 tag, .int .i64 2048]).toList = p := ⟨_, rfl⟩
  have Eo1 : Hid (Ca.putC zeroPk 0 (#[.int .u64 d, .int .u64 s, .bool tg, .int .i64 tag, .int .i64 2048]).toList = o1) := ho1
  have Zo1 : Hid (o1.size = 36) := by show _ = _; rw [← ho1]; kernel_rfl
  clear ho1
  obtain ⟨o2, ho2⟩ : ∃ p, o1.setIfInBounds 11 (.bool true) = p := ⟨_, rfl⟩
  have Eo2 : Hid (o1.setIfInBounds 11 (.bool true) = o2) := ho2
  have Zo2 : Hid (o2.size = 36) := by show _ = _; rw [← ho2]; rw [Array.size_setIfInBounds]; exact Zo1.out
  clear ho2
  obtain ⟨o3, ho3⟩ : ∃ p, Ca.putC o2 12 (#[.int .i64 tos, .int .i64 id, .int .i64 fr, .int .i64 ttl, .int .i64 pr, .int .u32 src, .int .u32 dst, .string (strOfNums io)]).toList = p := ⟨_, rfl⟩
  have Eo3 : Hid (Ca.putC o2 12 (#[.int .i64 tos, .int .i64 id, .int .i64 fr, .int .i64 ttl, .int .i64 pr, .int .u32 src, .int .u32 dst, .string (strOfNums io)]).toList = o3) := ho3
  have Zo3 : Hid (o3.size = 36) := by show _ = _; rw [← ho3]; rw [Ca.putC_size]; exact Zo2.out
  clear ho3
  obtain ⟨o4, ho4⟩ : ∃ p, Ca.putC o3 20 (#[.int .i64 k, .int .i64 ty, .int .i64 co, .int .u32 re, .int .i64 sp, .int .i64 dp, .bool ns, .int .u32 sq, .int .u32 ak, .int .i64 fl, .int .i64 wi, .int .i64 ur, .string (strOfNums lo), .string (strOfNums ds)]).toList = p := ⟨_, rfl⟩
  have Eo4 : Hid (Ca.putC o3 20 (#[.int .i64 k, .int .i64 ty, .int .i64 co, .int .u32 re, .int .i64 sp, .int .i64 dp, .bool ns, .int .u32 sq, .int .u32 ak, .int .i64 fl, .int .i64 wi, .int .i64 ur, .string (strOfNums lo), .string (strOfNums ds)]).toList = o4) := ho4
  have Zo4 : Hid (o4.size = 36) := by show _ = _; rw [← ho4]; rw [Ca.putC_size]; exact Zo3.out
  clear ho4
  obtain ⟨o5, ho5⟩ : ∃ p, o4.setIfInBounds 35 (.string pd) = p := ⟨_, rfl⟩
  have Eo5 : Hid (o4.setIfInBounds 35 (.string pd) = o5) := ho5
  have Zo5 : Hid (o5.size = 36) := by show _ = _; rw [← ho5]; rw [Array.size_setIfInBounds]; exact Zo4.out
  clear ho5
  obtain ⟨o6, ho6⟩ : ∃ p, o5.setIfInBounds 20 (.int .i64 kk) = p := ⟨_, rfl⟩
  have Eo6 : Hid (o5.setIfInBounds 20 (.int .i64 kk) = o6) := ho6
  have Zo6 : Hid (o6.size = 36) := by show _ = _; rw [← ho6]; rw [Array.size_setIfInBounds]; exact Zo5.out
  clear ho6
  rw [Eo1.out, Eo2.out, Eo3.out, Eo4.out, Eo5.out, Eo6.out] at HQ
  have h9E : (ps.extract 0 (0 + 5)).size = 5 := by rw [hE]; rfl
  have h9I : (ps.extract 12 (12 + 8)).size = 8 := by rw [hI]; rfl
  have HS : Hid (ps.size = 36) := hs
  have H4 : Hid (ps[4]? = some (.int .i64 2048)) := h4
  have H35 : Hid (ps[35]? = some (.string pd)) := h35
  have L1 : Hid _ := Ca.two_first w (.cells ps 34) (.cells zeroPk 34)
  have L3 : Hid _ := Ca.two_last w (.cells ps 34) (.cells zeroPk 34)
  have LB : Hid _ := below2 w (.cells ps 34) (.cells zeroPk 34)
  have hone1 : o1.all (·.oneCell') = true := by rw [← Eo1.out]; kernel_rfl
  have hbld : Try.prog.built 34 [(0, .agg #[.int .u64 d, .int .u64 s, .bool tg, .int .i64 tag, .int .i64 2048])] = some o1 := by rw [← Eo1.out]; kernel_rfl
  clear hs h4 h35
  go_enter Try.func28, Try.ntmps28
  go_wp2_with (first
    | (refine Ca.wpList_load_at rfl 25 _ rfl w.heap.size 0 5 rfl ps 34 _ (heap_alloc_new w _) Try.underlying25 rfl h9E (by kernel_rfl) ?_; rw [hE]; refine Ca.wpList_build_as rfl 34 _ rfl o1 (by rw [List.map_toArray]; show Try.prog.built 34 [(0, .agg #[.int .u64 d, .int .u64 s, .bool tg, .int .i64 tag, .int .i64 2048])] = _; exact hbld) ?_)
    | refine Ca.wpList_store_row rfl 34 _ _ rfl (w.heap.size + 1) zeroPk o1 34 rfl rfl L3.out (info36 Zo1.out) (Eq.trans (b := 36) rfl Zo1.out.symm) hone1 ?_
    | fail)
  intro W1 y1 y2 y3 y4
  have B_W1 : Hid (Below w.heap.size w W1) := LB.out.trans (y4.mono (by omega))
  have Rp_W1 : Hid (W1.heap[w.heap.size]? = some (.cells ps 34 (0, 0))) := (y2 _ (by omega)).trans L1.out
  have Ro_W1 : Hid (W1.heap[w.heap.size + 1]? = some (.cells o1 34 (0, 0))) := y1
  clear y1 y2 y3 y4 L1 L3 LB hbld hone1
  have c4 := (Ca.cell_row Rp_W1.out 4).trans H4.out
  go_wp2_with fail
  clear c4
  refine wp_region_held_drew (S := (fun W => W.heap[w.heap.size]? = some (.cells ps 34 (0, 0)))) (by kernel_rfl) Rp_W1.out (fun hHeld => ?_)
  have B_W2 : Hid (Below w.heap.size w W1.drew) := B_W1.out.drew
  have Rp_W2 : Hid (W1.drew.heap[w.heap.size]? = some (.cells ps 34 (0, 0))) := Rp_W1.out
  have Ro_W2 : Hid (W1.drew.heap[w.heap.size + 1]? = some (.cells o1 34 (0, 0))) := Ro_W1.out
  obtain ⟨W2, hW2⟩ : ∃ V, W1.drew = V := ⟨_, rfl⟩
  rw [hW2] at B_W2 Rp_W2 Ro_W2 hHeld ⊢
  clear hW2 B_W1 Rp_W1 Ro_W1
  refine wpAnyH_take (i := 0) (v := ?_) rfl (by kernel_rfl) (by kernel_rfl) (by kernel_rfl) (fun _ _ _ h => h) (Or.inl ⟨by rfl, ?_⟩) (by assumption) ?_
  rotate_left
  · (intro w hSw; (try dsimp only at hSw); go_simp; try with_reducible rfl)
  try simp only [List.getElem_toArray, List.getElem_cons_zero, List.getElem_cons_succ, Act.put, List.setIfInBounds_toArray, List.set_cons_zero, List.set_cons_succ]
  refine wpAnyH_take (i := 1) (v := .agg #[.int .i64 tos, .int .i64 id, .int .i64 fr, .int .i64 ttl, .int .i64 pr, .int .u32 src, .int .u32 dst, .string (strOfNums io)]) rfl (by kernel_rfl) (by kernel_rfl) (by kernel_rfl) (fun _ _ _ h => h) (Ca.yields_at (by rfl) 30 _ rfl (w.heap.size) 12 8 rfl 34 ps #[.int .i64 tos, .int .i64 id, .int .i64 fr, .int .i64 ttl, .int .i64 pr, .int .u32 src, .int .u32 dst, .string (strOfNums io)] _ (fun W hW => hW) hI rfl Try.underlying30 rfl (by kernel_rfl)) (by assumption) ?_
  try simp only [List.getElem_toArray, List.getElem_cons_zero, List.getElem_cons_succ, Act.put, List.setIfInBounds_toArray, List.set_cons_zero, List.set_cons_succ]
  refine wpAnyH_take (i := 2) (v := ?_) rfl (by kernel_rfl) (by kernel_rfl) (by kernel_rfl) (fun _ _ _ h => h) (Or.inl ⟨by rfl, ?_⟩) (by assumption) ?_
  rotate_left
  · (intro w hSw; (try dsimp only at hSw); go_simp; try with_reducible rfl)
  try simp only [List.getElem_toArray, List.getElem_cons_zero, List.getElem_cons_succ, Act.put, List.setIfInBounds_toArray, List.set_cons_zero, List.set_cons_succ]
  refine wpAnyH_take (i := 3) (v := .agg #[.int .i64 k, .int .i64 ty, .int .i64 co, .int .u32 re, .int .i64 sp, .int .i64 dp, .bool ns, .int .u32 sq, .int .u32 ak, .int .i64 fl, .int .i64 wi, .int .i64 ur, .string (strOfNums lo), .string (strOfNums ds)]) rfl (by kernel_rfl) (by kernel_rfl) (by kernel_rfl) (fun _ _ _ h => h) (Ca.yields_at (by rfl) 32 _ rfl (w.heap.size) 20 14 rfl 34 ps #[.int .i64 k, .int .i64 ty, .int .i64 co, .int .u32 re, .int .i64 sp, .int .i64 dp, .bool ns, .int .u32 sq, .int .u32 ak, .int .i64 fl, .int .i64 wi, .int .i64 ur, .string (strOfNums lo), .string (strOfNums ds)] _ (fun W hW => hW) hL rfl Try.underlying32 rfl (by kernel_rfl)) (by assumption) ?_
  try simp only [List.getElem_toArray, List.getElem_cons_zero, List.getElem_cons_succ, Act.put, List.setIfInBounds_toArray, List.set_cons_zero, List.set_cons_succ]
  refine wpAnyH_take (i := 4) (v := ?_) rfl (by kernel_rfl) (by kernel_rfl) (by kernel_rfl) (fun _ _ _ h => h) (Or.inl ⟨by rfl, ?_⟩) (by assumption) ?_
  rotate_left
  · (intro w hSw; (try dsimp only at hSw); go_simp; try with_reducible rfl)
  try simp only [List.getElem_toArray, List.getElem_cons_zero, List.getElem_cons_succ, Act.put, List.setIfInBounds_toArray, List.set_cons_zero, List.set_cons_succ]
  refine wpAnyH_take (i := 5) (v := .string pd) rfl (by kernel_rfl) (by kernel_rfl) (by kernel_rfl) (fun _ _ _ h => h) (Or.inl ⟨by rfl, fun W hW => by have c := (Ca.cell_row hW 35).trans H35.out; go_simp⟩) (by assumption) ?_
  try simp only [List.getElem_toArray, List.getElem_cons_zero, List.getElem_cons_succ, Act.put, List.setIfInBounds_toArray, List.set_cons_zero, List.set_cons_succ]
  refine wpAnyH_take (i := 6) (v := ?_) rfl (by kernel_rfl) (by kernel_rfl) (by kernel_rfl) (fun _ _ _ h => h) (Or.inl ⟨by rfl, ?_⟩) (by assumption) ?_
  rotate_left
  · (intro w hSw; (try dsimp only at hSw); go_simp; try with_reducible rfl)
  try simp only [List.getElem_toArray, List.getElem_cons_zero, List.getElem_cons_succ, Act.put, List.setIfInBounds_toArray, List.set_cons_zero, List.set_cons_succ]
  have c11 := (Ca.cell_row Ro_W2.out 11).trans (show _ = some (Value.bool false) by rw [← Eo1.out]; kernel_rfl)
  have f11 := frozen_of_row W2 _ 11 _ _ Ro_W2.out
  refine wpAnyH_ready (rs := [7]) (by kernel_rfl) (by simp) ?_
  refine AllReadyH.cons (o := _) rfl (fun K hK => ?_) AllReadyH.nil
  go_simp
  clear c11 f11
  have B_W3 : Hid (Below w.heap.size w (W2.setCell ⟨w.heap.size + 1, 11, none⟩ (.bool true))) := B_W2.out.setCell (show w.heap.size ≤ w.heap.size + 1 by omega) _
  have Rp_W3 : Hid ((W2.setCell ⟨w.heap.size + 1, 11, none⟩ (.bool true)).heap[w.heap.size]? = some (.cells ps 34 (0, 0))) := (Below.heap_setCell _ _ _ _ (show w.heap.size ≠ w.heap.size + 1 by omega)).trans Rp_W2.out
  have Ro_W3 : Hid ((W2.setCell ⟨w.heap.size + 1, 11, none⟩ (.bool true)).heap[w.heap.size + 1]? = some (.cells o2 34 (0, 0))) := by show _ = _; rw [← Eo2.out]; exact Ca.row_setCell Ro_W2.out 11 _
  clear B_W2 Rp_W2 Ro_W2
  obtain ⟨W3, hW⟩ : ∃ V, (W2.setCell ⟨w.heap.size + 1, 11, none⟩ (.bool true)) = V := ⟨_, rfl⟩
  rw [hW] at B_W3 Rp_W3 Ro_W3 ⊢
  clear hW
  refine hK _ _ Rp_W3.out (fun hHeld => ?_)
  try simp only [List.getElem_toArray, List.getElem_cons_zero, List.getElem_cons_succ, Act.put, List.setIfInBounds_toArray, List.set_cons_zero, List.set_cons_succ]
  refine wpAnyH_take (i := 8) (v := ?_) rfl (by kernel_rfl) (by kernel_rfl) (by kernel_rfl) (fun _ _ _ h => h) (Or.inl ⟨by rfl, ?_⟩) (by assumption) ?_
  rotate_left
  · (intro w hSw; (try dsimp only at hSw); go_simp; try with_reducible rfl)
  try simp only [List.getElem_toArray, List.getElem_cons_zero, List.getElem_cons_succ, Act.put, List.setIfInBounds_toArray, List.set_cons_zero, List.set_cons_succ]
  refine wpAnyH_ready (rs := [9]) (by kernel_rfl) (by simp) ?_
  refine AllReadyH.cons (o := _) rfl (fun K hK => ?_) AllReadyH.nil
  have hs_W4 : 12 + (#[.int .i64 tos, .int .i64 id, .int .i64 fr, .int .i64 ttl, .int .i64 pr, .int .u32 src, .int .u32 dst, .string (strOfNums io)] : Array Value).size ≤ o2.size := by rw [Zo2.out]; exact Nat.le_of_ble_eq_true (by kernel_rfl)
  refine Ca.step_store_at rfl 30 _ _ rfl (w.heap.size + 1) 12 o2 #[.int .i64 tos, .int .i64 id, .int .i64 fr, .int .i64 ttl, .int .i64 pr, .int .u32 src, .int .u32 dst, .string (strOfNums io)] 34 rfl rfl Ro_W3.out (by kernel_rfl) hs_W4 (by kernel_rfl) ?_
  intro W4 y1 y2 y3 y4
  have B_W4 : Hid (Below w.heap.size w W4) := B_W3.out.trans (y4.mono (by omega))
  have Rp_W4 : Hid (W4.heap[w.heap.size]? = some (.cells ps 34 (0, 0))) := (y2 _ (by omega)).trans Rp_W3.out
  have Ro_W4 : Hid (W4.heap[w.heap.size + 1]? = some (.cells o3 34 (0, 0))) := by show _ = _; rw [← Eo3.out]; exact y1
  clear y1 y2 y3 y4
  clear B_W3 Rp_W3 Ro_W3
  clear hs_W4
  refine hK _ _ Rp_W4.out (fun hHeld => ?_)
  try simp only [List.getElem_toArray, List.getElem_cons_zero, List.getElem_cons_succ, Act.put, List.setIfInBounds_toArray, List.set_cons_zero, List.set_cons_succ]
  refine wpAnyH_take (i := 10) (v := ?_) rfl (by kernel_rfl) (by kernel_rfl) (by kernel_rfl) (fun _ _ _ h => h) (Or.inl ⟨by rfl, ?_⟩) (by assumption) ?_
  rotate_left
  · (intro w hSw; (try dsimp only at hSw); go_simp; try with_reducible rfl)
  try simp only [List.getElem_toArray, List.getElem_cons_zero, List.getElem_cons_succ, Act.put, List.setIfInBounds_toArray, List.set_cons_zero, List.set_cons_succ]
  refine wpAnyH_ready (rs := [11]) (by kernel_rfl) (by simp) ?_
  refine AllReadyH.cons (o := _) rfl (fun K hK => ?_) AllReadyH.nil
  have hs_W5 : 20 + (#[.int .i64 k, .int .i64 ty, .int .i64 co, .int .u32 re, .int .i64 sp, .int .i64 dp, .bool ns, .int .u32 sq, .int .u32 ak, .int .i64 fl, .int .i64 wi, .int .i64 ur, .string (strOfNums lo), .string (strOfNums ds)] : Array Value).size ≤ o3.size := by rw [Zo3.out]; exact Nat.le_of_ble_eq_true (by kernel_rfl)
  refine Ca.step_store_at rfl 32 _ _ rfl (w.heap.size + 1) 20 o3 #[.int .i64 k, .int .i64 ty, .int .i64 co, .int .u32 re, .int .i64 sp, .int .i64 dp, .bool ns, .int .u32 sq, .int .u32 ak, .int .i64 fl, .int .i64 wi, .int .i64 ur, .string (strOfNums lo), .string (strOfNums ds)] 34 rfl rfl Ro_W4.out (by kernel_rfl) hs_W5 (by kernel_rfl) ?_
  intro W5 y1 y2 y3 y4
  have B_W5 : Hid (Below w.heap.size w W5) := B_W4.out.trans (y4.mono (by omega))
  have Rp_W5 : Hid (W5.heap[w.heap.size]? = some (.cells ps 34 (0, 0))) := (y2 _ (by omega)).trans Rp_W4.out
  have Ro_W5 : Hid (W5.heap[w.heap.size + 1]? = some (.cells o4 34 (0, 0))) := by show _ = _; rw [← Eo4.out]; exact y1
  clear y1 y2 y3 y4
  clear B_W4 Rp_W4 Ro_W4
  clear hs_W5
  refine hK _ _ Rp_W5.out (fun hHeld => ?_)
  try simp only [List.getElem_toArray, List.getElem_cons_zero, List.getElem_cons_succ, Act.put, List.setIfInBounds_toArray, List.set_cons_zero, List.set_cons_succ]
  refine wpAnyH_take (i := 12) (v := ?_) rfl (by kernel_rfl) (by kernel_rfl) (by kernel_rfl) (fun _ _ _ h => h) (Or.inl ⟨by rfl, ?_⟩) (by assumption) ?_
  rotate_left
  · (intro w hSw; (try dsimp only at hSw); go_simp; try with_reducible rfl)
  try simp only [List.getElem_toArray, List.getElem_cons_zero, List.getElem_cons_succ, Act.put, List.setIfInBounds_toArray, List.set_cons_zero, List.set_cons_succ]
  have c35 := (Ca.cell_row Ro_W5.out 35).trans (show _ = some (Value.string ⟨#[]⟩) by rw [← Eo4.out, ← Eo3.out, ← Eo2.out, ← Eo1.out]; kernel_rfl)
  have f35 := frozen_of_row W5 _ 35 _ _ Ro_W5.out
  refine wpAnyH_ready (rs := [13]) (by kernel_rfl) (by simp) ?_
  refine AllReadyH.cons (o := _) rfl (fun K hK => ?_) AllReadyH.nil
  go_simp
  clear c35 f35
  have B_W6 : Hid (Below w.heap.size w (W5.setCell ⟨w.heap.size + 1, 35, none⟩ (.string pd))) := B_W5.out.setCell (show w.heap.size ≤ w.heap.size + 1 by omega) _
  have Rp_W6 : Hid ((W5.setCell ⟨w.heap.size + 1, 35, none⟩ (.string pd)).heap[w.heap.size]? = some (.cells ps 34 (0, 0))) := (Below.heap_setCell _ _ _ _ (show w.heap.size ≠ w.heap.size + 1 by omega)).trans Rp_W5.out
  have Ro_W6 : Hid ((W5.setCell ⟨w.heap.size + 1, 35, none⟩ (.string pd)).heap[w.heap.size + 1]? = some (.cells o5 34 (0, 0))) := by show _ = _; rw [← Eo5.out]; exact Ca.row_setCell Ro_W5.out 35 _
  clear B_W5 Rp_W5 Ro_W5
  obtain ⟨W6, hW⟩ : ∃ V, (W5.setCell ⟨w.heap.size + 1, 35, none⟩ (.string pd)) = V := ⟨_, rfl⟩
  rw [hW] at B_W6 Rp_W6 Ro_W6 ⊢
  clear hW
  refine hK _ _ Rp_W6.out (fun hHeld => ?_)
  refine wpAnyH_done (by kernel_rfl) ?_ _
  clear hHeld
  try simp only [List.getElem_toArray, List.getElem_cons_zero, List.getElem_cons_succ, Act.put, List.setIfInBounds_toArray, List.set_cons_zero, List.set_cons_succ]
  go_wp2_with (refine Ca.wpList_load_at rfl 30 _ rfl (w.heap.size) 12 8 rfl ps 34 _ Rp_W6.out Try.underlying30 rfl h9I (by kernel_rfl) ?_; rw [hI])
  refine (HC.out _).mono ?_
  rintro e W7 ⟨rfl, hb⟩
  have B_W7 : Hid (Below w.heap.size w W7) := B_W6.out.trans (hb.mono B_W6.out.size)
  have Rp_W7 : Hid (W7.heap[w.heap.size]? = some (.cells ps 34 (0, 0))) := (hb.block _ (Ca.lt_of_heap Rp_W6.out)).trans Rp_W6.out
  have Ro_W7 : Hid (W7.heap[w.heap.size + 1]? = some (.cells o5 34 (0, 0))) := (hb.block _ (Ca.lt_of_heap Ro_W6.out)).trans Ro_W6.out
  clear hb HC B_W6 Rp_W6 Ro_W6
  have c20 := (Ca.cell_row Ro_W7.out 20).trans (show _ = some (Value.int .i64 k) by rw [← Eo5.out, ← Eo4.out, ← Eo3.out, ← Eo2.out, ← Eo1.out]; kernel_rfl)
  have f20 := frozen_of_row W7 _ 20 _ _ Ro_W7.out
  have B_x : Hid (Below w.heap.size w (W7.setCell ⟨w.heap.size + 1, 20, none⟩ (.int .i64 kk))) := B_W7.out.setCell (show w.heap.size ≤ w.heap.size + 1 by omega) _
  have Rp_x : Hid ((W7.setCell ⟨w.heap.size + 1, 20, none⟩ (.int .i64 kk)).heap[w.heap.size]? = some (.cells ps 34 (0, 0))) := (Below.heap_setCell _ _ _ _ (show w.heap.size ≠ w.heap.size + 1 by omega)).trans Rp_W7.out
  have Ro_x : Hid ((W7.setCell ⟨w.heap.size + 1, 20, none⟩ (.int .i64 kk)).heap[w.heap.size + 1]? = some (.cells o6 34 (0, 0))) := by show _ = _; rw [← Eo6.out]; exact Ca.row_setCell Ro_W7.out 20 _
  clear B_W7 Rp_W7 Ro_W7
  have hq := HQ.out
  go_wp2_with (first
    | refine wpList_load_row rfl 34 _ rfl (w.heap.size) rfl 34 ps (0, 0) _ Rp_x.out Try.underlying34 rfl (info36 HS.out) ?_
    | refine wpList_load_row rfl 34 _ rfl (w.heap.size + 1) rfl 34 o6 (0, 0) _ Ro_x.out Try.underlying34 rfl (info36 Zo6.out) ?_
    | fail)
  go_ret
  exact ⟨rfl, B_x.out⟩
end Go.Proofs.Ytpiokeidcnbmbaa
