/- hold: a connection comes into a zone that has none, in a table that has none. Conditions: as said. -/
import Derived.Test.YtjjehncnjcepkaaCJ
namespace Go.Proofs.Ytjjehncnjcepkaa
open Go.RowKit
theorem look_ok {K : Type} [DecidableEq K] {KT MT ET : TypeId} {kv : K → Value} (hK : KeyK KT kv) (hu : Try.prog.underlying MT = some (.map KT ET)) (z : Value) (hz : ∀ W, (zeroValue ET).run Try.prog W = .ok z W) {w : World} {r c : Nat} {l : List (K × Value × Nat)} (hb : w.heap[r]? = some (.map (entG kv l).toArray c)) (t : K) (hf : findG t l 0 = none) :
    (Instr.lookup MT (.map (some r)) (kv t) true).run Try.prog w = .ok (.tuple #[z, .bool false]) w := by
  simp only [Instr.lookup, Sem.run_bind, run_underlying hu, Result.andThen_ok, MapKept.run_getObj_map hb, Sem.run_pure, hK.check, hK.find, hf, hz]
  simp
theorem yields_lookup2 {ops : Array Oper} {S : World → Prop} {op : Oper} {a : Act} (hw : Region.wanted op (yielded ops a.tmps) = true) (mt : TypeId) (x i : Operand) (ho : op.op = .lookup mt x i true)
    (m k v : Value) (hx : a.eval x = m) (hi : a.eval i = k) (h : ∀ w, S w → (Instr.lookup mt m k true).run Try.prog w = .ok v w) : YieldsIf Try.prog ops S op v a :=
  .inl ⟨hw, fun w hw' => by
    unfold execOp
    simp only [ho, hx, hi, Sem.run_bind, h w hw', Result.andThen_ok, Sem.run_pure]⟩
theorem zero_zone (W : World) : (zeroValue 60).run Try.prog W = .ok (.agg #[.map none, .map none]) W := by kernel_rfl
theorem conn_size (z : Int) (o r : Tup) (nat : Bool) (ex : Int) : (connC z o r nat ex).size = 13 := rfl
theorem conn_one (z : Int) (o r : Tup) (nat : Bool) (ex : Int) : (connC z o r nat ex).all (·.oneCell') = true := by kernel_rfl
theorem ent_built (z : Int) (o r : Tup) (nat : Bool) (ex : Int) : Try.prog.built 68 [(0, .agg (connC z o r nat ex))] = some (entC z o r nat ex 0) := by kernel_rfl
set_option linter.unusedSimpArgs false in
set_option maxRecDepth 20000 in
set_option maxHeartbeats 4000000 in
theorem hold_new (tb zb c B : Nat) (room clock : Int) (q : Value) (l : List (Int × Value × Nat)) (z : Int) (o r : Tup) (nat : Bool) (ex : Int) (w : World) (h : w.heap[tb]? = some (.cells (tabV room clock zb q) 65 (0, 0))) (hz : w.heap[zb]? = some (.map (entG iv l).toArray c)) (hf : findG z l 0 = none) (hq : w.ownsRow B 66 1 q 0 []) (hB : B ≤ w.heap.size) (hBt : B ≤ tb) (hBz : B ≤ zb) :
    Calls Try.prog 42 #[.pointer (some ⟨tb, 0, none⟩), .agg (connC z o r nat ex)] w fun e w' => e = .returned (.tuple #[]) ∧ ∃ qa qc eb g1 g2, w.heap.size ≤ eb ∧ w.heap.size ≤ g1 ∧ w.heap.size ≤ g2 ∧ g1 ≠ g2 ∧ w'.heap[tb]? = some (.cells (tabV room clock zb (.slice qa 1 qc)) 65 (0, 0)) ∧ w'.heap[zb]? = some (.map (entG iv (l ++ [(z, .agg #[.map (some g1), .map (some g2)], c)])).toArray (c + 1)) ∧ w'.heap[g1]? = some (.map (entG tv [(o, .pointer (some ⟨eb, 0, none⟩), 0)]).toArray 1) ∧ w'.heap[g2]? = some (.map (entG tv [(r, .pointer (some ⟨eb, 0, none⟩), 0)]).toArray 1) ∧ w'.heap[eb]? = some (.cells (entC z o r nat ex 0) 68 (0, 0)) ∧ w'.ownsRow B 66 1 (.slice qa 1 qc) 1 [.pointer (some ⟨eb, 0, none⟩)] ∧ Below B w w' ∧ (∀ g, g < w.heap.size → g ≠ tb → g ≠ zb → (∀ C, w.heap[g]? ≠ some (.cells C 66 (0, 0))) → w'.heap[g]? = w.heap[g]?) := by
  obtain ⟨cn, hcn⟩ : ∃ cn, connC z o r nat ex = cn := ⟨_, rfl⟩
  have hc0 : cn[0]? = some (.int .i64 z) := by rw [← hcn]; rfl
  have hc13 : cn.size = 13 := by rw [← hcn]; rfl
  have HCE : Hid _ := hcn
  have HC13 : Hid _ := hc13
  have HC0 : Hid _ := hc0
  rw [hcn]
  have hlt := lt_of_heap h
  have hlz := lt_of_heap hz
  have htz : tb ≠ zb := fun e => by subst e; rw [h] at hz; cases hz
  have H : Hid _ := h
  have HZ : Hid _ := hz
  have HF : Hid _ := hf
  have HQ : Hid _ := hq
  have A0 : Hid _ := heap_alloc_new w (.cells cn 51)
  have key : ∀ W, Below w.heap.size w W → W.heap[w.heap.size]? = some (.cells cn 51 (0, 0)) → W.cell? ⟨tb, 2, none⟩ = some (.map (some zb)) ∧ W.cell? ⟨w.heap.size, 0, none⟩ = some (.int .i64 z) ∧ W.heap[zb]? = some (.map (entG iv l).toArray c) := fun W hb hc =>
    ⟨cell_row ((hb.block _ hlt).trans H.out) 2, (cell_row hc 0).trans HC0.out, (hb.block _ hlz).trans HZ.out⟩
  have KC : Hid _ := key
  clear hcn hc0 hc13 h hz hf hq key
  go_enter Try.func42, Try.ntmps42
  go_wp2_with fail
  refine wp_region_held_drew (S := (fun W => W.cell? ⟨tb, 2, none⟩ = some (.map (some zb)) ∧ W.cell? ⟨w.heap.size, 0, none⟩ = some (.int .i64 z) ∧ W.heap[zb]? = some (.map (entG iv l).toArray c))) (by kernel_rfl) ?_ (fun hHeld => ?_)
  · exact KC.out _ (below1 w _).drew A0.out
  refine wpAnyH_take (i := 0) (v := ?_) rfl (by kernel_rfl) (by kernel_rfl) (by kernel_rfl) (fun _ _ _ h => h) (Or.inl ⟨by rfl, ?_⟩) (by assumption) ?_
  rotate_left
  · (intro w hSw; (try dsimp only at hSw); go_simp; try with_reducible rfl)
  try simp only [List.getElem_toArray, List.getElem_cons_zero, List.getElem_cons_succ, Act.put, List.setIfInBounds_toArray, List.set_cons_zero, List.set_cons_succ]
  refine wpAnyH_take (i := 1) (v := ?_) rfl (by kernel_rfl) (by kernel_rfl) (by kernel_rfl) (fun _ _ _ h => h) (Or.inl ⟨by rfl, ?_⟩) (by assumption) ?_
  rotate_left
  · (intro w hSw; (try dsimp only at hSw); go_simp; try with_reducible rfl)
  try simp only [List.getElem_toArray, List.getElem_cons_zero, List.getElem_cons_succ, Act.put, List.setIfInBounds_toArray, List.set_cons_zero, List.set_cons_succ]
  refine wpAnyH_take (i := 2) (v := ?_) rfl (by kernel_rfl) (by kernel_rfl) (by kernel_rfl) (fun _ _ _ h => h) (Or.inl ⟨by rfl, ?_⟩) (by assumption) ?_
  rotate_left
  · (intro w hSw; (try dsimp only at hSw); go_simp; try with_reducible rfl)
  try simp only [List.getElem_toArray, List.getElem_cons_zero, List.getElem_cons_succ, Act.put, List.setIfInBounds_toArray, List.set_cons_zero, List.set_cons_succ]
  refine wpAnyH_take (i := 3) (v := ?_) rfl (by kernel_rfl) (by kernel_rfl) (by kernel_rfl) (fun _ _ _ h => h) (Or.inl ⟨by rfl, ?_⟩) (by assumption) ?_
  rotate_left
  · (intro w hSw; (try dsimp only at hSw); go_simp; try with_reducible rfl)
  try simp only [List.getElem_toArray, List.getElem_cons_zero, List.getElem_cons_succ, Act.put, List.setIfInBounds_toArray, List.set_cons_zero, List.set_cons_succ]
  refine wpAnyH_take (i := 4) (v := ?_) rfl (by kernel_rfl) (by kernel_rfl) (by kernel_rfl) (fun _ _ _ h => h) (Or.inl ⟨by rfl, ?_⟩) (by assumption) ?_
  rotate_left
  · (intro w hSw; (try dsimp only at hSw); go_simp; try with_reducible rfl)
  try simp only [List.getElem_toArray, List.getElem_cons_zero, List.getElem_cons_succ, Act.put, List.setIfInBounds_toArray, List.set_cons_zero, List.set_cons_succ]
  refine wpAnyH_take (i := 5) (v := ?_) rfl (by kernel_rfl) (by kernel_rfl) (by kernel_rfl) (fun _ _ _ h => h) (Or.inl ⟨by rfl, ?_⟩) (by assumption) ?_
  rotate_left
  · (intro w hSw; (try dsimp only at hSw); go_simp; try with_reducible rfl)
  try simp only [List.getElem_toArray, List.getElem_cons_zero, List.getElem_cons_succ, Act.put, List.setIfInBounds_toArray, List.set_cons_zero, List.set_cons_succ]
  refine wpAnyH_take (i := 6) (v := .tuple #[.agg #[.map none, .map none], .bool false]) rfl (by kernel_rfl) (by kernel_rfl) (by kernel_rfl) (fun _ _ _ h => h) (yields_lookup2 (by rfl) 61 _ _ rfl (.map (some zb)) (iv z) _ rfl rfl (fun W h => look_ok intK Try.underlying61 _ zero_zone h.2.2 z HF.out)) (by assumption) ?_
  try simp only [List.getElem_toArray, List.getElem_cons_zero, List.getElem_cons_succ, Act.put, List.setIfInBounds_toArray, List.set_cons_zero, List.set_cons_succ]
  refine wpAnyH_take (i := 7) (v := ?_) rfl (by kernel_rfl) (by kernel_rfl) (by kernel_rfl) (fun _ _ _ h => h) (Or.inl ⟨by rfl, ?_⟩) (by assumption) ?_
  rotate_left
  · (intro w hSw; (try dsimp only at hSw); go_simp; try with_reducible rfl)
  try simp only [List.getElem_toArray, List.getElem_cons_zero, List.getElem_cons_succ, Act.put, List.setIfInBounds_toArray, List.set_cons_zero, List.set_cons_succ]
  refine wpAnyH_take (i := 8) (v := ?_) rfl (by kernel_rfl) (by kernel_rfl) (by kernel_rfl) (fun _ _ _ h => h) (Or.inl ⟨by rfl, ?_⟩) (by assumption) ?_
  rotate_left
  · (intro w hSw; (try dsimp only at hSw); go_simp; try with_reducible rfl)
  try simp only [List.getElem_toArray, List.getElem_cons_zero, List.getElem_cons_succ, Act.put, List.setIfInBounds_toArray, List.set_cons_zero, List.set_cons_succ]
  refine wpAnyH_take (i := 9) (v := ?_) rfl (by kernel_rfl) (by kernel_rfl) (by kernel_rfl) (fun _ _ _ h => h) (Or.inl ⟨by rfl, ?_⟩) (by assumption) ?_
  rotate_left
  · (intro w hSw; (try dsimp only at hSw); go_simp; try with_reducible rfl)
  try simp only [List.getElem_toArray, List.getElem_cons_zero, List.getElem_cons_succ, Act.put, List.setIfInBounds_toArray, List.set_cons_zero, List.set_cons_succ]
  refine wpAnyH_ready (rs := [10]) (by kernel_rfl) (by simp) ?_
  refine AllReadyH.cons (o := _) rfl (fun K hK => ?_) AllReadyH.nil
  go_simp
  have B0 : Hid (((w.alloc (.cells cn 51)).alloc (.cells #[.map none, .map none] 60)).drew.heap[w.heap.size]? = some (.cells cn 51 (0, 0))) := two_first _ _ _
  have B1 : Hid (((w.alloc (.cells cn 51)).alloc (.cells #[.map none, .map none] 60)).drew.heap[w.heap.size + 1]? = some (.cells #[.map none, .map none] 60 (0, 0))) := two_last _ _ _
  have BB : Hid (Below w.heap.size w ((w.alloc (.cells cn 51)).alloc (.cells #[.map none, .map none] 60)).drew) := (below2 _ _ _).drew
  refine hK.out _ _ (KC.out _ BB.out B0.out) (fun hHeld2 => ?_)
  clear hK K hHeld hHeld2
  try simp only [List.getElem_toArray, List.getElem_cons_zero, List.getElem_cons_succ, Act.put, List.setIfInBounds_toArray, List.set_cons_zero, List.set_cons_succ]
  refine wpAnyH_ready (rs := [11]) (by kernel_rfl) (by simp) ?_
  refine AllReadyH.cons (o := _) rfl (fun K hK => ?_) AllReadyH.nil
  refine wp_store_row 60 _ _ rfl (w.heap.size + 1) #[.map none, .map none] #[.map none, .map none] 60 rfl rfl B1.out size2 rfl (by kernel_rfl) ?_
  intro W1 z1 z2 z3 z4
  have C0 : Hid (W1.heap[w.heap.size]? = some (.cells cn 51 (0, 0))) := (z2 _ (by omega)).trans B0.out
  have CB : Hid (Below w.heap.size w W1) := BB.out.trans (z4.mono (by omega))
  have C1 : Hid _ := z1
  clear z1 z2 z3 z4
  refine hK.out _ _ (KC.out _ CB.out C0.out) (fun hHeld => ?_)
  clear hK K
  try simp only [List.getElem_toArray, List.getElem_cons_zero, List.getElem_cons_succ, Act.put, List.setIfInBounds_toArray, List.set_cons_zero, List.set_cons_succ]
  refine wpAnyH_take (i := 12) (v := ?_) rfl (by kernel_rfl) (by kernel_rfl) (by kernel_rfl) (fun _ _ _ h => h) (Or.inl ⟨by rfl, ?_⟩) (by assumption) ?_
  rotate_left
  · (intro w hSw; (try dsimp only at hSw); go_simp; try with_reducible rfl)
  try simp only [List.getElem_toArray, List.getElem_cons_zero, List.getElem_cons_succ, Act.put, List.setIfInBounds_toArray, List.set_cons_zero, List.set_cons_succ]
  clear hHeld B0 B1 BB
  refine wpAnyH_done (by kernel_rfl) ?_ _
  go_wp2_with fail
  refine (newZone_any _).mono ?_
  rintro e W2 ⟨rfl, g1f, g2f, hb2⟩
  have hl1 : w.heap.size + 1 < W1.heap.size := lt_of_heap C1.out
  have D0 : Hid (W2.heap[w.heap.size]? = some (.cells cn 51 (0, 0))) := (hb2.block _ (by omega)).trans C0.out
  have D1 : Hid (W2.heap[w.heap.size + 1]? = some (.cells #[.map none, .map none] 60 (0, 0))) := (hb2.block _ (by omega)).trans C1.out
  have DB : Hid (Below w.heap.size w W2) := CB.out.trans (hb2.mono CB.out.size)
  obtain ⟨g1, hg1⟩ : ∃ g1, W1.heap.size + 1 = g1 := ⟨_, rfl⟩
  obtain ⟨g2, hg2⟩ : ∃ g2, W1.heap.size + 1 + 1 = g2 := ⟨_, rfl⟩
  rw [hg2] at g2f
  rw [hg1] at g1f
  rw [hg2, hg1]
  have hgw : w.heap.size + 1 < g1 ∧ g1 < g2 := by omega
  have G1 : Hid (W2.heap[g1]? = some (.map (entG tv []).toArray 0)) := g1f
  have G2 : Hid (W2.heap[g2]? = some (.map (entG tv []).toArray 0)) := g2f
  clear hb2 g1f g2f hg1 hg2 hl1 C0 C1 CB
  go_wp2_with (first
    | refine wpList_store_row rfl 60 _ _ rfl (w.heap.size + 1) #[.map none, .map none] #[.map (some g1), .map (some g2)] 60 rfl rfl D1.out size2 rfl (by kernel_rfl) ?_
    | fail)
  intro W3 y1 y2 y3 y4
  have E0 : Hid (W3.heap[w.heap.size]? = some (.cells cn 51 (0, 0))) := (y2 _ (by omega)).trans D0.out
  have E1 : Hid _ := y1
  have EB : Hid (Below w.heap.size w W3) := DB.out.trans (y4.mono (by omega))
  have G1' : Hid (W3.heap[g1]? = some (.map (entG tv []).toArray 0)) := (y2 _ (by omega)).trans G1.out
  have G2' : Hid (W3.heap[g2]? = some (.map (entG tv []).toArray 0)) := (y2 _ (by omega)).trans G2.out
  clear y1 y2 y3 y4 D0 D1 DB G1 G2
  go_wp2_with fail
  refine wp_region_held_drew (S := (fun W => W.cell? ⟨tb, 2, none⟩ = some (.map (some zb)) ∧ W.cell? ⟨w.heap.size, 0, none⟩ = some (.int .i64 z) ∧ W.heap[w.heap.size + 1]? = some (.cells #[.map (some g1), .map (some g2)] 60 (0, 0)))) (by kernel_rfl) ?_ (fun hHeld => ?_)
  · have k := KC.out _ EB.out E0.out
    exact ⟨k.1, k.2.1, E1.out⟩
  refine wpAnyH_take (i := 0) (v := ?_) rfl (by kernel_rfl) (by kernel_rfl) (by kernel_rfl) (fun _ _ _ h => h) (Or.inl ⟨by rfl, ?_⟩) (by assumption) ?_
  rotate_left
  · (intro w hSw; (try dsimp only at hSw); go_simp; try with_reducible rfl)
  try simp only [List.getElem_toArray, List.getElem_cons_zero, List.getElem_cons_succ, Act.put, List.setIfInBounds_toArray, List.set_cons_zero, List.set_cons_succ]
  refine wpAnyH_take (i := 1) (v := ?_) rfl (by kernel_rfl) (by kernel_rfl) (by kernel_rfl) (fun _ _ _ h => h) (Or.inl ⟨by rfl, ?_⟩) (by assumption) ?_
  rotate_left
  · (intro w hSw; (try dsimp only at hSw); go_simp; try with_reducible rfl)
  try simp only [List.getElem_toArray, List.getElem_cons_zero, List.getElem_cons_succ, Act.put, List.setIfInBounds_toArray, List.set_cons_zero, List.set_cons_succ]
  refine wpAnyH_take (i := 2) (v := ?_) rfl (by kernel_rfl) (by kernel_rfl) (by kernel_rfl) (fun _ _ _ h => h) (Or.inl ⟨by rfl, ?_⟩) (by assumption) ?_
  rotate_left
  · (intro w hSw; (try dsimp only at hSw); go_simp; try with_reducible rfl)
  try simp only [List.getElem_toArray, List.getElem_cons_zero, List.getElem_cons_succ, Act.put, List.setIfInBounds_toArray, List.set_cons_zero, List.set_cons_succ]
  refine wpAnyH_take (i := 3) (v := ?_) rfl (by kernel_rfl) (by kernel_rfl) (by kernel_rfl) (fun _ _ _ h => h) (Or.inl ⟨by rfl, ?_⟩) (by assumption) ?_
  rotate_left
  · (intro w hSw; (try dsimp only at hSw); go_simp; try with_reducible rfl)
  try simp only [List.getElem_toArray, List.getElem_cons_zero, List.getElem_cons_succ, Act.put, List.setIfInBounds_toArray, List.set_cons_zero, List.set_cons_succ]
  refine wpAnyH_take (i := 4) (v := ?_) rfl (by kernel_rfl) (by kernel_rfl) (by kernel_rfl) (fun _ _ _ h => h) (Or.inl ⟨by rfl, ?_⟩) (by assumption) ?_
  rotate_left
  · (intro w hSw; (try dsimp only at hSw); go_simp; try with_reducible rfl)
  try simp only [List.getElem_toArray, List.getElem_cons_zero, List.getElem_cons_succ, Act.put, List.setIfInBounds_toArray, List.set_cons_zero, List.set_cons_succ]
  refine wpAnyH_take (i := 5) (v := ?_) rfl (by kernel_rfl) (by kernel_rfl) (by kernel_rfl) (fun _ _ _ h => h) (Or.inl ⟨by rfl, ?_⟩) (by assumption) ?_
  rotate_left
  · (intro w hSw; (try dsimp only at hSw); go_simp; try with_reducible rfl)
  try simp only [List.getElem_toArray, List.getElem_cons_zero, List.getElem_cons_succ, Act.put, List.setIfInBounds_toArray, List.set_cons_zero, List.set_cons_succ]
  refine wpAnyH_take (i := 6) (v := .agg #[.map (some g1), .map (some g2)]) rfl (by kernel_rfl) (by kernel_rfl) (by kernel_rfl) (fun _ _ _ h => h) (yields_loadR (by rfl) 60 _ rfl (w.heap.size + 1) rfl 60 #[.map (some g1), .map (some g2)] _ (fun _ h => h.2.2) Try.underlying60 rfl size2) (by assumption) ?_
  try simp only [List.getElem_toArray, List.getElem_cons_zero, List.getElem_cons_succ, Act.put, List.setIfInBounds_toArray, List.set_cons_zero, List.set_cons_succ]
  refine wpAnyH_ready (rs := [7]) (by kernel_rfl) (by simp) ?_
  refine AllReadyH.cons (o := _) rfl (fun K hK => ?_) AllReadyH.nil
  have ZM : Hid (W3.drew.heap[zb]? = some (.map (entG iv l).toArray c)) := (KC.out _ EB.out E0.out).2.2
  refine wp_mapUpdate 61 _ _ _ rfl (.map (some zb)) (iv z) (.agg #[.map (some g1), .map (some g2)]) rfl rfl rfl (put_new intK Try.underlying61 (l := l) (c := c) ZM.out z HF.out _) ?_
  obtain ⟨V, hV⟩ : ∃ V, putObj W3.drew zb (.map (entG iv (l ++ [(z, .agg #[.map (some g1), .map (some g2)], c)])).toArray (c + 1)) = V := ⟨_, rfl⟩
  have vz : V.heap[zb]? = some (.map (entG iv (l ++ [(z, .agg #[.map (some g1), .map (some g2)], c)])).toArray (c + 1)) := by rw [← hV]; exact putObj_same (lt_of_heap ZM.out) _
  have vo : ∀ g, g ≠ zb → V.heap[g]? = W3.heap[g]? := fun g hg => by rw [← hV]; exact putObj_other _ hg _
  have vB : Below B w V := by rw [← hV]; exact ((EB.out.mono hB).drew).trans ((putObj_below _ zb _).mono hBz)
  have vs : V.heap.size = W3.heap.size := by rw [← hV, putObj_size]; rfl
  rw [hV]
  clear hV
  have v0 := (vo w.heap.size (by omega)).trans E0.out
  have v1 := (vo (w.heap.size + 1) (by omega)).trans E1.out
  have vt := (vo tb htz).trans ((EB.out.block _ hlt).trans H.out)
  refine hK.out _ _ ⟨cell_row vt 2, (cell_row v0 0).trans HC0.out, v1⟩ (fun hHeld2 => ?_)
  clear hK K hHeld hHeld2
  try simp only [List.getElem_toArray, List.getElem_cons_zero, List.getElem_cons_succ, Act.put, List.setIfInBounds_toArray, List.set_cons_zero, List.set_cons_succ]
  refine wpAnyH_done (by kernel_rfl) ?_ _
  have V0 : Hid _ := v0
  have V1 : Hid _ := v1
  have VT : Hid _ := vt
  have VZ : Hid _ := vz
  have VB : Hid _ := vB
  have VO : Hid _ := vo
  have hl3 : g2 < W3.heap.size := lt_of_heap G2'.out
  have VG1 : Hid _ := (vo g1 (by omega)).trans G1'.out
  have VG2 : Hid _ := (vo g2 (by omega)).trans G2'.out
  have hlw : w.heap.size ≤ V.heap.size := by omega
  have hvg : g2 < V.heap.size := by omega
  have HVS : Hid _ := vs
  clear vs
  have V1a : Hid _ := (heap_alloc_old V (.cells (entC z o r nat ex 0) 68) (lt_of_heap v1)).trans v1
  clear v0 v1 vt vz vB vo
  go_wp2_with (first
    | refine wpList_load_row rfl 51 _ rfl w.heap.size rfl 51 cn (0, 0) _ V0.out Try.underlying51 rfl (by rw [HC13.out]; exact size13) ?_
    | refine wpList_build_as rfl 68 _ rfl (entC z o r nat ex 0) (by rw [List.map_toArray]; show Try.prog.built 68 [(0, .agg cn)] = _; rw [← HCE.out]; exact ent_built z o r nat ex) ?_
    | refine wpList_load_row rfl 60 _ rfl (w.heap.size + 1) rfl 60 #[.map (some g1), .map (some g2)] (0, 0) _ V1a.out Try.underlying60 rfl size2 ?_
    | fail)
  have X1 : Hid ((V.alloc (.cells (entC z o r nat ex 0) 68)).heap[g1]? = some (.map (entG tv []).toArray 0)) := (heap_alloc_old _ _ (by omega)).trans VG1.out
  have X2 : Hid ((V.alloc (.cells (entC z o r nat ex 0) 68)).heap[g2]? = some (.map (entG tv []).toArray 0)) := (heap_alloc_old _ _ (by omega)).trans VG2.out
  have X3 : Hid ((V.alloc (.cells (entC z o r nat ex 0) 68)).heap[V.heap.size]? = some (.cells (entC z o r nat ex 0) 68 (0, 0))) := heap_alloc_new _ _
  refine (zadd_any g1 g2 0 0 V.heap.size [] [] z o r nat ex 0 _ (by omega) X1.out X2.out X3.out rfl rfl w.heap.size (by omega) (by omega) (by simp; omega)).mono ?_
  rintro e U ⟨rfl, u1, u2, uo, ub⟩
  have ue : U.heap[V.heap.size]? = some (.cells (entC z o r nat ex 0) 68 (0, 0)) := (uo _ (by simp) (by omega) (by omega)).trans X3.out
  have hlv : ∀ g, g < w.heap.size → g < V.heap.size := fun g hg => by omega
  have ut : U.heap[tb]? = some (.cells (tabV room clock zb q) 65 (0, 0)) := (uo _ (by simp; have := hlv _ hlt; omega) (by omega) (by omega)).trans ((heap_alloc_old _ _ (hlv _ hlt)).trans VT.out)
  have uz : U.heap[zb]? = some (.map (entG iv (l ++ [(z, .agg #[.map (some g1), .map (some g2)], c)])).toArray (c + 1)) := (uo _ (by simp; have := hlv _ hlz; omega) (by omega) (by omega)).trans ((heap_alloc_old _ _ (hlv _ hlz)).trans VZ.out)
  have uq : U.ownsRow B 66 1 q 0 [] := by
    refine ⟨HQ.out.1, ?_⟩
    rcases HQ.out.2 with h' | ⟨g, cap, cur, e1, e2, e3, e4⟩
    · exact .inl ⟨h'.1, rfl⟩
    · refine .inr ⟨g, cap, cur, e1, e2, ?_, e4⟩
      have hg : g < w.heap.size := lt_of_heap e3
      have hgz : g ≠ zb := fun e => by subst e; rw [HZ.out] at e3; cases e3
      exact (uo _ (by simp; have := hlv _ hg; omega) (by omega) (by omega)).trans ((heap_alloc_old _ _ (hlv _ hg)).trans ((VO.out _ hgz).trans ((EB.out.block _ hg).trans e3)))
  have uB : Below B w U := (VB.out.trans ((below1 V _).mono (by omega))).trans (ub.mono hB)
  have UQ : Hid _ := qadd_zero tb zb V.heap.size B room clock q z o r nat ex 0 U ut ue uq (by have := uB.size; omega) hBt (by omega)
  have hne1 : some g1 ≠ q.ownBlock := fun e => own_apart_map uq u1 e.symm
  have hne2 : some g2 ≠ q.ownBlock := fun e => own_apart_map uq u2 e.symm
  have hnez : some zb ≠ q.ownBlock := fun e => own_apart_map uq uz e.symm
  have U1 : Hid _ := u1
  have U2 : Hid _ := u2
  have UZ : Hid _ := uz
  have UB : Hid _ := uB
  have L1 : Hid _ := lt_of_heap u1
  have L2 : Hid _ := lt_of_heap u2
  have LZ : Hid _ := lt_of_heap uz
  have UO : Hid (∀ g, g < w.heap.size → g ≠ tb → g ≠ zb → (∀ C, w.heap[g]? ≠ some (.cells C 66 (0, 0))) → U.heap[g]? = w.heap[g]? ∧ some g ≠ q.ownBlock ∧ g < U.heap.size ∧ g ≠ V.heap.size) := fun g hg gt gz gc => by
    have hv := hlv _ hg
    have e1 : U.heap[g]? = w.heap[g]? := (uo _ (by simp; omega) (by omega) (by omega)).trans ((heap_alloc_old _ _ hv).trans ((VO.out _ gz).trans (EB.out.block _ hg)))
    refine ⟨e1, fun e => ?_, by have := uB.size; omega, by omega⟩
    rcases uq.2 with ⟨h', _⟩ | ⟨g', cap, cur, a1, a2, a3, a4⟩
    · rw [h'] at e; simp [Value.ownBlock] at e
    · rw [a1] at e
      simp only [Value.ownBlock, Option.some.injEq] at e
      subst e
      exact gc cur (e1.symm.trans a3)
  clear u1 u2 uo ub ue ut uz uq uB
  go_wp2_with fail
  refine Calls.mono UQ.out ?_
  rintro e W9 ⟨rfl, qa, qc, t9, e9, o9, n9, b9⟩
  have KK : Hid _ := And.intro t9 (And.intro e9 (And.intro o9 (And.intro n9 b9)))
  clear t9 e9 o9 n9 b9
  go_wp2
  go_end0
  obtain ⟨t9, e9, o9, n9, b9⟩ := KK.out
  refine ⟨rfl, qa, qc, V.heap.size, g1, g2, by omega, by omega, by omega, by omega, t9, ?_, ?_, ?_, e9, o9, UB.out.trans b9, fun g hg gt gz gc => ?_⟩
  · exact (n9 _ LZ.out (fun e => htz e.symm) (by omega) hnez).trans UZ.out
  · exact (n9 _ L1.out (by omega) (by omega) hne1).trans U1.out
  · exact (n9 _ L2.out (by omega) (by omega) hne2).trans U2.out
  · obtain ⟨x1, x2, x3, x4⟩ := UO.out g hg gt gz gc
    exact (n9 _ x3 gt x4 x2).trans x1
end Go.Proofs.Ytjjehncnjcepkaa
