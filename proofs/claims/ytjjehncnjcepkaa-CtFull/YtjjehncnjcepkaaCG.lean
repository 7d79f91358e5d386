/- Look of a packet of no connection. Conditions: the State's cells are of their kinds; the zone knows no such tuple. -/
import Derived.Test.YtjjehncnjcepkaaCF
namespace Go.Proofs.Ytjjehncnjcepkaa
open Go.RowKit
def zeroC : Array Value := #[.int .u64 0, .int .u64 0, .bool false, .int .i64 0, .int .i64 0, .bool false, .int .i64 0, .int .u64 0, .int .u32 0, .int .u64 0, .int .u32 0, .bool false, .int .i64 0, .int .i64 0, .int .i64 0, .int .i64 0, .int .i64 0, .int .u32 0, .int .u32 0, .string ⟨#[]⟩, .int .i64 0, .int .i64 0, .int .i64 0, .int .u32 0, .int .i64 0, .int .i64 0, .bool false, .int .u32 0, .int .u32 0, .int .i64 0, .int .i64 0, .int .i64 0, .string ⟨#[]⟩, .string ⟨#[]⟩, .string ⟨#[]⟩, .string ⟨#[]⟩, .int .i64 0, .int .i64 0, .int .i64 0, .int .i64 0, .int .u32 0, .int .u32 0, .int .u32 0, .int .u32 0, .int .i64 0, .int .u32 0, .int .u32 0, .int .i64 0, .int .i64 0]
theorem zeroC_size : zeroC.size = 49 := rfl
theorem zeroC_one : zeroC.all (·.oneCell') = true := by kernel_rfl
theorem results_state {fn : Func} {p u : Tmp} (h : fn.results = #[.cell p 46, .tmp u]) (tmps : Array Value) (w : World) (g : Nat) (cs : Array Value)
    (hp : tmps.getD p undef = .pointer (some ⟨g, 0, none⟩)) (hg : w.heap[g]? = some (.cells cs 46 (0, 0))) (hs : cs.size = 49) :
    (results fn tmps).run Try.prog w = .ok (.tuple #[.agg cs, tmps.getD u undef]) w := by
  rw [results_cell_tmp h, hp]
  simp only [asAddr, Sem.run_pure, Result.andThen_ok, run_loadVar_row w g 46 46 cs (0, 0) _ hg Try.underlying46 rfl (info_size hs)]
theorem yields_lookup {ops : Array Oper} {S : World → Prop} {op : Oper} {a : Act} (hw : Region.wanted op (yielded ops a.tmps) = true) (mt : TypeId) (x i : Operand) (ho : op.op = .lookup mt x i false)
    (m k v : Value) (hx : a.eval x = m) (hi : a.eval i = k) (h : ∀ w, S w → (Instr.lookup mt m k false).run Try.prog w = .ok v w) : YieldsIf Try.prog ops S op v a :=
  .inl ⟨hw, fun w hw' => by
    unfold execOp
    simp only [ho, hx, hi, Sem.run_bind, h w hw', Result.andThen_ok, Sem.run_pure]⟩
/-- A State as Look leaves it. -/
def lookC (cs : Array Value) (t : Tup) (ct : Int) : Array Value := (putC cs 44 (tupC t.1 t.2.1 t.2.2.1 t.2.2.2.1 t.2.2.2.2).toList).setIfInBounds 36 (.int .i64 ct)
theorem look_size {cs : Array Value} (h : cs.size = 49) (t : Tup) (ct : Int) : (lookC cs t ct).size = 49 := by
  unfold lookC; rw [Array.size_setIfInBounds, putC_size]; exact h
theorem look_one {cs : Array Value} (h : cs.all (·.oneCell') = true) (t : Tup) (ct : Int) : (lookC cs t ct).all (·.oneCell') = true := by
  unfold lookC
  exact set_one (putC_one _ _ _ h (by simp [tupC, Value.oneCell'])) rfl
/-- What a zone of a table is, in the worlds behind one. -/
structure ZoneAt (w : World) (zb : Nat) (z : Int) (m1 m2 : Option Nat) : Prop where
  look : ∀ W, Below w.heap.size w W → (Instr.lookup 61 (.map (some zb)) (iv z) false).run Try.prog W = .ok (.agg #[.map m1, .map m2]) W
/-- What a zone's maps tell of a tuple. -/
structure TupAt (w : World) (m1 m2 : Option Nat) (t : Tup) (p1 p2 : Option Addr) : Prop where
  l1 : ∀ W, Below w.heap.size w W → (Instr.lookup 58 (.map m1) (tv t) false).run Try.prog W = .ok (.pointer p1) W
  l2 : ∀ W, Below w.heap.size w W → (Instr.lookup 58 (.map m2) (tv t) false).run Try.prog W = .ok (.pointer p2) W
set_option linter.unusedSimpArgs false in
set_option maxRecDepth 20000 in
set_option maxHeartbeats 4000000 in
theorem look_new (tb zb : Nat) (room clock z : Int) (hz0 : 0 ≤ z) (hz1 : z ≤ 65535) (q : Value) (cs ps : Array Value) (hst : St cs) (hps : cs.extract 0 (0 + 36) = ps) {fr pr src dst k ty co re sp dp : Int} (hp : Pk ps true fr pr src dst k ty co re sp dp) (hT : hasT true fr k ty co = true)
    (m1 m2 : Option Nat) (w : World) (h : w.heap[tb]? = some (.cells (tabV room clock zb q) 65 (0, 0))) (hZ : ZoneAt w zb z m1 m2) (hU : TupAt w m1 m2 (pr, src, dst, portT k re sp, portT k re dp) none none) :
    Calls Try.prog 8 #[.pointer (some ⟨tb, 0, none⟩), .int .i64 z, .agg cs] w fun e w' => e = .returned (.tuple #[.agg (lookC cs (pr, src, dst, portT k re sp, portT k re dp) 1), .int .i64 0]) ∧ Below w.heap.size w w' := by
  have HOF : Hid (∀ W, Calls Try.prog 20 #[.agg ps] W fun e w' => e = .returned (.tuple #[.agg (tupC pr src dst (portT k re sp) (portT k re dp)), .bool true]) ∧ Below W.heap.size W w') := by
    show ∀ W, _
    intro W; exact of_yes hp hT W
  obtain ⟨s9, hs9⟩ : ∃ s9, portT k re sp = s9 := ⟨_, rfl⟩
  obtain ⟨d9, hd9⟩ : ∃ d9, portT k re dp = d9 := ⟨_, rfl⟩
  rw [hs9, hd9] at HOF hU ⊢
  obtain ⟨tc, htc⟩ : ∃ tc, tupC pr src dst s9 d9 = tc := ⟨_, rfl⟩
  rw [htc] at HOF
  have htz : tc.size = 5 := by rw [← htc]; rfl
  have hto : tc.all (·.oneCell') = true := by rw [← htc]; exact tup_one _ _ _ _ _
  have HTE : Hid _ := htc
  have HTZ : Hid _ := htz
  have HTO : Hid _ := hto
  have HIT : Hid _ := (show (Try.prog.info? 44).map (·.size) = some tc.size by rw [htz]; exact size5)
  have HST : Hid _ := hst
  have HPS : Hid _ := hps
  have HP36 : Hid _ := hp.size
  have HZ : Hid _ := hZ
  have HU : Hid _ := hU
  have HTB : Hid _ := h
  have hz9 : zoneE z = 0 := by unfold zoneE; rw [if_neg (by omega), if_neg (by omega)]
  have HZE : Hid _ := hz9
  have hlt : tb < w.heap.size := lt_of_heap h
  have HS2 : Hid _ := two_first w (.cells cs 46) (.cells zeroC 46)
  have HZ2 : Hid _ := two_last w (.cells cs 46) (.cells zeroC 46)
  have HLS : Hid _ := look_size hst.size (pr, src, dst, s9, d9) 1
  have HLO : Hid _ := look_one hst.one (pr, src, dst, s9, d9) 1
  obtain ⟨x36, h36, _, _⟩ := hst.i64 36 (by decide)
  have H36 : Hid _ := h36
  clear htc htz hto hst hps hp hT hZ hU h hz9 hs9 hd9 h36
  go_enter Try.func8, Try.ntmps8
  go_wp2_with fail
  refine (check_any tb zb room clock z q _ ((below2 w _ _).block _ hlt |>.trans HTB.out)).mono ?_
  rw [HZE.out]
  rintro e W0 ⟨rfl, hw0⟩
  rw [hw0]
  clear hw0
  go_wp2_with (first
    | refine wpList_load_as rfl 41 _ rfl w.heap.size 0 36 rfl cs ps 46 _ HS2.out Try.underlying41 rfl HPS.out HP36.out size36 ?_
    | fail)
  refine (HOF.out _).mono ?_
  rintro e W1 ⟨rfl, hb1⟩
  have HS1 : Hid (W1.heap[w.heap.size]? = some (.cells cs 46 (0, 0))) := (hb1.block _ (by simp; omega)).trans HS2.out
  have HZ1 : Hid (W1.heap[w.heap.size + 1]? = some (.cells zeroC 46 (0, 0))) := (hb1.block _ (by simp)).trans HZ2.out
  have hlt1 : w.heap.size + 1 < W1.heap.size := lt_of_heap HZ1.out
  have HB1 : Hid (Below w.heap.size w W1) := (below2 w _ _).trans (hb1.mono (by simp; omega))
  have HN1 : Hid _ := heap_alloc_new W1 (.cells tc 44)
  have HS1a : Hid _ := (heap_alloc_old W1 (.cells tc 44) (by omega)).trans HS1.out
  have hin : 44 + tc.size ≤ cs.size := by rw [HTZ.out, HST.out.size]; decide
  have HIN : Hid _ := hin
  clear hb1 hin
  go_wp2_with (first
    | refine wpList_store_new rfl 44 _ _ rfl _ tc W1.heap.size rfl rfl rfl HIT.out (Eq.trans (b := 5) rfl HTZ.out.symm) HTO.out ?_
    | refine wpList_load_row rfl 44 _ rfl W1.heap.size rfl 44 tc (0, 0) _ HN1.out Try.underlying44 rfl HIT.out ?_
    | refine wpList_store_at rfl 44 _ _ rfl w.heap.size 44 cs tc 46 rfl rfl HS1a.out HIT.out HIN.out HTO.out ?_
    | fail)
  intro W2 z1 z2 z3 z4
  have c36 : W2.cell? ⟨w.heap.size, 36, none⟩ = some (.int .i64 x36) := by
    rw [cell_row z1 36, putC_get _ _ _ _ (by rw [Array.length_toList]; exact HIN.out), if_pos (by decide)]; exact H36.out
  have f36 := frozen_of_row W2 _ 36 _ _ z1
  have HT2 : Hid (W2.heap[W1.heap.size]? = some (.cells tc 44 (0, 0))) := (z2 _ (by omega)).trans HN1.out
  have HZ2' : Hid (W2.heap[w.heap.size + 1]? = some (.cells zeroC 46 (0, 0))) := (z2 _ (by omega)).trans ((heap_alloc_old _ _ hlt1).trans HZ1.out)
  have HB2 : Hid (Below w.heap.size w W2) := (HB1.out.trans ((below1 W1 _).mono HB1.out.size)).trans z4
  have HR2 : Hid _ := z1
  clear z1 z2 z3 z4 HS1a
  go_wp2_with fail
  have hlc : (putC cs 44 tc.toList).setIfInBounds 36 (.int .i64 1) = lookC cs (pr, src, dst, s9, d9) 1 := by rw [← HTE.out]; rfl
  have key : ∀ W, Below W2.heap.size (W2.setCell ⟨w.heap.size, 36, none⟩ (.int .i64 1)) W → W.cell? ⟨tb, 2, none⟩ = some (.map (some zb)) ∧ W.heap[w.heap.size]? = some (.cells (lookC cs (pr, src, dst, s9, d9) 1) 46 (0, 0)) ∧ W.heap[w.heap.size + 1]? = some (.cells zeroC 46 (0, 0)) ∧ W.heap[W1.heap.size]? = some (.cells tc 44 (0, 0)) ∧ Below w.heap.size w W := fun W hb => by
    have hl2 : W1.heap.size < W2.heap.size := lt_of_heap HT2.out
    have hbw : Below w.heap.size w W := (HB2.out.setCell (Nat.le_refl _) _).trans (hb.mono (by omega))
    have oth : ∀ g, g ≠ w.heap.size → g < W2.heap.size → W.heap[g]? = W2.heap[g]? := fun g hg hg2 => (hb.block _ hg2).trans (Below.heap_setCell _ _ _ _ hg)
    refine ⟨(cell_row ((hbw.block _ hlt).trans HTB.out) 2), ?_, (oth _ (by omega) (by omega)).trans HZ2'.out, (oth _ (by omega) hl2).trans HT2.out, hbw⟩
    rw [← hlc]
    exact (hb.block _ (by omega)).trans (row_setCell HR2.out 36 _)
  have KC : Hid _ := key
  have esz : (W2.setCell ⟨w.heap.size, 36, none⟩ (.int .i64 1)).heap.size = W2.heap.size := by simp [World.setCell]
  clear key hlc c36 f36 HR2 HZ2' HT2
  refine wp_region_held_drew (S := (fun W => W.cell? ⟨tb, 2, none⟩ = some (.map (some zb)) ∧ W.heap[w.heap.size]? = some (.cells (lookC cs (pr, src, dst, s9, d9) 1) 46 (0, 0)) ∧ W.heap[w.heap.size + 1]? = some (.cells zeroC 46 (0, 0)) ∧ W.heap[W1.heap.size]? = some (.cells tc 44 (0, 0)) ∧ Below w.heap.size w W)) (by kernel_rfl) ?_ (fun hHeld => ?_)
  · exact KC.out _ (Below.refl _ _).drew
  refine wpAnyH_take (i := 0) (v := ?_) rfl (by kernel_rfl) (by kernel_rfl) (by kernel_rfl) (fun _ _ _ h => h) (Or.inl ⟨by rfl, ?_⟩) (by assumption) ?_
  rotate_left
  · (intro w hSw; (try dsimp only at hSw); go_simp; try with_reducible rfl)
  try simp only [List.getElem_toArray, List.getElem_cons_zero, List.getElem_cons_succ, Act.put, List.setIfInBounds_toArray, List.set_cons_zero, List.set_cons_succ]
  refine wpAnyH_take (i := 1) (v := ?_) rfl (by kernel_rfl) (by kernel_rfl) (by kernel_rfl) (fun _ _ _ h => h) (Or.inl ⟨by rfl, ?_⟩) (by assumption) ?_
  rotate_left
  · (intro w hSw; (try dsimp only at hSw); go_simp; try with_reducible rfl)
  try simp only [List.getElem_toArray, List.getElem_cons_zero, List.getElem_cons_succ, Act.put, List.setIfInBounds_toArray, List.set_cons_zero, List.set_cons_succ]
  refine wpAnyH_take (i := 2) (v := ?_) rfl (by kernel_rfl) (by kernel_rfl) (by kernel_rfl) (fun _ _ _ h => h) (Or.inl ⟨by rfl, ?_⟩) (by assumption) ?_
  rotate_left
  · (intro w hSw; (try dsimp only at hSw); go_simp; try with_reducible rfl)
  try simp only [List.getElem_toArray, List.getElem_cons_zero, List.getElem_cons_succ, Act.put, List.setIfInBounds_toArray, List.set_cons_zero, List.set_cons_succ]
  refine wpAnyH_take (i := 3) (v := ?_) rfl (by kernel_rfl) (by kernel_rfl) (by kernel_rfl) (fun _ _ _ h => h) (Or.inl ⟨by rfl, ?_⟩) (by assumption) ?_
  rotate_left
  · (intro w hSw; (try dsimp only at hSw); go_simp; try with_reducible rfl)
  try simp only [List.getElem_toArray, List.getElem_cons_zero, List.getElem_cons_succ, Act.put, List.setIfInBounds_toArray, List.set_cons_zero, List.set_cons_succ]
  refine wpAnyH_take (i := 4) (v := ?_) rfl (by kernel_rfl) (by kernel_rfl) (by kernel_rfl) (fun _ _ _ h => h) (Or.inl ⟨by rfl, ?_⟩) (by assumption) ?_
  rotate_left
  · (intro w hSw; (try dsimp only at hSw); go_simp; try with_reducible rfl)
  try simp only [List.getElem_toArray, List.getElem_cons_zero, List.getElem_cons_succ, Act.put, List.setIfInBounds_toArray, List.set_cons_zero, List.set_cons_succ]
  refine wpAnyH_take (i := 5) (v := .agg #[.map m1, .map m2]) rfl (by kernel_rfl) (by kernel_rfl) (by kernel_rfl) (fun _ _ _ h => h) (yields_lookup (by rfl) 61 _ _ rfl (.map (some zb)) (iv z) _ rfl rfl (fun W h => HZ.out.look W h.2.2.2.2)) (by assumption) ?_
  try simp only [List.getElem_toArray, List.getElem_cons_zero, List.getElem_cons_succ, Act.put, List.setIfInBounds_toArray, List.set_cons_zero, List.set_cons_succ]
  refine wpAnyH_take (i := 6) (v := .agg tc) rfl (by kernel_rfl) (by kernel_rfl) (by kernel_rfl) (fun _ _ _ h => h) (yields_loadR (by rfl) 44 _ rfl W1.heap.size rfl 44 tc _ (fun _ h => h.2.2.2.1) Try.underlying44 rfl HIT.out) (by assumption) ?_
  try simp only [List.getElem_toArray, List.getElem_cons_zero, List.getElem_cons_succ, Act.put, List.setIfInBounds_toArray, List.set_cons_zero, List.set_cons_succ]
  refine wpAnyH_ready (rs := [7]) (by kernel_rfl) (by simp) ?_
  refine AllReadyH.cons (o := _) rfl (fun K hK => ?_) AllReadyH.nil
  go_simp
  rw [← HTE.out]
  have hbd : Below w.heap.size w (W2.setCell ⟨w.heap.size, 36, none⟩ (.int .i64 1)).drew := (KC.out _ (Below.refl _ _).drew).2.2.2.2
  refine (find_any m1 m2 (pr, src, dst, s9, d9) none none _ (fun W hW => HU.out.l1 W (hbd.trans (hW.mono hbd.size))) (fun W hW => HU.out.l2 W (hbd.trans (hW.mono hbd.size)))).mono ?_
  rw [show (if (none : Option Addr).isSome = true then Value.tuple #[.pointer none, .bool false] else Value.tuple #[.pointer none, .bool (none : Option Addr).isSome]) = Value.tuple #[.pointer none, .bool false] from rfl]
  rintro e W3 ⟨rfl, hb3⟩
  go_wp2_with fail
  have k3 := KC.out W3 (((Below.refl _ _).drew).trans (hb3.mono (by rw [show (W2.setCell ⟨w.heap.size, 36, none⟩ (.int .i64 1)).drew.heap.size = W2.heap.size from esz]; exact Nat.le_refl _)))
  refine hK.out _ _ k3 (fun hHeld2 => ?_)
  clear hK K hHeld hb3 hbd
  have hHeld := hHeld2
  clear hHeld2
  try simp only [List.getElem_toArray, List.getElem_cons_zero, List.getElem_cons_succ, Act.put, List.setIfInBounds_toArray, List.set_cons_zero, List.set_cons_succ]
  refine wpAnyH_take (i := 8) (v := ?_) rfl (by kernel_rfl) (by kernel_rfl) (by kernel_rfl) (fun _ _ _ h => h) (Or.inl ⟨by rfl, ?_⟩) (by assumption) ?_
  rotate_left
  · (intro w hSw; (try dsimp only at hSw); go_simp; try with_reducible rfl)
  try simp only [List.getElem_toArray, List.getElem_cons_zero, List.getElem_cons_succ, Act.put, List.setIfInBounds_toArray, List.set_cons_zero, List.set_cons_succ]
  refine wpAnyH_take (i := 9) (v := ?_) rfl (by kernel_rfl) (by kernel_rfl) (by kernel_rfl) (fun _ _ _ h => h) (Or.inl ⟨by rfl, ?_⟩) (by assumption) ?_
  rotate_left
  · (intro w hSw; (try dsimp only at hSw); go_simp; try with_reducible rfl)
  try simp only [List.getElem_toArray, List.getElem_cons_zero, List.getElem_cons_succ, Act.put, List.setIfInBounds_toArray, List.set_cons_zero, List.set_cons_succ]
  refine wpAnyH_take (i := 10) (v := ?_) rfl (by kernel_rfl) (by kernel_rfl) (by kernel_rfl) (fun _ _ _ h => h) (Or.inl ⟨by rfl, ?_⟩) (by assumption) ?_
  rotate_left
  · (intro w hSw; (try dsimp only at hSw); go_simp; try with_reducible rfl)
  try simp only [List.getElem_toArray, List.getElem_cons_zero, List.getElem_cons_succ, Act.put, List.setIfInBounds_toArray, List.set_cons_zero, List.set_cons_succ]
  refine wpAnyH_take (i := 11) (v := ?_) rfl (by kernel_rfl) (by kernel_rfl) (by kernel_rfl) (fun _ _ _ h => h) (Or.inl ⟨by rfl, ?_⟩) (by assumption) ?_
  rotate_left
  · (intro w hSw; (try dsimp only at hSw); go_simp; try with_reducible rfl)
  try simp only [List.getElem_toArray, List.getElem_cons_zero, List.getElem_cons_succ, Act.put, List.setIfInBounds_toArray, List.set_cons_zero, List.set_cons_succ]
  refine wpAnyH_take (i := 12) (v := ?_) rfl (by kernel_rfl) (by kernel_rfl) (by kernel_rfl) (fun _ _ _ h => h) (Or.inl ⟨by rfl, ?_⟩) (by assumption) ?_
  rotate_left
  · (intro w hSw; (try dsimp only at hSw); go_simp; try with_reducible rfl)
  try simp only [List.getElem_toArray, List.getElem_cons_zero, List.getElem_cons_succ, Act.put, List.setIfInBounds_toArray, List.set_cons_zero, List.set_cons_succ]
  refine wpAnyH_done (by kernel_rfl) ?_ _
  have Q0 : Hid _ := k3.2.1
  have Q1 : Hid _ := k3.2.2.1
  have QB : Hid _ := k3.2.2.2.2
  clear k3 KC hHeld
  go_wp2_with (first
    | refine wpList_load_row rfl 46 _ rfl w.heap.size rfl 46 (lookC cs (pr, src, dst, s9, d9) 1) (0, 0) _ Q0.out Try.underlying46 rfl (info_size HLS.out) ?_
    | refine wpList_store_row rfl 46 _ _ rfl (w.heap.size + 1) zeroC (lookC cs (pr, src, dst, s9, d9) 1) 46 rfl rfl Q1.out (info_size HLS.out) (Eq.trans (b := 49) rfl HLS.out.symm) HLO.out ?_
    | fail)
  intro W8 y1 y2 y3 y4
  go_wp2
  exact bodyPost_ret (results_state (p := 6) (u := 7) rfl _ _ (w.heap.size + 1) _ rfl y1 HLS.out) rfl ⟨rfl, QB.out.trans (y4.mono (by omega))⟩
end Go.Proofs.Ytjjehncnjcepkaa
