/- Add of a rule whose shape is new. Conditions: as said. -/
import Derived.Test.YtnahhmcmahbnkaaGreatDoorGQItoQD
import Derived.Lib.Hide
namespace Go.Proofs.YtnahhmcmahbnkaaGreatDoor
open Go.RowKit
/-- A classifier's own blocks. -/
structure Cl (w : World) (B cb rb tm cr ct : Nat) (lr : List (Int × Value × Nat)) (lt : List (ByteArray × Value × Nat)) : Prop where
  c : w.heap[cb]? = some (.cells (clC rb tm) 145 (0, 0))
  r : w.heap[rb]? = some (.map (entG iv lr).toArray cr)
  m : w.heap[tm]? = some (.map (entG sv lt).toArray ct)
  ne : rb ≠ tm
  br : B ≤ rb
  bm : B ≤ tm
  ptr : ∀ x ∈ lr, ∃ e, x.2.1 = .pointer (some ⟨e, 0, none⟩)
  len : lr.length ≤ 1000000
theorem Cl.of {w w' : World} {B cb rb tm cr ct : Nat} {lr : List (Int × Value × Nat)} {lt : List (ByteArray × Value × Nat)} (h : Cl w B cb rb tm cr ct lr lt) (hb : Below w.heap.size w w') : Cl w' B cb rb tm cr ct lr lt :=
  ⟨(hb.block _ (lt_of_heap h.c)).trans h.c, (hb.block _ (lt_of_heap h.r)).trans h.r, (hb.block _ (lt_of_heap h.m)).trans h.m, h.ne, h.br, h.bm, h.ptr, h.len⟩
/-- A rule that lies alone in a tuple of its own. -/
structure Alone1 (w : World) (B eb tb qm qb : Nat) (p id : Int) (tx : ByteArray) (ts : List Tm) (s' sh : Value) (mk : Int) (qa : Option Addr) (qc : Nat) : Prop where
  e : w.heap[eb]? = some (.cells (enC p s' id tb 0) 151 (0, 0))
  t : w.heap[tb]? = some (.cells (tuC tx sh mk qm) 185 (0, 0))
  q : w.heap[qm]? = some (.map (entG sv [(keyS ts, .pointer (some ⟨qb, 0, none⟩), 0)]).toArray 1)
  b : w.heap[qb]? = some (.cells (quC (.slice qa 1 qc)) 188 (0, 0))
  o : w.ownsRow B 146 1 (.slice qa 1 qc) 1 [.pointer (some ⟨eb, 0, none⟩)]
  s : w.ownsRow B 118 3 s' ts.length (rowT ts)
  z : w.ownsRow B 118 3 sh ts.length (rowT (ts.map z0))
theorem TV.frm {w w' : World} {v : Value} {ts : List Tm} (h : TV w v ts) {r c : Nat} {es : Array MapEntry} (hr : w.heap[r]? = some (.map es c)) (ho : ∀ g, g < w.heap.size → g ≠ r → w'.heap[g]? = w.heap[g]?) : TV w' v ts := by
  obtain ⟨a, n, c, rfl, hc, ht⟩ := h
  refine ⟨a, n, c, rfl, hc, ht.len, ht.room, ?_⟩
  rcases ht.cells with h0 | ⟨b, off, e, hcell⟩
  · exact .inl h0
  · refine .inr ⟨b, off, e, fun i t hi => ?_⟩
    have c0 := hcell i t hi
    have hne : b ≠ r := fun e => by
      subst e
      have := c0.1
      unfold World.cell? at this
      rw [hr] at this
      cases this
    have key : ∀ j, w'.cell? ⟨b, j, none⟩ = w.cell? ⟨b, j, none⟩ := fun j => World.cell?_of_block (ho b (cell_lt c0.1) hne)
    exact ⟨by rw [key]; exact c0.1, by rw [key]; exact c0.2.1, by rw [key]; exact c0.2.2⟩
theorem yields_loadR {ops : Array Oper} {S : World → Prop} {op : Oper} {a : Act} (hw : Region.wanted op (yielded ops a.tmps) = true) (ty : TypeId) (x : Operand) (ho : op.op = .load ty x)
    (b : Nat) (hx : a.eval x = .pointer (some ⟨b, 0, none⟩)) (t : TypeId) (cs : Array Value) (d : TypeDesc) (hS : ∀ w, S w → w.heap[b]? = some (.cells cs t (0, 0)))
    (hu : Tryz.prog.underlying ty = some d) (hd : d.isRow = true) (hi : (Tryz.prog.info? ty).map (·.size) = some cs.size) : YieldsIf Tryz.prog ops S op (.agg cs) a := by
  have := yieldsIf_load_mid (P := Tryz.prog) (ops := ops) (S := S) (op := op) (a := a) hw ty x ho b 0 hx cs.toList d (fun w hw' => by
    have h := World.rangeAt_of_block (hS w hw') 0 cs.size
    simpa using h) hu hd (by simpa using hi)
  simpa using this
theorem yields_build {ops : Array Oper} {S : World → Prop} {op : Oper} {a : Act} (hw : Region.wanted op (yielded ops a.tmps) = true) (t : TypeId) (parts : Array (Nat × Operand)) (ho : op.op = .build t parts) (cells : Array Value)
    (hc : Tryz.prog.built t (parts.map fun (i, x) => (i, a.eval x)).toList = some cells) : YieldsIf Tryz.prog ops S op (.agg cells) a :=
  .inl ⟨hw, fun w _ => by
    unfold execOp
    simp only [ho, Sem.run_bind, run_build w t _ cells hc, Result.andThen_ok, Sem.run_pure]⟩
theorem wp_mapUpdate {op : Oper} {a : Act} {w w' : World} {K : Act → World → Prop} {Q : Exit → Act → World → Prop} (mt : TypeId) (x k y : Operand) (ho : op.op = .mapUpdate mt x k y)
    (m kv v : Value) (hx : a.eval x = m) (hk : a.eval k = kv) (hy : a.eval y = v) (hr : (Instr.mapUpdate mt m kv v).run Tryz.prog w = .ok () w')
    (h : K (a.put op.dst undef) w') : op.wp Tryz.prog a w K Q := by
  unfold Oper.wp execOp
  simp only [ho, hx, hk, hy, Sem.run_bind, hr, Result.andThen_ok, Sem.run_pure]
  exact h
theorem size3e : (Tryz.prog.info? 151).map (·.size) = some 5 := by kernel_rfl
theorem size_ru (p : Int) (s : Value) (id : Int) : (Tryz.prog.info? 106).map (·.size) = some (ruC p s id).size := size3r
theorem build_entry (p : Int) (s : Value) (id : Int) (tb : Nat) : Tryz.prog.built 151 [(0, .agg (ruC p s id)), (1, .pointer (some ⟨tb, 0, none⟩))] = some (enC p s id tb 0) := by kernel_rfl
set_option linter.unusedSimpArgs false in
set_option maxRecDepth 100000 in
set_option maxHeartbeats 4000000 in
theorem add_new {w : World} {B cb rb tm cr ct : Nat} {lr : List (Int × Value × Nat)} {lt : List (ByteArray × Value × Nat)} (hc : Cl w B cb rb tm cr ct lr lt) (p id : Int) (s : Value) (ts : List Tm) (tx : ByteArray) (hs : TV w s ts) (hlen : ts.length ≤ 100)
    (hx : ∀ W x, Below w.heap.size w W → TV W x (ts.map z0) → Calls Tryz.prog 25 #[x] W fun e w' => e = .returned (.string tx) ∧ Below W.heap.size W w') (hf : findG tx lt 0 = none) (hB : B ≤ w.heap.size)
    (hr : findG id lr 0 = none) (hk : chkR p id ts false lr.length = 0) :
    Calls Tryz.prog 34 #[.pointer (some ⟨cb, 0, none⟩), .agg (ruC p s id)] w fun e w' => e = .returned (.int .i64 0) ∧ ∃ eb tb qm qb s' sh mk qa qc, w.heap.size ≤ eb ∧ w.heap.size ≤ tb ∧ w.heap.size ≤ qm ∧ w.heap.size ≤ qb ∧
      Cl w' B cb rb tm (cr + 1) (ct + 1) (lr ++ [(id, .pointer (some ⟨eb, 0, none⟩), cr)]) (lt ++ [(tx, .pointer (some ⟨tb, 0, none⟩), ct)]) ∧ Alone1 w' w.heap.size eb tb qm qb p id tx ts s' sh mk qa qc ∧ (∀ g, g < w.heap.size → g ≠ rb → g ≠ tm → w'.heap[g]? = w.heap[g]?) ∧ Below B w w' := by
  have b0 := below1 w (.cells (ruC p s id) 106)
  have HI : Hid _ := isMade_yes (w := w.alloc (.cells (ruC p s id) 106)) (hc.of b0).c
  have HK : Hid _ := pcheck_any (w := w.alloc (.cells (ruC p s id) 106)) (hc.of b0).c (hc.of b0).r hc.ptr hc.len p id s ts (hs.below b0)
  have HCL : Hid _ := hc
  have HS : Hid _ := hs
  have HX : Hid _ := hx
  have HF : Hid _ := hf
  have HR : Hid _ := hr
  have R0 : Hid _ := heap_alloc_new w (.cells (ruC p s id) 106)
  have B0 : Hid _ := b0
  have hl6 : lr.length < 65536 := by
    rcases Nat.lt_or_ge lr.length 65536 with h | h
    · exact h
    · exfalso
      unfold chkR at hk
      split at hk
      · cases hk
      · split at hk
        · exact absurd hk ‹_›
        · simp [h] at hk
  have HL6 : Hid _ := hl6
  rw [hr, Option.isSome_none, hk] at HK
  have hone : s.oneCell' = true := by obtain ⟨a, n, c, rfl, _⟩ := hs; rfl
  have ONE : Hid _ := hone
  obtain ⟨sa, sn, sc, rfl⟩ : ∃ a n c, s = .slice a n c := by obtain ⟨a, n, c, e, _⟩ := hs; exact ⟨a, n, c, e⟩
  clear hc hs hx hf hr hk b0 hone hl6
  go_enter Tryz.func34, Tryz.ntmps34
  go_wp2_with fail
  refine Calls.mono HI.out ?_
  rintro e W0 ⟨rfl, hw0⟩
  rw [hw0]
  clear hw0 HI
  go_wp2_with (first
    | refine wpList_load_row rfl 106 _ rfl w.heap.size rfl 106 (ruC p (.slice sa sn sc) id) (0, 0) _ R0.out Tryz.underlying106 rfl size3r ?_
    | fail)
  refine Calls.mono HK.out ?_
  rintro e W1 ⟨rfl, hb1⟩
  have hsz1 := hb1.size
  have R1 : Hid (W1.heap[w.heap.size]? = some (.cells (ruC p (.slice sa sn sc) id) 106 (0, 0))) := (hb1.block _ (by simp)).trans R0.out
  have B1 : Hid (Below w.heap.size w W1) := B0.out.trans (hb1.mono B0.out.size)
  clear hb1 HK R0 B0
  go_wp2_with fail
  have hlc := lt_of_heap HCL.out.c
  have hlr := lt_of_heap HCL.out.r
  have hlm := lt_of_heap HCL.out.m
  have hlc := lt_of_heap HCL.out.c
  have hlr := lt_of_heap HCL.out.r
  have hlm := lt_of_heap HCL.out.m
  have hlc := lt_of_heap HCL.out.c
  have hlr := lt_of_heap HCL.out.r
  have hlm := lt_of_heap HCL.out.m
  have hlc := lt_of_heap HCL.out.c
  have hlr := lt_of_heap HCL.out.r
  have hlm := lt_of_heap HCL.out.m
  have hlc := lt_of_heap HCL.out.c
  have hlr := lt_of_heap HCL.out.r
  have hlm := lt_of_heap HCL.out.m
  have KC : Hid (∀ W : World, W.heap[w.heap.size]? = some (.cells (ruC p (.slice sa sn sc) id) 106 (0, 0)) → W.heap[w.heap.size]? = some (.cells (ruC p (.slice sa sn sc) id) 106 (0, 0)) ∧ W.cell? ⟨w.heap.size, 1, none⟩ = some (.slice sa sn sc) ∧ W.cell? ⟨w.heap.size, 2, none⟩ = some (.int .i64 id)) := fun W h => ⟨h, cell_row h 1, cell_row h 2⟩
  refine wp_region_held_drew (S := (fun W : World => W.heap[w.heap.size]? = some (.cells (ruC p (.slice sa sn sc) id) 106 (0, 0)) ∧ W.cell? ⟨w.heap.size, 1, none⟩ = some (.slice sa sn sc) ∧ W.cell? ⟨w.heap.size, 2, none⟩ = some (.int .i64 id))) (by kernel_rfl) ?_ (fun hHeld => ?_)
  · exact KC.out _ R1.out
  refine wpAnyH_take (i := 0) (v := .agg (ruC p (.slice sa sn sc) id)) rfl (by kernel_rfl) (by kernel_rfl) (by kernel_rfl) (fun _ _ _ h => h) (yields_loadR (by rfl) 106 _ rfl w.heap.size rfl 106 (ruC p (.slice sa sn sc) id) _ (fun _ h => h.1) Tryz.underlying106 rfl size3r) (by assumption) ?_
  try simp only [List.getElem_toArray, List.getElem_cons_zero, List.getElem_cons_succ, Act.put, List.setIfInBounds_toArray, List.set_cons_zero, List.set_cons_succ]
  refine wpAnyH_take (i := 2) (v := ?_) rfl (by kernel_rfl) (by kernel_rfl) (by kernel_rfl) (fun _ _ _ h => h) (Or.inl ⟨by rfl, ?_⟩) (by assumption) ?_
  rotate_left
  · (intro w hSw; (try dsimp only at hSw); go_simp; try with_reducible rfl)
  try simp only [List.getElem_toArray, List.getElem_cons_zero, List.getElem_cons_succ, Act.put, List.setIfInBounds_toArray, List.set_cons_zero, List.set_cons_succ]
  refine wpAnyH_take (i := 3) (v := ?_) rfl (by kernel_rfl) (by kernel_rfl) (by kernel_rfl) (fun _ _ _ h => h) (Or.inl ⟨by rfl, ?_⟩) (by assumption) ?_
  rotate_left
  · (intro w hSw; (try dsimp only at hSw); go_simp; try with_reducible rfl)
  try simp only [List.getElem_toArray, List.getElem_cons_zero, List.getElem_cons_succ, Act.put, List.setIfInBounds_toArray, List.set_cons_zero, List.set_cons_succ]
  refine wpAnyH_take (i := 4) (v := ?_) rfl (by kernel_rfl) (by kernel_rfl) (by kernel_rfl) (fun _ _ _ h => h) (Or.inl ⟨by rfl, ?_⟩) (by assumption) ?_
  rotate_left
  · (intro w hSw; (try dsimp only at hSw); go_simp; try with_reducible rfl)
  try simp only [List.getElem_toArray, List.getElem_cons_zero, List.getElem_cons_succ, Act.put, List.setIfInBounds_toArray, List.set_cons_zero, List.set_cons_succ]
  refine wpAnyH_ready (rs := [1]) (by kernel_rfl) (by simp) ?_
  have B1d : Hid (Below w.heap.size w W1.drew) := B1.out.drew
  have R1d : Hid (W1.drew.heap[w.heap.size]? = some (.cells (ruC p (.slice sa sn sc) id) 106 (0, 0))) := R1.out
  have hsw : Hid (w.heap.size + 1 ≤ W1.drew.heap.size) := (lt_of_heap R1.out : w.heap.size < W1.heap.size)
  clear R1 B1 hsz1
  obtain ⟨V1, hV1⟩ : ∃ V, V = W1.drew := ⟨_, rfl⟩
  rw [← hV1] at B1d R1d hsw ⊢
  clear hV1
  refine AllReadyH.cons (o := _) rfl (fun K hK => ?_) AllReadyH.nil
  go_simp
  refine (copyOf_any p id (.slice sa sn sc) ts V1 (TV.below HS.out B1d.out)).mono ?_
  rintro e WC ⟨s', rfl, hso, hbc⟩
  go_wp2_with fail
  have BC : Hid (Below w.heap.size w WC) := B1d.out.trans (hbc.mono B1d.out.size)
  have CC : Hid _ := HCL.out.of BC.out
  have RW : Hid (WC.heap[w.heap.size]? = some (.cells (ruC p (.slice sa sn sc) id) 106 (0, 0))) := (hbc.block _ hsw.out).trans R1d.out
  have SO : Hid _ := hso
  have SZ : Hid (w.heap.size + 1 ≤ WC.heap.size) := Nat.le_trans hsw.out hbc.size
  clear hso hbc
  refine hK.out _ _ (KC.out _ RW.out) (fun hHeld2 => ?_)
  clear hK K hHeld
  have hHeld := hHeld2
  clear hHeld2
  try simp only [List.getElem_toArray, List.getElem_cons_zero, List.getElem_cons_succ, Act.put, List.setIfInBounds_toArray, List.set_cons_zero, List.set_cons_succ]
  refine wpAnyH_ready (rs := [5]) (by kernel_rfl) (by simp) ?_
  refine AllReadyH.cons (o := _) rfl (fun K hK => ?_) AllReadyH.nil
  go_simp
  refine (tupleOf_new (B := B) (w := WC) CC.out.c CC.out.m (TV.below HS.out BC.out) hlen (fun W x hW hx => HX.out W x (BC.out.trans (hW.mono BC.out.size)) hx) HF.out (Nat.le_trans hB BC.out.size) HCL.out.bm).mono ?_
  rintro e WT ⟨tb, qm, sh, mk, rfl, ht1, ht2, ht3, ht4, ht5, ht6, ht7, ht8⟩
  go_wp2_with fail
  have R2 : Hid (WT.heap[w.heap.size]? = some (.cells (ruC p (.slice sa sn sc) id) 106 (0, 0))) := (ht7 _ SZ.out (by omega)).trans RW.out
  have SO2 : Hid (WT.ownsRow w.heap.size 118 3 s' ts.length (rowT ts)) := own_base (own_from SO.out (fun g h1 h2 => ht7 g h2 (by have := hsw.out; omega))) (by have := hsw.out; omega)
  have SH2 : Hid (WT.ownsRow w.heap.size 118 3 sh ts.length (rowT (ts.map z0))) := own_base ht6 (by have := SZ.out; omega)
  have OLD : Hid (∀ g, g < w.heap.size → g ≠ tm → WT.heap[g]? = w.heap[g]?) := fun g h1 h2 => (ht7 g (by have := SZ.out; omega) h2).trans (BC.out.block g h1)
  have BT : Hid (Below B w WT) := (BC.out.mono hB).trans ht8
  have T1 : Hid _ := ht3
  have T2 : Hid _ := ht4
  have T3 : Hid _ := ht5
  have G1 : Hid (w.heap.size ≤ tb ∧ w.heap.size ≤ qm) := by show _ ∧ _; have := SZ.out; omega
  have SZT : Hid (w.heap.size + 1 ≤ WT.heap.size) := lt_of_heap R2.out
  clear ht1 ht2 ht3 ht4 ht5 ht6 ht7 ht8 CC RW SO SZ BC B1d R1d hsw
  refine hK.out _ _ (KC.out _ R2.out) (fun hHeld2 => ?_)
  clear hK K hHeld
  have hHeld := hHeld2
  clear hHeld2
  try simp only [List.getElem_toArray, List.getElem_cons_zero, List.getElem_cons_succ, Act.put, List.setIfInBounds_toArray, List.set_cons_zero, List.set_cons_succ]
  refine wpAnyH_take (i := 6) (v := .agg (enC p s' id tb 0)) rfl (by kernel_rfl) (by kernel_rfl) (by kernel_rfl) (fun _ _ _ h => h) (yields_build (by rfl) 151 _ rfl (enC p s' id tb 0) (by rw [List.map_toArray]; exact build_entry p s' id tb)) (by assumption) ?_
  try simp only [List.getElem_toArray, List.getElem_cons_zero, List.getElem_cons_succ, Act.put, List.setIfInBounds_toArray, List.set_cons_zero, List.set_cons_succ]
  refine wpAnyH_ready (rs := [7]) (by kernel_rfl) (by simp) ?_
  refine AllReadyH.cons (o := _) rfl (fun K hK => ?_) AllReadyH.nil
  go_simp
  have BV : Hid _ := below1 WT (.cells (enC p s' id tb 0) 151)
  have RV : Hid ((WT.alloc (.cells (enC p s' id tb 0) 151)).heap[w.heap.size]? = some (.cells (ruC p (.slice sa sn sc) id) 106 (0, 0))) := (BV.out.block _ (lt_of_heap R2.out)).trans R2.out
  refine hK.out _ _ (KC.out _ RV.out) (fun hHeld2 => ?_)
  clear hK K hHeld
  have hHeld := hHeld2
  clear hHeld2
  try simp only [List.getElem_toArray, List.getElem_cons_zero, List.getElem_cons_succ, Act.put, List.setIfInBounds_toArray, List.set_cons_zero, List.set_cons_succ]
  refine wpAnyH_take (i := 8) (v := ?_) rfl (by kernel_rfl) (by kernel_rfl) (by kernel_rfl) (fun _ _ _ h => h) (Or.inl ⟨by rfl, ?_⟩) (by assumption) ?_
  rotate_left
  · (intro w hSw; (try dsimp only at hSw); go_simp; try with_reducible rfl)
  try simp only [List.getElem_toArray, List.getElem_cons_zero, List.getElem_cons_succ, Act.put, List.setIfInBounds_toArray, List.set_cons_zero, List.set_cons_succ]
  clear hHeld
  refine wpAnyH_done (by kernel_rfl) ?_ _
  obtain ⟨V, hV⟩ : ∃ V, V = WT.alloc (.cells (enC p s' id tb 0) 151) := ⟨_, rfl⟩
  have VE : Hid (V.heap[WT.heap.size]? = some (.cells (enC p s' id tb 0) 151 (0, 0))) := by show _ = _; rw [hV]; exact heap_alloc_new _ _
  have VS : Hid (V.heap.size = WT.heap.size + 1) := by show _ = _; rw [hV]; simp
  rw [← hV] at BV RV ⊢
  have VR : Hid (V.heap[rb]? = some (.map (entG iv lr).toArray cr)) := (BV.out.block _ (by have := SZT.out; omega)).trans ((OLD.out _ hlr HCL.out.ne).trans HCL.out.r)
  have hcm : cb ≠ tm := fun e => by subst e; have := HCL.out.c; rw [HCL.out.m] at this; cases this
  have hcr : cb ≠ rb := fun e => by subst e; have := HCL.out.c; rw [HCL.out.r] at this; cases this
  have HCM : Hid _ := hcm
  have HCR : Hid _ := hcr
  have VC : Hid (V.heap[cb]? = some (.cells (clC rb tm) 145 (0, 0))) := (BV.out.block _ (by have := SZT.out; omega)).trans ((OLD.out _ hlc hcm).trans HCL.out.c)
  clear hV KC R2 hcm hcr
  have KD : Hid (∀ W : World, W.heap[w.heap.size]? = some (.cells (ruC p (.slice sa sn sc) id) 106 (0, 0)) → W.heap[cb]? = some (.cells (clC rb tm) 145 (0, 0)) → W.cell? ⟨cb, 0, none⟩ = some (.map (some rb)) ∧ W.cell? ⟨w.heap.size, 2, none⟩ = some (.int .i64 id)) := fun W h h2 => ⟨cell_row h2 0, cell_row h 2⟩
  go_wp2_with fail
  refine wp_region_held_drew (S := (fun W : World => W.cell? ⟨cb, 0, none⟩ = some (.map (some rb)) ∧ W.cell? ⟨w.heap.size, 2, none⟩ = some (.int .i64 id))) (by kernel_rfl) ?_ (fun hHeld => ?_)
  · exact KD.out _ RV.out VC.out
  refine wpAnyH_take (i := 0) (v := ?_) rfl (by kernel_rfl) (by kernel_rfl) (by kernel_rfl) (fun _ _ _ h => h) (Or.inl ⟨by rfl, ?_⟩) (by assumption) ?_
  rotate_left
  · (intro w hSw; (try dsimp only at hSw); go_simp; try with_reducible rfl)
  try simp only [List.getElem_toArray, List.getElem_cons_zero, List.getElem_cons_succ, Act.put, List.setIfInBounds_toArray, List.set_cons_zero, List.set_cons_succ]
  refine wpAnyH_take (i := 1) (v := ?_) rfl (by kernel_rfl) (by kernel_rfl) (by kernel_rfl) (fun _ _ _ h => h) (Or.inl ⟨by rfl, ?_⟩) (by assumption) ?_
  rotate_left
  · (intro w hSw; (try dsimp only at hSw); go_simp; try with_reducible rfl)
  try simp only [List.getElem_toArray, List.getElem_cons_zero, List.getElem_cons_succ, Act.put, List.setIfInBounds_toArray, List.set_cons_zero, List.set_cons_succ]
  refine wpAnyH_take (i := 2) (v := ?_) rfl (by kernel_rfl) (by kernel_rfl) (by kernel_rfl) (fun _ _ _ h => h) (Or.inl ⟨by rfl, ?_⟩) (by assumption) ?_
  rotate_left
  · (intro w hSw; (try dsimp only at hSw); go_simp; try with_reducible rfl)
  try simp only [List.getElem_toArray, List.getElem_cons_zero, List.getElem_cons_succ, Act.put, List.setIfInBounds_toArray, List.set_cons_zero, List.set_cons_succ]
  refine wpAnyH_take (i := 3) (v := ?_) rfl (by kernel_rfl) (by kernel_rfl) (by kernel_rfl) (fun _ _ _ h => h) (Or.inl ⟨by rfl, ?_⟩) (by assumption) ?_
  rotate_left
  · (intro w hSw; (try dsimp only at hSw); go_simp; try with_reducible rfl)
  try simp only [List.getElem_toArray, List.getElem_cons_zero, List.getElem_cons_succ, Act.put, List.setIfInBounds_toArray, List.set_cons_zero, List.set_cons_succ]
  refine wpAnyH_take (i := 4) (v := ?_) rfl (by kernel_rfl) (by kernel_rfl) (by kernel_rfl) (fun _ _ _ h => h) (Or.inl ⟨by rfl, ?_⟩) (by assumption) ?_
  rotate_left
  · (intro w hSw; (try dsimp only at hSw); go_simp; try with_reducible rfl)
  try simp only [List.getElem_toArray, List.getElem_cons_zero, List.getElem_cons_succ, Act.put, List.setIfInBounds_toArray, List.set_cons_zero, List.set_cons_succ]
  refine wpAnyH_take (i := 5) (v := ?_) rfl (by kernel_rfl) (by kernel_rfl) (by kernel_rfl) (fun _ _ _ h => h) (Or.inl ⟨by rfl, ?_⟩) (by assumption) ?_
  rotate_left
  · (intro w hSw; (try dsimp only at hSw); go_simp; try with_reducible rfl)
  try simp only [List.getElem_toArray, List.getElem_cons_zero, List.getElem_cons_succ, Act.put, List.setIfInBounds_toArray, List.set_cons_zero, List.set_cons_succ]
  refine wpAnyH_take (i := 6) (v := ?_) rfl (by kernel_rfl) (by kernel_rfl) (by kernel_rfl) (fun _ _ _ h => h) (Or.inl ⟨by rfl, ?_⟩) (by assumption) ?_
  rotate_left
  · (intro w hSw; (try dsimp only at hSw); go_simp; try with_reducible rfl)
  try simp only [List.getElem_toArray, List.getElem_cons_zero, List.getElem_cons_succ, Act.put, List.setIfInBounds_toArray, List.set_cons_zero, List.set_cons_succ]
  refine wpAnyH_ready (rs := [7]) (by kernel_rfl) (by simp) ?_
  refine AllReadyH.cons (o := _) rfl (fun K hK => ?_) AllReadyH.nil
  refine wp_mapUpdate 142 _ _ _ rfl (.map (some rb)) (iv id) (.pointer (some ⟨WT.heap.size, 0, none⟩)) rfl rfl rfl (put_new intK Tryz.underlying142 (w := V.drew) (l := lr) (c := cr) VR.out id HR.out _) ?_
  obtain ⟨U, hU⟩ : ∃ U, U = putObj V.drew rb (.map (entG iv (lr ++ [(id, .pointer (some ⟨WT.heap.size, 0, none⟩), cr)])).toArray (cr + 1)) := ⟨_, rfl⟩
  rw [← hU]
  have US : Hid (U.heap.size = WT.heap.size + 1) := by show _ = _; rw [hU, putObj_size]; exact VS.out
  have UR : Hid (U.heap[rb]? = some (.map (entG iv (lr ++ [(id, .pointer (some ⟨WT.heap.size, 0, none⟩), cr)])).toArray (cr + 1))) := by show _ = _; rw [hU]; exact putObj_same (show rb < V.heap.size by rw [VS.out]; have := SZT.out; omega) _
  have UO : Hid (∀ g, g ≠ rb → U.heap[g]? = V.heap[g]?) := fun g hg => by rw [hU]; exact putObj_other V.drew hg _
  have UB : Hid (Below B V U) := by show Below _ _ _; rw [hU]; exact (Below.refl B V).drew.trans ((putObj_below V.drew rb _).mono HCL.out.br)
  have RU : U.heap[w.heap.size]? = some (.cells (ruC p (.slice sa sn sc) id) 106 (0, 0)) := (UO.out _ (by omega)).trans RV.out
  have CU : U.heap[cb]? = some (.cells (clC rb tm) 145 (0, 0)) := (UO.out _ HCR.out).trans VC.out
  refine hK.out _ _ (KD.out _ RU CU) (fun hHeld2 => ?_)
  clear hK K hHeld hHeld2 hU RU CU KD VR
  try simp only [List.getElem_toArray, List.getElem_cons_zero, List.getElem_cons_succ, Act.put, List.setIfInBounds_toArray, List.set_cons_zero, List.set_cons_succ]
  refine wpAnyH_done (by kernel_rfl) ?_ _
  have UE : Hid (U.heap[WT.heap.size]? = some (.cells (enC p s' id tb 0) 151 (0, 0))) := (UO.out _ (by have := SZT.out; omega)).trans VE.out
  have c3 : U.cell? ⟨WT.heap.size, 3, none⟩ = some (.pointer (some ⟨tb, 0, none⟩)) := cell_row UE.out 3
  have UT : Hid (∀ g, g < WT.heap.size → g ≠ rb → U.heap[g]? = WT.heap[g]?) := fun g h1 h2 => (UO.out g h2).trans (BV.out.block g h1)
  have TL : Hid (tb < WT.heap.size ∧ qm < WT.heap.size) := ⟨lt_of_heap T2.out, lt_of_heap T3.out⟩
  have UTB : Hid (U.heap[tb]? = some (.cells (tuC tx sh mk qm) 185 (0, 0))) := (UT.out _ TL.out.1 (by have := G1.out; omega)).trans T2.out
  have UQM : Hid (U.heap[qm]? = some (.map (entG sv []).toArray 0)) := (UT.out _ TL.out.2 (by have := G1.out; omega)).trans T3.out
  have USO : Hid (U.ownsRow w.heap.size 118 3 s' ts.length (rowT ts)) := own_from SO2.out (fun g h1 h2 => UT.out g h2 (by omega))
  have USH : Hid (U.ownsRow w.heap.size 118 3 sh ts.length (rowT (ts.map z0))) := own_from SH2.out (fun g h1 h2 => UT.out g h2 (by omega))
  have HTA : Hid _ := tadd_new (B := w.heap.size) UTB.out UQM.out UE.out (own_any USO.out (by omega)) hlen rfl (by have := US.out; have := SZT.out; omega) (by have := G1.out; omega) (by have := SZT.out; omega)
  go_wp2_with fail
  refine Calls.mono HTA.out ?_
  rintro e Z ⟨rfl, qb, qa, qc, x1, x2, x3, x4, x5, x6, x7⟩
  have hqe : qm ≠ WT.heap.size := by have := TL.out; omega
  have ZK : Hid (Kept U Z) := fun g A hg => by
    have hl := lt_of_heap hg
    refine (x6 g hl (fun e => ?_) (fun e => ?_)).trans hg
    · subst e; rw [UQM.out] at hg; cases hg
    · subst e; rw [UE.out] at hg; cases hg
  have ZA : Hid (Alone1 Z w.heap.size WT.heap.size tb qm qb p id tx ts s' sh mk qa qc) := ⟨x5, (x6 tb (by have := US.out; have := TL.out; omega) (fun e => by subst e; have := UTB.out; rw [UQM.out] at this; cases this) (by have := TL.out; omega)).trans UTB.out, x2, x3, x4, own_kept USO.out ZK.out, own_kept USH.out ZK.out⟩
  have ZO : Hid (∀ g, g < w.heap.size → Z.heap[g]? = U.heap[g]?) := fun g hg => x6 g (by have := US.out; have := SZT.out; omega) (by have := G1.out; omega) (by have := SZT.out; omega)
  have ZC : Hid (Cl Z B cb rb tm (cr + 1) (ct + 1) (lr ++ [(id, .pointer (some ⟨WT.heap.size, 0, none⟩), cr)]) (lt ++ [(tx, .pointer (some ⟨tb, 0, none⟩), ct)])) :=
    ⟨(ZO.out _ hlc).trans ((UO.out _ HCR.out).trans VC.out), (ZO.out _ hlr).trans UR.out, (ZO.out _ hlm).trans ((UT.out _ (by have := SZT.out; omega) (fun e => HCL.out.ne e.symm)).trans T1.out), HCL.out.ne, HCL.out.br, HCL.out.bm,
      fun x hx => by
        rcases List.mem_append.1 hx with h | h
        · exact HCL.out.ptr x h
        · simp at h; subst h; exact ⟨_, rfl⟩,
      by have := HL6.out; simp; omega⟩
  have ZD : Hid (∀ g, g < w.heap.size → g ≠ rb → g ≠ tm → Z.heap[g]? = w.heap[g]?) := fun g h1 h2 h3 => (ZO.out g h1).trans ((UT.out g (by have := SZT.out; omega) h2).trans (OLD.out g h1 h3))
  have ZB : Hid (Below B w Z) := BT.out.trans ((BV.out.mono (by have := SZT.out; omega)).trans (UB.out.trans (x7.mono hB)))
  have ZG : Hid (w.heap.size ≤ qb) := by show _ ≤ _; have := US.out; have := SZT.out; omega
  clear x1 x2 x3 x4 x5 x6 x7 hqe HTA c3
  go_wp2
  go_ret
  exact ⟨rfl, WT.heap.size, tb, qm, qb, s', sh, mk, qa, qc, by have := SZT.out; omega, G1.out.1, G1.out.2, ZG.out, ZC.out, ZA.out, ZD.out, ZB.out⟩
end Go.Proofs.YtnahhmcmahbnkaaGreatDoor
