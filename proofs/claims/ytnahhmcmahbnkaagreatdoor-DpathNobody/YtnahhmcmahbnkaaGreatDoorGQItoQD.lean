/- An entry put into a tuple under a key that is new there. Conditions: as said. -/
import Derived.Test.YtnahhmcmahbnkaaGreatDoorGQGtoQH
import Derived.Lib.Hide
import Derived.Test.YtnahhmcmahbnkaaGreatDoorGQCtoQF
namespace Go.Proofs.YtnahhmcmahbnkaaGreatDoor
open Go.RowKit
/-- A tuple by its cells. -/
abbrev tuC (tx : ByteArray) (sh : Value) (mk : Int) (qm : Nat) : Array Value := #[.string tx, sh, .int .u64 mk, .map (some qm)]
theorem run_queue0 (w : World) : (Instr.buildSlice 188 0 #[]).run Tryz.prog w = .ok (.slice (some ⟨w.heap.size, 0, none⟩) 0 0) (w.alloc (.cells #[] 146)) := by kernel_rfl
theorem eql_pqueue (a : Addr) (W : World) : (binOp .eql 186 (.pointer (some a)) (.pointer none)).run Tryz.prog W = .ok (.bool false) W := by
  first | kernel_rfl | simp [binOp, go_sem]
theorem eql_pqueue0 (W : World) : (binOp .eql 186 (.pointer none) (.pointer none)).run Tryz.prog W = .ok (.bool true) W := by
  first | kernel_rfl | simp [binOp, go_sem]
theorem zero_pqueue (W : World) : (zeroValue 186).run Tryz.prog W = .ok (.pointer none) W := by
  first | kernel_rfl | simp [go_sem]
set_option linter.unusedSimpArgs false in
set_option maxRecDepth 20000 in
set_option maxHeartbeats 2000000 in
theorem tadd_new {w : World} {B tb qm c eb : Nat} {tx : ByteArray} {sh s : Value} {mk p id pl : Int} {ts : List Tm} {lq : List (ByteArray × Value × Nat)} (ht : w.heap[tb]? = some (.cells (tuC tx sh mk qm) 185 (0, 0))) (hq : w.heap[qm]? = some (.map (entG sv lq).toArray c))
    (he : w.heap[eb]? = some (.cells (enC p s id tb pl) 151 (0, 0))) (hs : TV w s ts) (hlen : ts.length ≤ 100) (hf : findG (keyS ts) lq 0 = none) (hB : B ≤ w.heap.size) (hBq : B ≤ qm) (hBe : B ≤ eb) :
    Calls Tryz.prog 59 #[.pointer (some ⟨tb, 0, none⟩), .pointer (some ⟨eb, 0, none⟩)] w fun e w' => e = .returned (.tuple #[]) ∧ ∃ qb qa qc, w.heap.size ≤ qb ∧ w'.heap[qm]? = some (.map (entG sv (lq ++ [(keyS ts, .pointer (some ⟨qb, 0, none⟩), c)])).toArray (c + 1)) ∧
      w'.heap[qb]? = some (.cells (quC (.slice qa 1 qc)) 188 (0, 0)) ∧ w'.ownsRow B 146 1 (.slice qa 1 qc) 1 [.pointer (some ⟨eb, 0, none⟩)] ∧ w'.heap[eb]? = some (.cells (enC p s id tb 0) 151 (0, 0)) ∧ (∀ g, g < w.heap.size → g ≠ qm → g ≠ eb → w'.heap[g]? = w.heap[g]?) ∧ Below B w w' := by
  have HV : Hid _ := valuesOf_any s ts w hs hlen
  obtain ⟨sa, sn, sc, rfl, _, _⟩ := hs
  have c1 : w.cell? ⟨eb, 1, none⟩ = some (.slice sa sn sc) := cell_row he 1
  have HE : Hid _ := he
  have HT : Hid _ := ht
  have HQ : Hid _ := hq
  have HF : Hid _ := hf
  have hlt := lt_of_heap ht
  have hlq := lt_of_heap hq
  have hle := lt_of_heap he
  obtain ⟨key, hkey⟩ : ∃ key, keyS ts = key := ⟨_, rfl⟩
  rw [hkey] at HV HF ⊢
  clear he ht hq hf hkey
  go_enter Tryz.func59, Tryz.ntmps59
  go_wp2_with fail
  refine Calls.mono HV.out ?_
  rintro e W ⟨rfl, hb⟩
  have HB : Hid _ := hb
  have t3 : W.cell? ⟨tb, 3, none⟩ = some (.map (some qm)) := cell_row ((hb.block _ hlt).trans HT.out) 3
  have q0 : W.heap[qm]? = some (.map (entG sv lq).toArray c) := (hb.block _ hlq).trans HQ.out
  have Q0 : Hid _ := q0
  have hlk : (Instr.lookup 183 (.map (some qm)) (.string key) false).run Tryz.prog W = .ok (.pointer none) W := by
    have := look_any strK Tryz.underlying183 (.pointer none) zero_pqueue q0 key
    simpa [HF.out, sv] using this
  have hqb := run_queue0
  have heq := eql_pqueue0
  obtain ⟨V, hV⟩ : ∃ V, V = (W.alloc (.cells #[] 146)).alloc (.cells (quC (.slice (some ⟨W.heap.size, 0, none⟩) 0 0)) 188) := ⟨_, rfl⟩
  have BV : Hid (Below W.heap.size W V) := by rw [hV]; exact below2 W _ _
  have SV : Hid (V.heap.size = W.heap.size + 2) := by show _ = _; rw [hV]; simp
  have V1 : Hid (V.heap[W.heap.size]? = some (.cells #[] 146 (0, 0))) := by show _ = _; rw [hV]; exact two_first _ _ _
  have V2 : Hid (V.heap[W.heap.size + 1]? = some (.cells (quC (.slice (some ⟨W.heap.size, 0, none⟩) 0 0)) 188 (0, 0))) := by show _ = _; rw [hV]; exact two_last _ _ _
  have hput : (Instr.mapUpdate 183 (.map (some qm)) (.string key) (.pointer (some ⟨W.heap.size + 1, 0, none⟩))).run Tryz.prog V = .ok () (putObj V qm (.map (entG sv (lq ++ [(key, .pointer (some ⟨W.heap.size + 1, 0, none⟩), c)])).toArray (c + 1))) := by
    have := put_new strK Tryz.underlying183 (w := V) ((BV.out.block _ (by have := hb.size; omega)).trans q0) key HF.out (.pointer (some ⟨W.heap.size + 1, 0, none⟩))
    simpa [sv] using this
  have t4 : V.cell? ⟨tb, 3, none⟩ = some (.map (some qm)) := cell_row ((BV.out.block _ (by have := hb.size; omega)).trans ((hb.block _ hlt).trans HT.out)) 3
  have hsz := hb.size
  rw [hV] at hput t4
  clear hb q0
  go_wp2_with fail
  rw [← hV]
  obtain ⟨U, hU⟩ : ∃ U, U = putObj V qm (.map (entG sv (lq ++ [(key, .pointer (some ⟨W.heap.size + 1, 0, none⟩), c)])).toArray (c + 1)) := ⟨_, rfl⟩
  rw [← hU]
  have us : U.heap.size = W.heap.size + 2 := by rw [hU, putObj_size, SV.out]
  have uq : U.heap[qm]? = some (.map (entG sv (lq ++ [(key, .pointer (some ⟨W.heap.size + 1, 0, none⟩), c)])).toArray (c + 1)) := by rw [hU]; exact putObj_same (by rw [SV.out]; omega) _
  have uo : ∀ g, g ≠ qm → U.heap[g]? = V.heap[g]? := fun g hg => by rw [hU]; exact putObj_other V hg _
  have ue : U.heap[eb]? = some (.cells (enC p (.slice sa sn sc) id tb pl) 151 (0, 0)) := by
    have hne : eb ≠ qm := fun e => by subst e; have := HE.out; rw [HQ.out] at this; cases this
    exact (uo _ hne).trans ((BV.out.block _ (by omega)).trans ((HB.out.block _ hle).trans HE.out))
  have u1 : U.heap[W.heap.size]? = some (.cells #[] 146 (0, 0)) := (uo _ (by omega)).trans V1.out
  have u2 : U.heap[W.heap.size + 1]? = some (.cells (quC (.slice (some ⟨W.heap.size, 0, none⟩) 0 0)) 188 (0, 0)) := (uo _ (by omega)).trans V2.out
  have uown : U.ownsRow B 146 1 (.slice (some ⟨W.heap.size, 0, none⟩) 0 0) 0 [] := ⟨rfl, .inr ⟨W.heap.size, 0, #[], rfl, by omega, u1, Nat.le_refl _, Nat.zero_le _, rfl, rfl⟩⟩
  have bU : Below B w U := (HB.out.mono hB).trans ((BV.out.mono (by omega)).trans (by rw [hU]; exact (putObj_below V qm _).mono hBq))
  have HU : Hid (Below B w U) := bU
  have UQ : Hid _ := uq
  have UO : Hid _ := uo
  have hqe : qm ≠ eb := fun e => by subst e; have := HE.out; rw [HQ.out] at this; cases this
  have HP : Hid _ := hPush_zero (W.heap.size + 1) eb B (.slice (some ⟨W.heap.size, 0, none⟩) 0 0) p id (.slice sa sn sc) tb pl U u2 ue uown (by omega) (by omega) hBe
  clear hU uq uo ue u1 u2 uown bU hput t3 t4 hlk hqb heq c1 hV
  go_wp2_with fail
  refine Calls.mono HP.out ?_
  rintro e Z ⟨rfl, qa, qc, x1, x2, x3, x4, x5⟩
  have hold : ∀ g, g < w.heap.size → g ≠ qm → g ≠ eb → Z.heap[g]? = w.heap[g]? := fun g h1 h2 h3 =>
    (x4 g (by omega) (by omega) h3 (by simp [Value.ownBlock]; omega)).trans ((UO.out g h2).trans ((BV.out.block _ (by omega)).trans (HB.out.block _ h1)))
  have hqm : Z.heap[qm]? = some (.map (entG sv (lq ++ [(key, .pointer (some ⟨W.heap.size + 1, 0, none⟩), c)])).toArray (c + 1)) := (x4 qm (by omega) (by omega) hqe (by simp [Value.ownBlock]; omega)).trans UQ.out
  have K : Hid _ := And.intro hqm (And.intro x1 (And.intro x3 (And.intro x2 (And.intro hold (HU.out.trans x5)))))
  clear x1 x2 x3 x4 x5 hold hqm HP
  go_wp2
  go_end0
  exact ⟨rfl, W.heap.size + 1, qa, qc, by omega, K.out⟩
end Go.Proofs.YtnahhmcmahbnkaaGreatDoor
/- tupleOf, where the shape is new. Conditions: as said. -/
namespace Go.Proofs.YtnahhmcmahbnkaaGreatDoor
open Go.RowKit
theorem TV.putm {w : World} {v : Value} {ts : List Tm} (h : TV w v ts) {r c : Nat} {es : Array MapEntry} (hr : w.heap[r]? = some (.map es c)) (o : Obj) : TV (putObj w r o) v ts := by
  obtain ⟨a, n, c, rfl, hc, ht⟩ := h
  refine ⟨a, n, c, rfl, hc, ht.len, ht.room, ?_⟩
  rcases ht.cells with h0 | ⟨b, off, e, hcell⟩
  · exact .inl h0
  · refine .inr ⟨b, off, e, fun i t hi => ?_⟩
    have c0 := hcell i t hi
    have hne : b ≠ r := fun e => by
      subst e
      have := c0.1
      unfold World.cell? at this
      rw [hr] at this
      cases this
    have key : ∀ j, (putObj w r o).cell? ⟨b, j, none⟩ = w.cell? ⟨b, j, none⟩ := fun j => World.cell?_of_block (putObj_other w hne o)
    exact ⟨by rw [key]; exact c0.1, by rw [key]; exact c0.2.1, by rw [key]; exact c0.2.2⟩
theorem eql_ptuple (a : Addr) (W : World) : (binOp .eql 148 (.pointer (some a)) (.pointer none)).run Tryz.prog W = .ok (.bool false) W := by
  first | kernel_rfl | simp [binOp, go_sem]
theorem eql_ptuple0 (W : World) : (binOp .eql 148 (.pointer none) (.pointer none)).run Tryz.prog W = .ok (.bool true) W := by
  first | kernel_rfl | simp [binOp, go_sem]
theorem zero_ptuple (W : World) : (zeroValue 148).run Tryz.prog W = .ok (.pointer none) W := by
  first | kernel_rfl | simp [go_sem]
set_option linter.unusedSimpArgs false in
set_option maxRecDepth 20000 in
set_option maxHeartbeats 2000000 in
theorem tupleOf_new {w : World} {B cb rb tm ct : Nat} {tx : ByteArray} {s : Value} {ts : List Tm} {lt : List (ByteArray × Value × Nat)} (hc : w.heap[cb]? = some (.cells (clC rb tm) 145 (0, 0))) (hm : w.heap[tm]? = some (.map (entG sv lt).toArray ct))
    (hs : TV w s ts) (hlen : ts.length ≤ 100) (hx : ∀ W x, Below w.heap.size w W → TV W x (ts.map z0) → Calls Tryz.prog 25 #[x] W fun e w' => e = .returned (.string tx) ∧ Below W.heap.size W w') (hf : findG tx lt 0 = none) (hB : B ≤ w.heap.size) (hBm : B ≤ tm) :
    Calls Tryz.prog 58 #[.pointer (some ⟨cb, 0, none⟩), s] w fun e w' => ∃ tb qm sh mk, e = .returned (.pointer (some ⟨tb, 0, none⟩)) ∧ w.heap.size ≤ tb ∧ w.heap.size ≤ qm ∧ w'.heap[tm]? = some (.map (entG sv (lt ++ [(tx, .pointer (some ⟨tb, 0, none⟩), ct)])).toArray (ct + 1)) ∧
      w'.heap[tb]? = some (.cells (tuC tx sh mk qm) 185 (0, 0)) ∧ w'.heap[qm]? = some (.map #[] 0) ∧ w'.ownsRow w.heap.size 118 3 sh ts.length (rowT (ts.map z0)) ∧ (∀ g, g < w.heap.size → g ≠ tm → w'.heap[g]? = w.heap[g]?) ∧ Below B w w' := by
  have HS : Hid _ := shapeOf_any s ts w hs (by omega)
  have HX : Hid _ := hx
  have HC : Hid _ := hc
  have HM : Hid _ := hm
  have HF : Hid _ := hf
  have hlc := lt_of_heap hc
  have hlm := lt_of_heap hm
  obtain ⟨sa, sn, sc, rfl, _, _⟩ := hs
  clear hx hc hm hf
  go_enter Tryz.func58, Tryz.ntmps58
  go_wp2_with fail
  refine Calls.mono HS.out ?_
  rintro e W1 ⟨x, rfl, ho, hb⟩
  have tv1 : TV W1 x (ts.map z0) := own_any (B := w.heap.size) (by simpa using ho) (by simp; omega)
  obtain ⟨xa, xn, xc, rfl⟩ : ∃ a n c, x = .slice a n c := by
    obtain ⟨a, n, c, e, _⟩ := tv1
    exact ⟨a, n, c, e⟩
  have B1 : Hid _ := hb
  have TV1 : Hid _ := tv1
  have OW1 : Hid _ := ho
  have HXX : Hid _ := HX.out W1 _ hb tv1
  clear ho hb tv1
  go_wp2_with fail
  refine Calls.mono HXX.out ?_
  rintro e W ⟨rfl, hb⟩
  have BW : Hid (Below w.heap.size w W) := B1.out.trans (hb.mono B1.out.size)
  have TVW : Hid (TV W (.slice xa xn xc) (ts.map z0)) := TV.below TV1.out hb
  have OWW : Hid (W.ownsRow w.heap.size 118 3 (.slice xa xn xc) ts.length (rowT (ts.map z0))) := own_below OW1.out hb
  clear hb
  have c1 : W.cell? ⟨cb, 1, none⟩ = some (.map (some tm)) := cell_row ((BW.out.block _ hlc).trans HC.out) 1
  have m0 : W.heap[tm]? = some (.map (entG sv lt).toArray ct) := (BW.out.block _ hlm).trans HM.out
  have M0 : Hid _ := m0
  have hlk : (Instr.lookup 143 (.map (some tm)) (.string tx) false).run Tryz.prog W = .ok (.pointer none) W := by
    have := look_any strK Tryz.underlying143 (.pointer none) zero_ptuple m0 tx
    simpa [HF.out, sv] using this
  have heq := eql_ptuple0
  have HK : Hid _ := marksOf_any (.slice xa xn xc) (ts.map z0) W TVW.out (by simp; omega)
  clear m0
  go_wp2_with fail
  refine Calls.mono HK.out ?_
  rintro e W2 ⟨⟨mk, rfl⟩, hb2⟩
  have hsz := BW.out.size
  have hsz2 := hb2.size
  obtain ⟨V, hV⟩ : ∃ V, V = (W2.alloc (.map #[] 0)).alloc (.cells (tuC tx (.slice xa xn xc) mk W2.heap.size) 185) := ⟨_, rfl⟩
  have BV : Hid (Below W2.heap.size W2 V) := by rw [hV]; exact below2 W2 _ _
  have BWV : Hid (Below W.heap.size W V) := hb2.trans (BV.out.mono hb2.size)
  have SV : Hid (V.heap.size = W2.heap.size + 2) := by show _ = _; rw [hV]; simp
  have V1 : Hid (V.heap[W2.heap.size]? = some (.map #[] 0)) := by show _ = _; rw [hV]; exact two_first _ _ _
  have V2 : Hid (V.heap[W2.heap.size + 1]? = some (.cells (tuC tx (.slice xa xn xc) mk W2.heap.size) 185 (0, 0))) := by show _ = _; rw [hV]; exact two_last _ _ _
  have hput : (Instr.mapUpdate 143 (.map (some tm)) (.string tx) (.pointer (some ⟨W2.heap.size + 1, 0, none⟩))).run Tryz.prog V = .ok () (putObj V tm (.map (entG sv (lt ++ [(tx, .pointer (some ⟨W2.heap.size + 1, 0, none⟩), ct)])).toArray (ct + 1))) := by
    have := put_new strK Tryz.underlying143 (w := V) ((BWV.out.block _ (by omega)).trans M0.out) tx HF.out (.pointer (some ⟨W2.heap.size + 1, 0, none⟩))
    simpa [sv] using this
  have t4 : V.cell? ⟨cb, 1, none⟩ = some (.map (some tm)) := cell_row ((BWV.out.block _ (by omega)).trans ((BW.out.block _ hlc).trans HC.out)) 1
  have hmm := @run_makeMap Tryz.prog
  rw [hV] at hput t4
  have HV : Hid _ := hV
  clear hb2 hlk hV c1
  go_wp2_with fail
  go_ret
  rw [← HV.out]
  refine ⟨W2.heap.size + 1, W2.heap.size, .slice xa xn xc, mk, rfl, by omega, by omega, putObj_same (by rw [SV.out]; omega) _, (putObj_other V (by omega) _).trans V2.out, (putObj_other V (by omega) _).trans V1.out, ?_, fun g h1 h2 => (putObj_other V h2 _).trans ((BWV.out.block _ (by omega)).trans (BW.out.block _ h1)), (BW.out.mono hB).trans ((BWV.out.mono (by omega)).trans ((putObj_below V tm _).mono hBm))⟩
  exact own_from (own_below OWW.out BWV.out) (fun g hg1 hg2 => putObj_other V (by omega) _)
end Go.Proofs.YtnahhmcmahbnkaaGreatDoor
/- check of a classifier: why a rule can't be taken in. Conditions: the terms can be read. -/
namespace Go.Proofs.YtnahhmcmahbnkaaGreatDoor
open Go.RowKit
theorem quiet_load {ops : Array Oper} {C : World → Prop} {Q : Act → Prop} {a : Act} {o : Oper} {rest : List Oper} (hw : Region.wanted o (yielded ops a.tmps) = true) (ty : TypeId) (x : Operand) (ho : o.op = .load ty x) (b off : Nat) (hx : a.eval x = .pointer (some ⟨b, off, none⟩)) (cs : Array Value) (d : TypeDesc)
    (hc : ∀ w, C w → w.rangeAt b off cs.toList) (hu : Tryz.prog.underlying ty = some d) (hd : d.isRow = true) (hi : (Tryz.prog.info? ty).map (·.size) = some cs.size) (h : wpQuiet Tryz.prog ops C Q rest (a.put o.dst (.agg cs))) : wpQuiet Tryz.prog ops C Q (o :: rest) a := by
  show if _ then _ else _
  rw [if_pos hw]
  refine ⟨.agg cs, fun w hC => ?_, h⟩
  have hr := run_loadAt_mid (P := Tryz.prog) w b off ty cs.toList d (hc w hC) hu hd (by rw [Array.length_toList]; exact hi)
  rw [Array.toArray_toList] at hr
  unfold Oper.quietAt execOp
  simp only [ho, hx, Sem.run_bind, hr, Result.andThen_ok, Sem.run_pure]
  exact ⟨rfl, rfl⟩
theorem quiet_lookup {ops : Array Oper} {C : World → Prop} {Q : Act → Prop} {a : Act} {o : Oper} {rest : List Oper} (hw : Region.wanted o (yielded ops a.tmps) = true) (mt : TypeId) (x k : Operand) (ho : o.op = .lookup mt x k false) (m kv v : Value) (hx : a.eval x = m) (hk : a.eval k = kv)
    (hc : ∀ w, C w → (Instr.lookup mt m kv false).run Tryz.prog w = .ok v w) (h : wpQuiet Tryz.prog ops C Q rest (a.put o.dst v)) : wpQuiet Tryz.prog ops C Q (o :: rest) a := by
  show if _ then _ else _
  rw [if_pos hw]
  refine ⟨v, fun w hC => ?_, h⟩
  unfold Oper.quietAt execOp
  simp only [ho, hx, hk, Sem.run_bind, hc w hC, Result.andThen_ok, Sem.run_pure]
  exact ⟨rfl, rfl⟩
/-- What check tells. -/
def chkR (p id : Int) (ts : List Tm) (had : Bool) (n : Nat) : Int :=
  if p < 0 ∨ 65535 < p ∨ id < 1 then 1 else if chkE ts ≠ 0 then chkE ts else if had then 5 else if 65536 ≤ n then 2 else 0
theorem neq_pent (a : Addr) (W : World) : (binOp .neq 146 (.pointer (some a)) (.pointer none)).run Tryz.prog W = .ok (.bool true) W := by
  first | kernel_rfl | simp [binOp, go_sem]
theorem neq_pent0 (W : World) : (binOp .neq 146 (.pointer none) (.pointer none)).run Tryz.prog W = .ok (.bool false) W := by
  first | kernel_rfl | simp [binOp, go_sem]
theorem zero_pent (W : World) : (zeroValue 146).run Tryz.prog W = .ok (.pointer none) W := by
  first | kernel_rfl | simp [go_sem]
theorem chkR_bad {p id : Int} {ts : List Tm} {had : Bool} {n : Nat} (h : p < 0 ∨ 65535 < p ∨ id < 1) : chkR p id ts had n = 1 := by unfold chkR; rw [if_pos h]
theorem chkR_chk {p id : Int} {ts : List Tm} {had : Bool} {n : Nat} (h : ¬ (p < 0 ∨ 65535 < p ∨ id < 1)) (h2 : chkE ts ≠ 0) : chkR p id ts had n = chkE ts := by unfold chkR; rw [if_neg h, if_pos h2]
theorem chkR_had {p id : Int} {ts : List Tm} {n : Nat} (h : ¬ (p < 0 ∨ 65535 < p ∨ id < 1)) (h2 : chkE ts = 0) : chkR p id ts true n = 5 := by unfold chkR; rw [if_neg h, if_neg (by simp [h2])]; rfl
theorem chkR_full {p id : Int} {ts : List Tm} {n : Nat} (h : ¬ (p < 0 ∨ 65535 < p ∨ id < 1)) (h2 : chkE ts = 0) (h3 : 65536 ≤ n) : chkR p id ts false n = 2 := by unfold chkR; rw [if_neg h, if_neg (by simp [h2])]; simp [h3]
theorem chkR_ok {p id : Int} {ts : List Tm} {n : Nat} (h : ¬ (p < 0 ∨ 65535 < p ∨ id < 1)) (h2 : chkE ts = 0) (h3 : ¬ 65536 ≤ n) : chkR p id ts false n = 0 := by unfold chkR; rw [if_neg h, if_neg (by simp [h2])]; simp [h3]
theorem len_map {W : World} {r c : Nat} {l : List (Int × Value × Nat)} (h : W.heap[r]? = some (.map (entG iv l).toArray c)) : (Builtin.len_ #[142] 3 #[.map (some r)]).run Tryz.prog W = .ok (.int .i64 l.length) W := by
  simp [Builtin.len_, run_underlying Tryz.underlying142, MapKept.run_getObj_map h, entG, goInt]
set_option linter.unusedSimpArgs false in
set_option maxRecDepth 100000 in
set_option maxHeartbeats 2000000 in
theorem pcheck_any {w : World} {cb rb tb c : Nat} {l : List (Int × Value × Nat)} (hc : w.heap[cb]? = some (.cells (clC rb tb) 145 (0, 0))) (hr : w.heap[rb]? = some (.map (entG iv l).toArray c)) (hl : ∀ x ∈ l, ∃ e, x.2.1 = .pointer (some ⟨e, 0, none⟩)) (hn : l.length ≤ 1000000)
    (p id : Int) (s : Value) (ts : List Tm) (h : TV w s ts) :
    Calls Tryz.prog 56 #[.pointer (some ⟨cb, 0, none⟩), .agg (ruC p s id)] w fun e w' => e = .returned (.int .i64 (chkR p id ts (findG id l 0).isSome l.length)) ∧ Below w.heap.size w w' := by
  have b1 := below1 w (.cells (ruC p s id) 106)
  have HT : Hid _ := check_any s ts (w.alloc (.cells (ruC p s id) 106)) (h.below b1)
  obtain ⟨sa, sn, sc, rfl, _, _⟩ := h
  have B1 : Hid _ := b1
  have hlc := lt_of_heap hc
  have hlr := lt_of_heap hr
  have key : Hid (∀ W, Below (w.alloc (.cells (ruC p (.slice sa sn sc) id) 106)).heap.size (w.alloc (.cells (ruC p (.slice sa sn sc) id) 106)) W → W.cell? ⟨cb, 0, none⟩ = some (.map (some rb)) ∧ W.heap[rb]? = some (.map (entG iv l).toArray c) ∧ W.cell? ⟨w.heap.size, 2, none⟩ = some (.int .i64 id)) := by
    show ∀ W, _
    intro W hW
    have q1 := (hW.block _ (by simp; omega)).trans ((heap_alloc_old w _ hlc).trans hc)
    have q2 := (hW.block _ (by simp; omega)).trans ((heap_alloc_old w _ hlr).trans hr)
    have q3 := (hW.block w.heap.size (by simp)).trans (heap_alloc_new w (.cells (ruC p (.slice sa sn sc) id) 106))
    exact ⟨cell_row q1 0, q2, cell_row q3 2⟩
  clear b1 hc hr
  by_cases d1 : p < 0
  · have HR : Hid _ := chkR_bad (p := p) (id := id) (ts := ts) (had := (findG id l 0).isSome) (n := l.length) (.inl d1)
    clear key HT
    go_enter Tryz.func56, Tryz.ntmps56
    go_wp2
    go_ret
    exact ⟨by rw [HR.out]; rfl, B1.out⟩
  by_cases d2 : 65535 < p
  · have HR : Hid _ := chkR_bad (p := p) (id := id) (ts := ts) (had := (findG id l 0).isSome) (n := l.length) (.inr (.inl d2))
    clear key HT
    go_enter Tryz.func56, Tryz.ntmps56
    go_wp2
    go_ret
    exact ⟨by rw [HR.out]; rfl, B1.out⟩
  by_cases d3 : id < 1
  · have HR : Hid _ := chkR_bad (p := p) (id := id) (ts := ts) (had := (findG id l 0).isSome) (n := l.length) (.inr (.inr d3))
    clear key HT
    go_enter Tryz.func56, Tryz.ntmps56
    go_wp2
    go_ret
    exact ⟨by rw [HR.out]; rfl, B1.out⟩
  have D : Hid (¬ (p < 0 ∨ 65535 < p ∨ id < 1)) := by show ¬ _; omega
  cases hk : chk abV 0 ts
  · have e90 : chkE ts = 90 := by unfold chkE; rw [hk]; rfl
    have HR : Hid _ := chkR_chk (had := (findG id l 0).isSome) (n := l.length) D.out (show chkE ts ≠ 0 by rw [e90]; decide)
    rw [e90] at HT HR
    clear key e90
    go_enter Tryz.func56, Tryz.ntmps56
    go_wp2_with fail
    refine Calls.mono HT.out ?_
    rintro e W ⟨rfl, hb⟩
    have HB : Hid (Below w.heap.size w W) := B1.out.trans (hb.mono B1.out.size)
    clear hb
    go_wp2
    go_ret
    exact ⟨by rw [HR.out]; rfl, HB.out⟩
  have e0 : chkE ts = 0 := by unfold chkE; rw [hk]; rfl
  have E0 : Hid _ := e0
  rw [e0] at HT
  cases hf : findG id l 0 with
  | some v =>
    obtain ⟨i, v⟩ := v
    have HR : Hid _ := chkR_had (n := l.length) D.out E0.out
    obtain ⟨b, _, hb9⟩ := findG_at hf
    obtain ⟨e9, he9⟩ := hl _ (List.mem_of_getElem? hb9)
    dsimp only at he9
    subst he9
    have HF : Hid _ := hf
    clear hf hk e0 hb9
    have hne := neq_pent
    go_enter Tryz.func56, Tryz.ntmps56
    go_wp2_with fail
    refine Calls.mono HT.out ?_
    rintro e W ⟨rfl, hb⟩
    have HB : Hid (Below w.heap.size w W) := B1.out.trans (hb.mono B1.out.size)
    obtain ⟨c0, m0, c2⟩ := key.out W hb
    have hlk : ∀ q, (Instr.lookup 142 (.map (some rb)) (.int .i64 id) false).run Tryz.prog (W.drewN q) = .ok (.pointer (some ⟨e9, 0, none⟩)) (W.drewN q) := fun q => by
      have := look_any intK Tryz.underlying142 (.pointer none) zero_pent (w := W.drewN q) m0 id
      simpa [HF.out, iv] using this
    clear hb m0 key
    go_wp2_with fail
    refine wp_region_quiet_lit (by kernel_rfl) (by kernel_rfl) ?_
    repeat (first
      | (refine quiet_lookup (by rfl) 142 _ _ rfl (.map (some rb)) (.int .i64 id) (.pointer (some ⟨e9, 0, none⟩)) rfl rfl (fun w9 h9 => by obtain ⟨q9, rfl⟩ := h9; exact hlk q9) ?_
         simp only [List.getElem_toArray, List.getElem_cons_zero, List.getElem_cons_succ, Act.put, List.setIfInBounds_toArray, List.set_cons_zero, List.set_cons_succ])
      | quiet_step (fail))
    refine wpQuiet_nil ?_
    intro _ hw'
    obtain ⟨nq, hw''⟩ := hw'
    subst hw''
    go_wp2
    go_ret
    exact ⟨by simpa using HR.out.symm, below_drewN HB.out _⟩
  | none =>
    have HF : Hid _ := hf
    clear hf hk e0
    have hne := neq_pent0
    by_cases h6 : 65536 ≤ l.length
    · have HR : Hid _ := chkR_full D.out E0.out h6
      obtain ⟨n9, hn9⟩ : ∃ n9 : Int, (l.length : Int) = n9 := ⟨_, rfl⟩
      have h6I : (65536 : Int) ≤ n9 := by omega
      have N9 : Hid _ := hn9
      clear hn9 h6
      go_enter Tryz.func56, Tryz.ntmps56
      go_wp2_with fail
      refine Calls.mono HT.out ?_
      rintro e W ⟨rfl, hb⟩
      have HB : Hid (Below w.heap.size w W) := B1.out.trans (hb.mono B1.out.size)
      obtain ⟨c0, m0, c2⟩ := key.out W hb
      have hlk : ∀ q, (Instr.lookup 142 (.map (some rb)) (.int .i64 id) false).run Tryz.prog (W.drewN q) = .ok (.pointer none) (W.drewN q) := fun q => by
        have := look_any intK Tryz.underlying142 (.pointer none) zero_pent (w := W.drewN q) m0 id
        simpa [HF.out, iv] using this
      have hln : ∀ q, (Builtin.len_ #[142] 3 #[.map (some rb)]).run Tryz.prog (W.drewN q) = .ok (.int .i64 n9) (W.drewN q) := fun q => by rw [← N9.out]; exact len_map (W := W.drewN q) m0
      clear hb m0 key
      go_wp2_with fail
      refine wp_region_quiet_lit (by kernel_rfl) (by kernel_rfl) ?_
      repeat (first
        | (refine quiet_lookup (by rfl) 142 _ _ rfl (.map (some rb)) (.int .i64 id) (.pointer none) rfl rfl (fun w9 h9 => by obtain ⟨q9, rfl⟩ := h9; exact hlk q9) ?_
           simp only [List.getElem_toArray, List.getElem_cons_zero, List.getElem_cons_succ, Act.put, List.setIfInBounds_toArray, List.set_cons_zero, List.set_cons_succ])
        | quiet_step (fail))
      refine wpQuiet_nil ?_
      intro _ hw'
      obtain ⟨nq, hw''⟩ := hw'
      subst hw''
      go_wp2
      go_ret
      exact ⟨by simpa using HR.out.symm, below_drewN HB.out _⟩
    · have HR : Hid _ := chkR_ok D.out E0.out h6
      obtain ⟨n9, hn9⟩ : ∃ n9 : Int, (l.length : Int) = n9 := ⟨_, rfl⟩
      have h6I : n9 < (65536 : Int) := by omega
      have N9 : Hid _ := hn9
      clear hn9 h6
      go_enter Tryz.func56, Tryz.ntmps56
      go_wp2_with fail
      refine Calls.mono HT.out ?_
      rintro e W ⟨rfl, hb⟩
      have HB : Hid (Below w.heap.size w W) := B1.out.trans (hb.mono B1.out.size)
      obtain ⟨c0, m0, c2⟩ := key.out W hb
      have hlk : ∀ q, (Instr.lookup 142 (.map (some rb)) (.int .i64 id) false).run Tryz.prog (W.drewN q) = .ok (.pointer none) (W.drewN q) := fun q => by
        have := look_any intK Tryz.underlying142 (.pointer none) zero_pent (w := W.drewN q) m0 id
        simpa [HF.out, iv] using this
      have hln : ∀ q, (Builtin.len_ #[142] 3 #[.map (some rb)]).run Tryz.prog (W.drewN q) = .ok (.int .i64 n9) (W.drewN q) := fun q => by rw [← N9.out]; exact len_map (W := W.drewN q) m0
      clear hb m0 key
      go_wp2_with fail
      refine wp_region_quiet_lit (by kernel_rfl) (by kernel_rfl) ?_
      repeat (first
        | (refine quiet_lookup (by rfl) 142 _ _ rfl (.map (some rb)) (.int .i64 id) (.pointer none) rfl rfl (fun w9 h9 => by obtain ⟨q9, rfl⟩ := h9; exact hlk q9) ?_
           simp only [List.getElem_toArray, List.getElem_cons_zero, List.getElem_cons_succ, Act.put, List.setIfInBounds_toArray, List.set_cons_zero, List.set_cons_succ])
        | quiet_step (fail))
      refine wpQuiet_nil ?_
      intro _ hw'
      obtain ⟨nq, hw''⟩ := hw'
      subst hw''
      go_wp2
      go_ret
      exact ⟨by simpa using HR.out.symm, below_drewN HB.out _⟩
end Go.Proofs.YtnahhmcmahbnkaaGreatDoor
