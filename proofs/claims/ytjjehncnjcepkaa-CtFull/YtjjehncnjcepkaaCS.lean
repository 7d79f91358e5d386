/- Look of a packet of the connection that a table has. Conditions: as said. -/
import Derived.Test.YtjjehncnjcepkaaCR
import Derived.Test.YtjjehncnjcepkaaCM
namespace Go.Proofs.Ytjjehncnjcepkaa
open Go.RowKit
theorem eql_pent (a : Addr) (W : World) : (binOp .eql 66 (.pointer (some a)) (.pointer none)).run Try.prog W = .ok (.bool false) W := by
  first | kernel_rfl | simp [binOp, go_sem]
theorem look_zone {W : World} {zb c g1 g2 : Nat} {z : Int} (h : W.heap[zb]? = some (.map (entG iv [(z, .agg #[.map (some g1), .map (some g2)], c)]).toArray (c + 1))) : (Instr.lookup 61 (.map (some zb)) (iv z) false).run Try.prog W = .ok (.agg #[.map (some g1), .map (some g2)]) W := by
  have hlk := look_any intK Try.underlying61 _ zero_zone h z
  rw [show findG z [(z, Value.agg #[.map (some g1), .map (some g2)], c)] 0 = some (0, .agg #[.map (some g1), .map (some g2)]) by simp [findG]] at hlk
  exact hlk
theorem look_tup {W : World} {g eb i j : Nat} {o t : Tup} (h : W.heap[g]? = some (.map (entG tv [(o, .pointer (some ⟨eb, 0, none⟩), i)]).toArray j)) : (Instr.lookup 58 (.map (some g)) (tv t) false).run Try.prog W = .ok (.pointer (if t = o then some ⟨eb, 0, none⟩ else none)) W := by
  have hlk := look_any tupK Try.underlying58 _ zero_tup_ptr h t
  rw [hlk]
  by_cases e : t = o
  · simp [findG, e]
  · simp [findG, e]
/-- What a State's Ct comes to be. -/
def ctOf (bk nat : Bool) : Int := if bk then (if nat then 14 else 6) else (if nat then 10 else 2)
/-- A State as Look leaves it where the connection is there. -/
def foundC (cs ps : Array Value) (t : Tup) (k : Int) (bk nat : Bool) (o r : Tup) : Array Value := if nat then putC (lookC cs t (ctOf bk nat)) 0 (chgC ps k bk o r).toList else lookC cs t (ctOf bk nat)
theorem look_set (cs : Array Value) (t : Tup) (a b : Int) : (lookC cs t a).setIfInBounds 36 (.int .i64 b) = lookC cs t b := by
  unfold lookC; simp
theorem chg_size {ps : Array Value} (h : ps.size = 36) (k : Int) (bk : Bool) (o r : Tup) : (chgC ps k bk o r).size = 36 := by
  unfold chgC; split <;> split <;> simp [h]
theorem chg_one {ps : Array Value} (h : ps.all (·.oneCell') = true) (k : Int) (bk : Bool) (o r : Tup) : (chgC ps k bk o r).all (·.oneCell') = true := by
  unfold chgC
  split <;> split
  · exact set_one h rfl
  · exact set_one (set_one h rfl) rfl
  · exact set_one h rfl
  · exact set_one (set_one h rfl) rfl
theorem look_ps {cs ps : Array Value} (hs : cs.size = 49) (hps : cs.extract 0 (0 + 36) = ps) (t : Tup) (a : Int) : (lookC cs t a).extract 0 (0 + 36) = ps := by
  rw [← hps]
  have hl : (lookC cs t a).size = 49 := look_size hs t a
  apply Array.ext
  · simp [hl, hs]
  · intro i h1 h2
    simp [hl] at h1
    rw [Array.getElem_extract, Array.getElem_extract]
    apply Option.some.inj
    rw [← Array.getElem?_eq_getElem, ← Array.getElem?_eq_getElem]
    unfold lookC
    rw [Array.getElem?_setIfInBounds_ne (by omega), putC_get _ _ _ _ (by simp [tupC, hs]), if_pos (by omega)]
theorem changed_any {ps : Array Value} {fr pr src dst k ty co re sp dp : Int} (hp : Pk ps true fr pr src dst k ty co re sp dp) (h1 : ps.all (·.oneCell') = true) (z : Int) (o r : Tup) (nat : Bool) (ex : Int) (bk : Bool) (hk : k = 1 → (if bk then o.2.2.2.2 else r.2.2.2.1) = re / 65536) (w : World) :
    Calls Try.prog 24 #[.agg ps, .agg (connC z o r nat ex), .bool bk] w fun e w' => e = .returned (.agg (chgC ps k bk o r)) ∧ Below w.heap.size w w' := by
  unfold chgC
  by_cases e : k = 1
  · subst e
    have hk' := hk rfl
    cases bk
    · have := changed_fwd_icmp ps (connC z o r nat ex) hp.size h1 hp.c20 re hp.rb hp.c23 dst hp.c18 r.2.1 rfl (by rw [← hk']; rfl) w
      exact this
    · have := changed_back_icmp ps (connC z o r nat ex) hp.size h1 hp.c20 re hp.rb hp.c23 src hp.c17 o.2.2.1 rfl (by rw [← hk']; rfl) w
      exact this
  · rw [if_neg e, if_neg e]
    cases bk
    · exact changed_fwd_l4 ps (connC z o r nat ex) hp.size h1 k e hp.c20 dst hp.c18 dp hp.c25 r.2.1 r.2.2.2.1 rfl rfl w
    · exact changed_back_l4 ps (connC z o r nat ex) hp.size h1 k e hp.c20 src hp.c17 sp hp.c24 o.2.2.1 o.2.2.2.2 rfl rfl w
theorem ent_conn (z : Int) (o r : Tup) (nat : Bool) (ex pl : Int) : (entC z o r nat ex pl).extract 0 (0 + 13) = connC z o r nat ex := by kernel_rfl
theorem look_36 {cs : Array Value} (hs : cs.size = 49) (t : Tup) (a : Int) : (lookC cs t a)[36]? = some (.int .i64 a) := by
  unfold lookC
  rw [Array.getElem?_setIfInBounds_self_of_lt (by rw [putC_size, hs]; decide)]
theorem HasC.from {w w4 w' : World} {B tb zb c : Nat} {room clock z : Int} {o r : Tup} {nat : Bool} {ex ex' : Int} {qg qc : Nat} {cur : Array Value} {eb g1 g2 : Nat} (h0 : HasC w B tb zb c room clock z o r nat ex qg qc cur eb g1 g2) (h : HasC w4 B tb zb c room clock z o r nat ex' qg qc cur eb g1 g2) (ho : ∀ g, g < w.heap.size → w'.heap[g]? = w4.heap[g]?) : HasC w' B tb zb c room clock z o r nat ex' qg qc cur eb g1 g2 :=
  ⟨h.bt, h.bz, h.be, h.b1, h.b2, h.bq, h.n12, (ho _ (lt_of_heap h0.t)).trans h.t, (ho _ (lt_of_heap h0.zm)).trans h.zm, (ho _ (lt_of_heap h0.m1)).trans h.m1, (ho _ (lt_of_heap h0.m2)).trans h.m2, (ho _ (lt_of_heap h0.en)).trans h.en, (ho _ (lt_of_heap h0.q)).trans h.q, h.qs, h.q1, h.q2, h.q0⟩
theorem wp_store_at {op : Oper} {a : Act} {w : World} {K : Act → World → Prop} {Q : Exit → Act → World → Prop} (ty : TypeId) (x y : Operand) (ho : op.op = .store ty x y)
    (g o : Nat) (old c' : Array Value) (t : TypeId) (hx : a.eval x = .pointer (some ⟨g, o, none⟩)) (hy : a.eval y = .agg c') (hg : w.heap[g]? = some (.cells old t (0, 0)))
    (hi : (Try.prog.info? ty).map (·.size) = some c'.size) (hs : o + c'.size ≤ old.size) (h1 : c'.all (·.oneCell') = true)
    (h : ∀ w', w'.heap[g]? = some (.cells (putC old o c'.toList) t (0, 0)) → (∀ k, k ≠ g → w'.heap[k]? = w.heap[k]?) → w'.heap.size = w.heap.size → Below g w w' → K (a.put op.dst undef) w') : op.wp Try.prog a w K Q := by
  obtain ⟨e1, e2, e3⟩ := heap_setCells c'.toList w g o
  exact wp_store_mid ty x y ho g o c' hx hy (there_row hg o _ hs) hi h1 (h _ (row_setCells _ hg o) e2 e1 e3)
theorem putC_one9 {cs ps : Array Value} (h : cs.all (·.oneCell') = true) (h1 : ps.all (·.oneCell') = true) (o : Nat) : (putC cs o ps.toList).all (·.oneCell') = true := putC_one _ _ _ h (by simpa using h1)
structure Good (w W4 V : World) (B : Nat) (L : Array Value) : Prop where
  row : V.heap[w.heap.size]? = some (.cells L 46 (0, 0))
  zero : V.heap[w.heap.size + 1]? = some (.cells zeroC 46 (0, 0))
  old : ∀ g, g < w.heap.size → V.heap[g]? = W4.heap[g]?
  bel : Below B w V
theorem Good.set {w W4 V : World} {B : Nat} {cs : Array Value} {t : Tup} {u : Int} (h : Good w W4 V B (lookC cs t u)) (hB : B ≤ w.heap.size) (v : Int) : Good w W4 (V.setCell ⟨w.heap.size, 36, none⟩ (.int .i64 v)) B (lookC cs t v) :=
  ⟨(row_setCell h.row 36 _).trans (by rw [look_set]), (Below.heap_setCell _ _ _ _ (show w.heap.size + 1 ≠ w.heap.size by omega)).trans h.zero, fun g hg => (Below.heap_setCell _ _ _ _ (show g ≠ w.heap.size by omega)).trans (h.old g hg), h.bel.setCell hB _⟩
theorem wp_load_as {op : Oper} {a : Act} {w : World} {K : Act → World → Prop} {Q : Exit → Act → World → Prop} (ty : TypeId) (x : Operand) (ho : op.op = .load ty x)
    (g o n : Nat) (hx : a.eval x = .pointer (some ⟨g, o, none⟩)) (cs L : Array Value) (t : TypeId) (d : TypeDesc) (hg : w.heap[g]? = some (.cells cs t (0, 0)))
    (hu : Try.prog.underlying ty = some d) (hd : d.isRow = true) (hL : cs.extract o (o + n) = L) (hn : L.size = n) (hi : (Try.prog.info? ty).map (·.size) = some n)
    (h : K (a.put op.dst (.agg L)) w) : op.wp Try.prog a w K Q := by
  have hr := World.rangeAt_of_block hg o n
  rw [hL] at hr
  refine wp_load_mid ty x ho g o hx L.toList d hr hu hd (by rw [Array.length_toList, hn]; exact hi) ?_
  rw [Array.toArray_toList]
  exact h
set_option linter.unusedSimpArgs false in
set_option maxRecDepth 20000 in
set_option maxHeartbeats 8000000 in
theorem look_found (bk : Bool) {w : World} {B tb zb c : Nat} {room clock z : Int} {o r : Tup} {nat : Bool} {ex : Int} {qg qc : Nat} {cur : Array Value} {eb g1 g2 : Nat} (h : HasC w B tb zb c room clock z o r nat ex qg qc cur eb g1 g2) (hB : B ≤ w.heap.size) (hc : 0 ≤ clock ∧ clock ≤ 4611686018427387904) (hz0 : 0 ≤ z) (hz1 : z ≤ 65535)
    (cs ps : Array Value) (hst : St cs) (hps : cs.extract 0 (0 + 36) = ps) {fr pr src dst k ty co re sp dp : Int} (hp : Pk ps true fr pr src dst k ty co re sp dp) (hT : hasT true fr k ty co = true)
    (t : Tup) (ht : (pr, src, dst, portT k re sp, portT k re dp) = t) (hU : if bk then t ≠ o ∧ t = r else t = o) (hk : nat = true → k = 1 → (if bk then o.2.2.2.2 else r.2.2.2.1) = re / 65536) :
    Calls Try.prog 8 #[.pointer (some ⟨tb, 0, none⟩), .int .i64 z, .agg cs] w fun e w' => e = .returned (.tuple #[.agg (foundC cs ps t k bk nat o r), .int .i64 0]) ∧ HasC w' B tb zb c room clock z o r nat (clock + 30) qg qc cur eb g1 g2 ∧ Below B w w' ∧ (∀ g, g < w.heap.size → g ≠ eb → w'.heap[g]? = w.heap[g]?) := by
  have HOF : Hid (∀ W, Calls Try.prog 20 #[.agg ps] W fun e w' => e = .returned (.tuple #[.agg (tupC pr src dst (portT k re sp) (portT k re dp)), .bool true]) ∧ Below W.heap.size W w') := by
    show ∀ W, _
    intro W; exact of_yes hp hT W
  have hpo : ps.all (·.oneCell') = true := by rw [← hps]; exact extract_one hst.one _ _
  have HCH : Hid (∀ W ex', nat = true → Calls Try.prog 24 #[.agg ps, .agg (connC z o r nat ex'), .bool bk] W fun e w' => e = .returned (.agg (chgC ps k bk o r)) ∧ Below W.heap.size W w') := by
    show ∀ W ex', _
    intro W ex' hn; exact changed_any hp hpo z o r nat ex' bk (hk hn) W
  have HCS : Hid _ := chg_size hp.size k bk o r
  have HCO : Hid _ := chg_one hpo k bk o r
  have HLP : Hid (∀ a, (lookC cs t a).extract 0 (0 + 36) = ps) := fun a => look_ps hst.size hps t a
  obtain ⟨PC, hPC⟩ : ∃ PC, chgC ps k bk o r = PC := ⟨_, rfl⟩
  unfold foundC
  rw [hPC] at HCH HCS HCO ⊢
  obtain ⟨s9, hs9⟩ : ∃ s9, portT k re sp = s9 := ⟨_, rfl⟩
  obtain ⟨d9, hd9⟩ : ∃ d9, portT k re dp = d9 := ⟨_, rfl⟩
  rw [hs9, hd9] at HOF ht
  subst ht
  have HF : Hid (∀ W, Below w.heap.size w W → Calls Try.prog 21 #[.agg #[.map (some g1), .map (some g2)], tv (pr, src, dst, s9, d9)] W fun e w' => e = .returned (.tuple #[.pointer (some ⟨eb, 0, none⟩), .bool bk]) ∧ Below W.heap.size W w') := by
    show ∀ W, _
    intro W hW
    have hl1 : ∀ W', Below W.heap.size W W' → (Instr.lookup 58 (.map (some g1)) (tv (pr, src, dst, s9, d9)) false).run Try.prog W' = .ok (.pointer (if (pr, src, dst, s9, d9) = o then some ⟨eb, 0, none⟩ else none)) W' := fun W' hW' => look_tup ((h.below (hW.trans (hW'.mono hW.size))).m1)
    have hl2 : ∀ W', Below W.heap.size W W' → (Instr.lookup 58 (.map (some g2)) (tv (pr, src, dst, s9, d9)) false).run Try.prog W' = .ok (.pointer (if (pr, src, dst, s9, d9) = r then some ⟨eb, 0, none⟩ else none)) W' := fun W' hW' => look_tup ((h.below (hW.trans (hW'.mono hW.size))).m2)
    have hf := find_any (some g1) (some g2) (pr, src, dst, s9, d9) _ _ W hl1 hl2
    cases bk
    · have hU' : (pr, src, dst, s9, d9) = o := hU
      rw [if_pos hU'] at hf
      exact hf
    · obtain ⟨u1, u2⟩ := hU
      rw [if_neg u1, if_pos u2] at hf
      exact hf
  obtain ⟨tc, htc⟩ : ∃ tc, tupC pr src dst s9 d9 = tc := ⟨_, rfl⟩
  rw [htc] at HOF
  have htz : tc.size = 5 := by rw [← htc]; rfl
  have hto : tc.all (·.oneCell') = true := by rw [← htc]; exact tup_one _ _ _ _ _
  have HTE : Hid _ := htc
  have HTZ : Hid _ := htz
  have HTO : Hid _ := hto
  have HIT : Hid _ := (show (Try.prog.info? 44).map (·.size) = some tc.size by rw [htz]; exact size5)
  have HST : Hid _ := hst
  have HPS : Hid _ := hps
  have HP36 : Hid _ := hp.size
  have HH : Hid _ := h
  have HTB : Hid _ := h.t
  have HC : Hid _ := hc
  have hz9 : zoneE z = 0 := by unfold zoneE; rw [if_neg (by omega), if_neg (by omega)]
  have HZE : Hid _ := hz9
  have hlt : tb < w.heap.size := lt_of_heap h.t
  have hle : eb < w.heap.size := lt_of_heap h.en
  have HS2 : Hid _ := two_first w (.cells cs 46) (.cells zeroC 46)
  have HZ2 : Hid _ := two_last w (.cells cs 46) (.cells zeroC 46)
  have HLS : Hid (∀ a, (lookC cs (pr, src, dst, s9, d9) a).size = 49) := fun a => look_size hst.size (pr, src, dst, s9, d9) a
  have HLO : Hid (∀ a, (lookC cs (pr, src, dst, s9, d9) a).all (·.oneCell') = true) := fun a => look_one hst.one (pr, src, dst, s9, d9) a
  obtain ⟨x36, h36, _, _⟩ := hst.i64 36 (by decide)
  have H36 : Hid _ := h36
  clear htc htz hto hst hps hp hT hU h hz9 hs9 hd9 h36 hPC hpo hk hc
  go_enter Try.func8, Try.ntmps8
  go_wp2_with fail
  refine (check_any tb zb room clock z _ _ ((below2 w _ _).block _ hlt |>.trans HTB.out)).mono ?_
  rw [HZE.out]
  rintro e W0 ⟨rfl, hw0⟩
  rw [hw0]
  clear hw0
  go_wp2_with (first
    | refine wpList_load_as rfl 41 _ rfl w.heap.size 0 36 rfl cs ps 46 _ HS2.out Try.underlying41 rfl HPS.out HP36.out size36 ?_
    | fail)
  refine (HOF.out _).mono ?_
  rintro e W1 ⟨rfl, hb1⟩
  have HS1 : Hid (W1.heap[w.heap.size]? = some (.cells cs 46 (0, 0))) := (hb1.block _ (by simp; omega)).trans HS2.out
  have HZ1 : Hid (W1.heap[w.heap.size + 1]? = some (.cells zeroC 46 (0, 0))) := (hb1.block _ (by simp)).trans HZ2.out
  have hlt1 : w.heap.size + 1 < W1.heap.size := lt_of_heap HZ1.out
  have HB1 : Hid (Below w.heap.size w W1) := (below2 w _ _).trans (hb1.mono (by simp; omega))
  have HN1 : Hid _ := heap_alloc_new W1 (.cells tc 44)
  have HS1a : Hid _ := (heap_alloc_old W1 (.cells tc 44) (by omega)).trans HS1.out
  have hin : 44 + tc.size ≤ cs.size := by rw [HTZ.out, HST.out.size]; decide
  have HIN : Hid _ := hin
  clear hb1 hin
  go_wp2_with (first
    | refine wpList_store_new rfl 44 _ _ rfl _ tc W1.heap.size rfl rfl rfl HIT.out (Eq.trans (b := 5) rfl HTZ.out.symm) HTO.out ?_
    | refine wpList_load_row rfl 44 _ rfl W1.heap.size rfl 44 tc (0, 0) _ HN1.out Try.underlying44 rfl HIT.out ?_
    | refine wpList_store_at rfl 44 _ _ rfl w.heap.size 44 cs tc 46 rfl rfl HS1a.out HIT.out HIN.out HTO.out ?_
    | fail)
  intro W2 z1 z2 z3 z4
  have c36 : W2.cell? ⟨w.heap.size, 36, none⟩ = some (.int .i64 x36) := by
    rw [cell_row z1 36, putC_get _ _ _ _ (by rw [Array.length_toList]; exact HIN.out), if_pos (by decide)]; exact H36.out
  have f36 := frozen_of_row W2 _ 36 _ _ z1
  have HT2 : Hid (W2.heap[W1.heap.size]? = some (.cells tc 44 (0, 0))) := (z2 _ (by omega)).trans HN1.out
  have HZ2' : Hid (W2.heap[w.heap.size + 1]? = some (.cells zeroC 46 (0, 0))) := (z2 _ (by omega)).trans ((heap_alloc_old _ _ hlt1).trans HZ1.out)
  have HB2 : Hid (Below w.heap.size w W2) := (HB1.out.trans ((below1 W1 _).mono HB1.out.size)).trans z4
  have HR2 : Hid _ := z1
  clear z1 z2 z3 z4 HS1a
  go_wp2_with fail
  have hlc : (putC cs 44 tc.toList).setIfInBounds 36 (.int .i64 1) = lookC cs (pr, src, dst, s9, d9) 1 := by rw [← HTE.out]; rfl
  have key : ∀ W, Below W2.heap.size (W2.setCell ⟨w.heap.size, 36, none⟩ (.int .i64 1)) W → W.cell? ⟨tb, 2, none⟩ = some (.map (some zb)) ∧ W.heap[w.heap.size]? = some (.cells (lookC cs (pr, src, dst, s9, d9) 1) 46 (0, 0)) ∧ W.heap[w.heap.size + 1]? = some (.cells zeroC 46 (0, 0)) ∧ W.heap[W1.heap.size]? = some (.cells tc 44 (0, 0)) ∧ Below w.heap.size w W := fun W hb => by
    have hl2 : W1.heap.size < W2.heap.size := lt_of_heap HT2.out
    have hbw : Below w.heap.size w W := (HB2.out.setCell (Nat.le_refl _) _).trans (hb.mono (by omega))
    have oth : ∀ g, g ≠ w.heap.size → g < W2.heap.size → W.heap[g]? = W2.heap[g]? := fun g hg hg2 => (hb.block _ hg2).trans (Below.heap_setCell _ _ _ _ hg)
    refine ⟨(cell_row ((hbw.block _ hlt).trans HTB.out) 2), ?_, (oth _ (by omega) (by omega)).trans HZ2'.out, (oth _ (by omega) hl2).trans HT2.out, hbw⟩
    rw [← hlc]
    exact (hb.block _ (by omega)).trans (row_setCell HR2.out 36 _)
  have KC : Hid _ := key
  have esz : (W2.setCell ⟨w.heap.size, 36, none⟩ (.int .i64 1)).heap.size = W2.heap.size := by simp [World.setCell]
  clear key hlc c36 f36 HR2 HZ2' HT2
  refine wp_region_held_drew (S := (fun W => W.cell? ⟨tb, 2, none⟩ = some (.map (some zb)) ∧ W.heap[w.heap.size]? = some (.cells (lookC cs (pr, src, dst, s9, d9) 1) 46 (0, 0)) ∧ W.heap[w.heap.size + 1]? = some (.cells zeroC 46 (0, 0)) ∧ W.heap[W1.heap.size]? = some (.cells tc 44 (0, 0)) ∧ Below w.heap.size w W)) (by kernel_rfl) ?_ (fun hHeld => ?_)
  · exact KC.out _ (Below.refl _ _).drew
  refine wpAnyH_take (i := 0) (v := ?_) rfl (by kernel_rfl) (by kernel_rfl) (by kernel_rfl) (fun _ _ _ h => h) (Or.inl ⟨by rfl, ?_⟩) (by assumption) ?_
  rotate_left
  · (intro w hSw; (try dsimp only at hSw); go_simp; try with_reducible rfl)
  try simp only [List.getElem_toArray, List.getElem_cons_zero, List.getElem_cons_succ, Act.put, List.setIfInBounds_toArray, List.set_cons_zero, List.set_cons_succ]
  refine wpAnyH_take (i := 1) (v := ?_) rfl (by kernel_rfl) (by kernel_rfl) (by kernel_rfl) (fun _ _ _ h => h) (Or.inl ⟨by rfl, ?_⟩) (by assumption) ?_
  rotate_left
  · (intro w hSw; (try dsimp only at hSw); go_simp; try with_reducible rfl)
  try simp only [List.getElem_toArray, List.getElem_cons_zero, List.getElem_cons_succ, Act.put, List.setIfInBounds_toArray, List.set_cons_zero, List.set_cons_succ]
  refine wpAnyH_take (i := 2) (v := ?_) rfl (by kernel_rfl) (by kernel_rfl) (by kernel_rfl) (fun _ _ _ h => h) (Or.inl ⟨by rfl, ?_⟩) (by assumption) ?_
  rotate_left
  · (intro w hSw; (try dsimp only at hSw); go_simp; try with_reducible rfl)
  try simp only [List.getElem_toArray, List.getElem_cons_zero, List.getElem_cons_succ, Act.put, List.setIfInBounds_toArray, List.set_cons_zero, List.set_cons_succ]
  refine wpAnyH_take (i := 3) (v := ?_) rfl (by kernel_rfl) (by kernel_rfl) (by kernel_rfl) (fun _ _ _ h => h) (Or.inl ⟨by rfl, ?_⟩) (by assumption) ?_
  rotate_left
  · (intro w hSw; (try dsimp only at hSw); go_simp; try with_reducible rfl)
  try simp only [List.getElem_toArray, List.getElem_cons_zero, List.getElem_cons_succ, Act.put, List.setIfInBounds_toArray, List.set_cons_zero, List.set_cons_succ]
  refine wpAnyH_take (i := 4) (v := ?_) rfl (by kernel_rfl) (by kernel_rfl) (by kernel_rfl) (fun _ _ _ h => h) (Or.inl ⟨by rfl, ?_⟩) (by assumption) ?_
  rotate_left
  · (intro w hSw; (try dsimp only at hSw); go_simp; try with_reducible rfl)
  try simp only [List.getElem_toArray, List.getElem_cons_zero, List.getElem_cons_succ, Act.put, List.setIfInBounds_toArray, List.set_cons_zero, List.set_cons_succ]
  refine wpAnyH_take (i := 5) (v := .agg #[.map (some g1), .map (some g2)]) rfl (by kernel_rfl) (by kernel_rfl) (by kernel_rfl) (fun _ _ _ h => h) (yields_lookup (by rfl) 61 _ _ rfl (.map (some zb)) (iv z) _ rfl rfl (fun W h => look_zone (HH.out.below h.2.2.2.2).zm)) (by assumption) ?_
  try simp only [List.getElem_toArray, List.getElem_cons_zero, List.getElem_cons_succ, Act.put, List.setIfInBounds_toArray, List.set_cons_zero, List.set_cons_succ]
  refine wpAnyH_take (i := 6) (v := .agg tc) rfl (by kernel_rfl) (by kernel_rfl) (by kernel_rfl) (fun _ _ _ h => h) (yields_loadR (by rfl) 44 _ rfl W1.heap.size rfl 44 tc _ (fun _ h => h.2.2.2.1) Try.underlying44 rfl HIT.out) (by assumption) ?_
  try simp only [List.getElem_toArray, List.getElem_cons_zero, List.getElem_cons_succ, Act.put, List.setIfInBounds_toArray, List.set_cons_zero, List.set_cons_succ]
  refine wpAnyH_ready (rs := [7]) (by kernel_rfl) (by simp) ?_
  refine AllReadyH.cons (o := _) rfl (fun K hK => ?_) AllReadyH.nil
  go_simp
  rw [← HTE.out]
  have hbd : Below w.heap.size w (W2.setCell ⟨w.heap.size, 36, none⟩ (.int .i64 1)).drew := (KC.out _ (Below.refl _ _).drew).2.2.2.2
  refine (HF.out _ hbd).mono ?_
  rintro e W3 ⟨rfl, hb3⟩
  go_wp2_with fail
  have k3 := KC.out W3 (((Below.refl _ _).drew).trans (hb3.mono (by rw [show (W2.setCell ⟨w.heap.size, 36, none⟩ (.int .i64 1)).drew.heap.size = W2.heap.size from esz]; exact Nat.le_refl _)))
  refine hK.out _ _ k3 (fun hHeld2 => ?_)
  clear hK K hHeld hb3 hbd
  have hHeld := hHeld2
  clear hHeld2
  try simp only [List.getElem_toArray, List.getElem_cons_zero, List.getElem_cons_succ, Act.put, List.setIfInBounds_toArray, List.set_cons_zero, List.set_cons_succ]
  refine wpAnyH_take (i := 8) (v := ?_) rfl (by kernel_rfl) (by kernel_rfl) (by kernel_rfl) (fun _ _ _ h => h) (Or.inl ⟨by rfl, ?_⟩) (by assumption) ?_
  rotate_left
  · (intro w hSw; (try dsimp only at hSw); go_simp; try with_reducible rfl)
  try simp only [List.getElem_toArray, List.getElem_cons_zero, List.getElem_cons_succ, Act.put, List.setIfInBounds_toArray, List.set_cons_zero, List.set_cons_succ]
  refine wpAnyH_take (i := 9) (v := ?_) rfl (by kernel_rfl) (by kernel_rfl) (by kernel_rfl) (fun _ _ _ h => h) (Or.inl ⟨by rfl, ?_⟩) (by assumption) ?_
  rotate_left
  · (intro w hSw; (try dsimp only at hSw); go_simp; try with_reducible rfl)
  try simp only [List.getElem_toArray, List.getElem_cons_zero, List.getElem_cons_succ, Act.put, List.setIfInBounds_toArray, List.set_cons_zero, List.set_cons_succ]
  refine wpAnyH_take (i := 10) (v := ?_) rfl (by kernel_rfl) (by kernel_rfl) (by kernel_rfl) (fun _ _ _ h => h) (Or.inl ⟨by rfl, ?_⟩) (by assumption) ?_
  rotate_left
  · (intro w hSw; (try dsimp only at hSw); go_simp; try with_reducible rfl)
  try simp only [List.getElem_toArray, List.getElem_cons_zero, List.getElem_cons_succ, Act.put, List.setIfInBounds_toArray, List.set_cons_zero, List.set_cons_succ]
  refine wpAnyH_take (i := 11) (v := ?_) rfl (by kernel_rfl) (by kernel_rfl) (by kernel_rfl) (fun _ _ _ h => h) (Or.inl ⟨by rfl, ?_⟩) (by assumption) ?_
  rotate_left
  · (intro w hSw; (try dsimp only at hSw); go_simp; try with_reducible rfl)
  try simp only [List.getElem_toArray, List.getElem_cons_zero, List.getElem_cons_succ, Act.put, List.setIfInBounds_toArray, List.set_cons_zero, List.set_cons_succ]
  refine wpAnyH_take (i := 12) (v := ?_) rfl (by kernel_rfl) (by kernel_rfl) (by kernel_rfl) (fun _ _ _ h => h) (Or.inl ⟨by rfl, ?_⟩) (by assumption) ?_
  rotate_left
  · (intro w hSw; (try dsimp only at hSw); go_simp; try with_reducible rfl)
  try simp only [List.getElem_toArray, List.getElem_cons_zero, List.getElem_cons_succ, Act.put, List.setIfInBounds_toArray, List.set_cons_zero, List.set_cons_succ]
  refine wpAnyH_done (by kernel_rfl) ?_ _
  have Q0 : Hid _ := k3.2.1
  have Q1 : Hid _ := k3.2.2.1
  have QB : Hid _ := k3.2.2.2.2
  clear k3 KC hHeld
  have hne := eql_pent
  go_wp2_with fail
  have H3 : Hid _ := HH.out.below (QB.out.drew)
  refine wp_region_held_drew (S := (fun _ => True)) (by kernel_rfl) trivial (fun hHeld => ?_)
  refine wpAnyH_take (i := 0) (v := ?_) rfl (by kernel_rfl) (by kernel_rfl) (by kernel_rfl) (fun _ _ _ h => h) (Or.inl ⟨by rfl, ?_⟩) (by assumption) ?_
  rotate_left
  · (intro w hSw; (try dsimp only at hSw); go_simp; try with_reducible rfl)
  try simp only [List.getElem_toArray, List.getElem_cons_zero, List.getElem_cons_succ, Act.put, List.setIfInBounds_toArray, List.set_cons_zero, List.set_cons_succ]
  refine wpAnyH_take (i := 1) (v := ?_) rfl (by kernel_rfl) (by kernel_rfl) (by kernel_rfl) (fun _ _ _ h => h) (Or.inl ⟨by rfl, ?_⟩) (by assumption) ?_
  rotate_left
  · (intro w hSw; (try dsimp only at hSw); go_simp; try with_reducible rfl)
  try simp only [List.getElem_toArray, List.getElem_cons_zero, List.getElem_cons_succ, Act.put, List.setIfInBounds_toArray, List.set_cons_zero, List.set_cons_succ]
  refine wpAnyH_take (i := 2) (v := ?_) rfl (by kernel_rfl) (by kernel_rfl) (by kernel_rfl) (fun _ _ _ h => h) (Or.inl ⟨by rfl, ?_⟩) (by assumption) ?_
  rotate_left
  · (intro w hSw; (try dsimp only at hSw); go_simp; try with_reducible rfl)
  try simp only [List.getElem_toArray, List.getElem_cons_zero, List.getElem_cons_succ, Act.put, List.setIfInBounds_toArray, List.set_cons_zero, List.set_cons_succ]
  refine wpAnyH_take (i := 3) (v := ?_) rfl (by kernel_rfl) (by kernel_rfl) (by kernel_rfl) (fun _ _ _ h => h) (Or.inl ⟨by rfl, ?_⟩) (by assumption) ?_
  rotate_left
  · (intro w hSw; (try dsimp only at hSw); go_simp; try with_reducible rfl)
  try simp only [List.getElem_toArray, List.getElem_cons_zero, List.getElem_cons_succ, Act.put, List.setIfInBounds_toArray, List.set_cons_zero, List.set_cons_succ]
  refine wpAnyH_take (i := 4) (v := ?_) rfl (by kernel_rfl) (by kernel_rfl) (by kernel_rfl) (fun _ _ _ h => h) (Or.inl ⟨by rfl, ?_⟩) (by assumption) ?_
  rotate_left
  · (intro w hSw; (try dsimp only at hSw); go_simp; try with_reducible rfl)
  try simp only [List.getElem_toArray, List.getElem_cons_zero, List.getElem_cons_succ, Act.put, List.setIfInBounds_toArray, List.set_cons_zero, List.set_cons_succ]
  refine wpAnyH_ready (rs := [5]) (by kernel_rfl) (by simp) ?_
  refine AllReadyH.cons (o := _) rfl (fun K hK => ?_) AllReadyH.nil
  go_simp
  refine (nextEnd_any tb zb room clock HC.out _ _ H3.out.t).mono ?_
  rintro e W4 ⟨rfl, hw4⟩
  rw [hw4]
  clear hw4
  go_wp2_with fail
  refine hK.out _ _ trivial (fun hHeld2 => ?_)
  clear hK K hHeld
  have hHeld := hHeld2
  clear hHeld2
  try simp only [List.getElem_toArray, List.getElem_cons_zero, List.getElem_cons_succ, Act.put, List.setIfInBounds_toArray, List.set_cons_zero, List.set_cons_succ]
  refine wpAnyH_ready (rs := [6]) (by kernel_rfl) (by simp) ?_
  refine AllReadyH.cons (o := _) rfl (fun K hK => ?_) AllReadyH.nil
  go_simp
  refine (qput_one (clock + 30) H3.out).mono ?_
  rintro e W4 ⟨rfl, hw4⟩
  have q40 : W4.heap[w.heap.size]? = some (.cells (lookC cs (pr, src, dst, s9, d9) 1) 46 (0, 0)) := by rw [hw4]; exact (Below.heap_setCell _ _ _ _ (show w.heap.size ≠ eb by omega)).trans Q0.out
  have q41 : W4.heap[w.heap.size + 1]? = some (.cells zeroC 46 (0, 0)) := by rw [hw4]; exact (Below.heap_setCell _ _ _ _ (show w.heap.size + 1 ≠ eb by omega)).trans Q1.out
  have qb4 : Below B w W4 := by rw [hw4]; exact (QB.out.drew.mono hB).setCell HH.out.be _
  have h4 : HasC W4 B tb zb c room clock z o r nat (clock + 30) qg qc cur eb g1 g2 := by rw [hw4]; exact H3.out.end _
  have o4 : ∀ g, g < w.heap.size → g ≠ eb → W4.heap[g]? = w.heap[g]? := fun g hg ge => by rw [hw4]; exact (Below.heap_setCell _ _ _ _ ge).trans (QB.out.drew.block _ hg)
  have O4 : Hid _ := o4
  clear hw4 H3 Q0 Q1 QB o4
  have Q40 : Hid _ := q40
  have Q41 : Hid _ := q41
  have QB4 : Hid _ := qb4
  have H4 : Hid _ := h4
  go_wp2_with fail
  refine hK.out _ _ trivial (fun hHeld2 => ?_)
  clear hK K hHeld hHeld2
  try simp only [List.getElem_toArray, List.getElem_cons_zero, List.getElem_cons_succ, Act.put, List.setIfInBounds_toArray, List.set_cons_zero, List.set_cons_succ]
  refine wpAnyH_done (by kernel_rfl) ?_ _
  have c36 : W4.cell? ⟨w.heap.size, 36, none⟩ = some (.int .i64 1) := (cell_row q40 36).trans (look_36 HST.out.size _ _)
  have f36 := frozen_of_row W4 _ 36 _ _ q40
  have c11 : W4.cell? ⟨eb, 11, none⟩ = some (.bool nat) := cell_row h4.en 11
  have hne1 : eb ≠ w.heap.size := by omega
  have hne2 : w.heap.size ≠ eb := by omega
  have b24 : bits BinOp.or IntKind.i64 2 4 = 6 := by decide +kernel
  have b28 : bits BinOp.or IntKind.i64 2 8 = 10 := by decide +kernel
  have b68 : bits BinOp.or IntKind.i64 6 8 = 14 := by decide +kernel
  have g0 : Good w W4 W4 B (lookC cs (pr, src, dst, s9, d9) 1) := ⟨Q40.out, Q41.out, fun _ _ => rfl, QB4.out⟩
  have G1 : Hid (∀ v, Good w W4 (W4.setCell ⟨w.heap.size, 36, none⟩ (.int .i64 v)) B (lookC cs (pr, src, dst, s9, d9) v)) := fun v => g0.set hB v
  have G2 : Hid (∀ u v, Good w W4 ((W4.setCell ⟨w.heap.size, 36, none⟩ (.int .i64 u)).setCell ⟨w.heap.size, 36, none⟩ (.int .i64 v)) B (lookC cs (pr, src, dst, s9, d9) v)) := fun u v => (G1.out u).set hB v
  have G3 : Hid (∀ u x v, Good w W4 (((W4.setCell ⟨w.heap.size, 36, none⟩ (.int .i64 u)).setCell ⟨w.heap.size, 36, none⟩ (.int .i64 x)).setCell ⟨w.heap.size, 36, none⟩ (.int .i64 v)) B (lookC cs (pr, src, dst, s9, d9) v)) := fun u x v => (G2.out u x).set hB v
  clear q40 q41 qb4 h4 g0
  cases nat
  · clear HCH HCS HCO HLP
    cases bk
    · go_wp2_with (first
        | refine wpList_load_row rfl 46 _ rfl w.heap.size rfl 46 (lookC cs (pr, src, dst, s9, d9) 2) (0, 0) _ ((G1.out 2).row) Try.underlying46 rfl (info_size (HLS.out _)) ?_
        | refine wpList_store_row rfl 46 _ _ rfl (w.heap.size + 1) zeroC (lookC cs (pr, src, dst, s9, d9) 2) 46 rfl rfl ((G1.out 2).zero) (info_size (HLS.out _)) (Eq.trans (b := 49) rfl (HLS.out _).symm) (HLO.out _) ?_
        | fail)
      intro W8 y1 y2 y3 y4
      have H8 : Hid _ := HH.out.from H4.out (fun g hg => (y2 g (by omega)).trans ((G1.out 2).old g hg))
      have B8 : Hid (Below B w W8) := Below.trans ((G1.out 2).bel) (y4.mono (by omega))
      go_wp2
      exact bodyPost_ret (results_state (p := 6) (u := 7) rfl _ _ (w.heap.size + 1) _ rfl y1 (HLS.out _)) rfl ⟨rfl, H8.out, B8.out, fun g hg ge => ((y2 g (by omega)).trans ((G1.out 2).old g hg)).trans (O4.out g hg ge)⟩
    · go_wp2_with (first
        | refine wpList_load_row rfl 46 _ rfl w.heap.size rfl 46 (lookC cs (pr, src, dst, s9, d9) 6) (0, 0) _ ((G2.out 2 6).row) Try.underlying46 rfl (info_size (HLS.out _)) ?_
        | refine wpList_store_row rfl 46 _ _ rfl (w.heap.size + 1) zeroC (lookC cs (pr, src, dst, s9, d9) 6) 46 rfl rfl ((G2.out 2 6).zero) (info_size (HLS.out _)) (Eq.trans (b := 49) rfl (HLS.out _).symm) (HLO.out _) ?_
        | fail)
      intro W8 y1 y2 y3 y4
      have H8 : Hid _ := HH.out.from H4.out (fun g hg => (y2 g (by omega)).trans ((G2.out 2 6).old g hg))
      have B8 : Hid (Below B w W8) := Below.trans ((G2.out 2 6).bel) (y4.mono (by omega))
      go_wp2
      exact bodyPost_ret (results_state (p := 6) (u := 7) rfl _ _ (w.heap.size + 1) _ rfl y1 (HLS.out _)) rfl ⟨rfl, H8.out, B8.out, fun g hg ge => ((y2 g (by omega)).trans ((G2.out 2 6).old g hg)).trans (O4.out g hg ge)⟩
  · cases bk
    · have G := G2.out 2 10
      have e4 : W4.heap[eb]? = some (.cells (entC z o r true (clock + 30) 0) 68 (0, 0)) := H4.out.en
      obtain ⟨en, hen⟩ : ∃ en, entC z o r true (clock + 30) 0 = en := ⟨_, rfl⟩
      obtain ⟨cn, hcn⟩ : ∃ cn, connC z o r true (clock + 30) = cn := ⟨_, rfl⟩
      have hec : en.extract 0 (0 + 13) = cn := by rw [← hen, ← hcn]; exact ent_conn _ _ _ _ _ _
      have HC1 : Hid (∀ W, Calls Try.prog 24 #[.agg ps, .agg cn, .bool false] W fun e w' => e = .returned (.agg PC) ∧ Below W.heap.size W w') := by
        show ∀ W, _
        intro W; rw [← hcn]; exact HCH.out W _ rfl
      have hcz : cn.size = 13 := by rw [← hcn]; rfl
      rw [hen] at e4
      obtain ⟨L, hL⟩ : ∃ L, lookC cs (pr, src, dst, s9, d9) 10 = L := ⟨_, rfl⟩
      have hLP : L.extract 0 (0 + 36) = ps := by rw [← hL]; exact HLP.out _
      have hLS : L.size = 49 := by rw [← hL]; exact HLS.out _
      have hLO : L.all (·.oneCell') = true := by rw [← hL]; exact HLO.out _
      rw [hL] at G
      have HG : Hid _ := G
      have E4 : Hid _ := e4
      have HEC : Hid _ := hec
      have HCZ : Hid _ := hcz
      have HLP' : Hid _ := hLP
      have HLS' : Hid _ := hLS
      have HLO' : Hid _ := hLO
      have HL : Hid _ := hL
      have hin : 0 + PC.size ≤ L.size := by rw [HCS.out, hLS]; decide
      have HIN9 : Hid _ := hin
      clear G e4 hen hcn hec hcz hL hLP hLS hLO hin HCH
      go_wp2_with fail
      refine wp_region_held_drew (S := (fun W => W.heap[eb]? = some (.cells en 68 (0, 0)))) (by kernel_rfl) ?_ (fun hHeld => ?_)
      · exact (HG.out.old _ hle).trans E4.out
      refine wpAnyH_take (i := 0) (v := ?_) rfl (by kernel_rfl) (by kernel_rfl) (by kernel_rfl) (fun _ _ _ h => h) (Or.inl ⟨by rfl, ?_⟩) (by assumption) ?_
      rotate_left
      · (intro w hSw; (try dsimp only at hSw); go_simp; try with_reducible rfl)
      try simp only [List.getElem_toArray, List.getElem_cons_zero, List.getElem_cons_succ, Act.put, List.setIfInBounds_toArray, List.set_cons_zero, List.set_cons_succ]
      refine wpAnyH_take (i := 2) (v := ?_) rfl (by kernel_rfl) (by kernel_rfl) (by kernel_rfl) (fun _ _ _ h => h) (Or.inl ⟨by rfl, ?_⟩) (by assumption) ?_
      rotate_left
      · (intro w hSw; (try dsimp only at hSw); go_simp; try with_reducible rfl)
      try simp only [List.getElem_toArray, List.getElem_cons_zero, List.getElem_cons_succ, Act.put, List.setIfInBounds_toArray, List.set_cons_zero, List.set_cons_succ]
      refine wpAnyH_take (i := 3) (v := ?_) rfl (by kernel_rfl) (by kernel_rfl) (by kernel_rfl) (fun _ _ _ h => h) (Or.inl ⟨by rfl, ?_⟩) (by assumption) ?_
      rotate_left
      · (intro w hSw; (try dsimp only at hSw); go_simp; try with_reducible rfl)
      try simp only [List.getElem_toArray, List.getElem_cons_zero, List.getElem_cons_succ, Act.put, List.setIfInBounds_toArray, List.set_cons_zero, List.set_cons_succ]
      refine wpAnyH_take (i := 4) (v := ?_) rfl (by kernel_rfl) (by kernel_rfl) (by kernel_rfl) (fun _ _ _ h => h) (Or.inl ⟨by rfl, ?_⟩) (by assumption) ?_
      rotate_left
      · (intro w hSw; (try dsimp only at hSw); go_simp; try with_reducible rfl)
      try simp only [List.getElem_toArray, List.getElem_cons_zero, List.getElem_cons_succ, Act.put, List.setIfInBounds_toArray, List.set_cons_zero, List.set_cons_succ]
      refine wpAnyH_take (i := 5) (v := .agg cn) rfl (by kernel_rfl) (by kernel_rfl) (by kernel_rfl) (fun _ _ _ h => h) (yields_loadA (by rfl) 51 _ rfl eb 0 13 rfl 68 en _ _ (fun _ h => h) HEC.out HCZ.out Try.underlying51 rfl size13) (by assumption) ?_
      try simp only [List.getElem_toArray, List.getElem_cons_zero, List.getElem_cons_succ, Act.put, List.setIfInBounds_toArray, List.set_cons_zero, List.set_cons_succ]
      refine wpAnyH_take (i := 6) (v := ?_) rfl (by kernel_rfl) (by kernel_rfl) (by kernel_rfl) (fun _ _ _ h => h) (Or.inl ⟨by rfl, ?_⟩) (by assumption) ?_
      rotate_left
      · (intro w hSw; (try dsimp only at hSw); go_simp; try with_reducible rfl)
      try simp only [List.getElem_toArray, List.getElem_cons_zero, List.getElem_cons_succ, Act.put, List.setIfInBounds_toArray, List.set_cons_zero, List.set_cons_succ]
      refine wpAnyH_ready (rs := [1]) (by kernel_rfl) (by simp) ?_
      refine AllReadyH.cons (o := _) rfl (fun K hK => ?_) AllReadyH.nil
      refine wp_load_as 41 _ rfl w.heap.size 0 36 rfl L ps 46 _ HG.out.row Try.underlying41 rfl HLP'.out HP36.out size36 ?_
      refine hK.out _ _ hHeld (fun hHeld2 => ?_)
      clear hK K hHeld
      have hHeld := hHeld2
      clear hHeld2
      try simp only [List.getElem_toArray, List.getElem_cons_zero, List.getElem_cons_succ, Act.put, List.setIfInBounds_toArray, List.set_cons_zero, List.set_cons_succ]
      refine wpAnyH_ready (rs := [7]) (by kernel_rfl) (by simp) ?_
      refine AllReadyH.cons (o := _) rfl (fun K hK => ?_) AllReadyH.nil
      go_simp
      refine (HC1.out _).mono ?_
      rintro e W5 ⟨rfl, hb5⟩
      have hlv : w.heap.size + 1 < (World.drew (((W4).setCell ⟨w.heap.size, 36, none⟩ (.int .i64 2)).setCell ⟨w.heap.size, 36, none⟩ (.int .i64 10))).heap.size := lt_of_heap HG.out.zero
      have r5 : Hid (W5.heap[w.heap.size]? = some (.cells L 46 (0, 0))) := (hb5.block _ (by omega)).trans HG.out.row
      have z5 : Hid (W5.heap[w.heap.size + 1]? = some (.cells zeroC 46 (0, 0))) := (hb5.block _ (by omega)).trans HG.out.zero
      have o5 : Hid (∀ g, g < w.heap.size → W5.heap[g]? = W4.heap[g]?) := fun g hg => (hb5.block _ (by omega)).trans (HG.out.old g hg)
      have b5 : Hid (Below B w W5) := (HG.out.bel.drew).trans (hb5.mono (by omega))
      have e5 : W5.heap[eb]? = some (.cells en 68 (0, 0)) := (o5.out _ hle).trans E4.out
      clear hb5 hlv
      go_wp2_with fail
      refine hK.out _ _ e5 (fun hHeld2 => ?_)
      clear hK K hHeld
      have hHeld := hHeld2
      clear hHeld2
      try simp only [List.getElem_toArray, List.getElem_cons_zero, List.getElem_cons_succ, Act.put, List.setIfInBounds_toArray, List.set_cons_zero, List.set_cons_succ]
      refine wpAnyH_take (i := 8) (v := ?_) rfl (by kernel_rfl) (by kernel_rfl) (by kernel_rfl) (fun _ _ _ h => h) (Or.inl ⟨by rfl, ?_⟩) (by assumption) ?_
      rotate_left
      · (intro w hSw; (try dsimp only at hSw); go_simp; try with_reducible rfl)
      try simp only [List.getElem_toArray, List.getElem_cons_zero, List.getElem_cons_succ, Act.put, List.setIfInBounds_toArray, List.set_cons_zero, List.set_cons_succ]
      refine wpAnyH_ready (rs := [9]) (by kernel_rfl) (by simp) ?_
      refine AllReadyH.cons (o := _) rfl (fun K hK => ?_) AllReadyH.nil
      refine wp_store_at 41 _ _ rfl w.heap.size 0 L PC 46 rfl rfl r5.out (infoPk HCS.out) HIN9.out HCO.out ?_
      intro W6 u1 u2 u3 u4
      have r6 : Hid _ := u1
      have z6 : Hid (W6.heap[w.heap.size + 1]? = some (.cells zeroC 46 (0, 0))) := (u2 _ (by omega)).trans z5.out
      have o6 : Hid (∀ g, g < w.heap.size → W6.heap[g]? = W4.heap[g]?) := fun g hg => (u2 _ (by omega)).trans (o5.out g hg)
      have b6 : Hid (Below B w W6) := b5.out.trans (u4.mono hB)
      refine hK.out _ _ ((u2 _ hne1).trans e5) (fun hHeld2 => ?_)
      clear hK K hHeld hHeld2 u1 u2 u3 u4 r5 z5 o5 b5 e5
      try simp only [List.getElem_toArray, List.getElem_cons_zero, List.getElem_cons_succ, Act.put, List.setIfInBounds_toArray, List.set_cons_zero, List.set_cons_succ]
      refine wpAnyH_done (by kernel_rfl) ?_ _
      obtain ⟨M, hM⟩ : ∃ M, putC L 0 PC.toList = M := ⟨_, rfl⟩
      have hMS : M.size = 49 := by rw [← hM, putC_size]; exact HLS'.out
      have hMO : M.all (·.oneCell') = true := by rw [← hM]; exact putC_one9 HLO'.out HCO.out 0
      rw [hM] at r6
      have HM : Hid _ := hM
      have HMS : Hid _ := hMS
      have HMO : Hid _ := hMO
      clear hM hMS hMO
      go_wp2_with (first
        | refine wpList_load_row rfl 46 _ rfl w.heap.size rfl 46 M (0, 0) _ r6.out Try.underlying46 rfl (info_size HMS.out) ?_
        | refine wpList_store_row rfl 46 _ _ rfl (w.heap.size + 1) zeroC M 46 rfl rfl z6.out (info_size HMS.out) (Eq.trans (b := 49) rfl HMS.out.symm) HMO.out ?_
        | fail)
      intro W8 y1 y2 y3 y4
      have H8 : Hid _ := HH.out.from H4.out (fun g hg => (y2 g (by omega)).trans (o6.out g hg))
      have B8 : Hid (Below B w W8) := b6.out.trans (y4.mono (by omega))
      go_wp2
      refine bodyPost_ret (results_state (p := 6) (u := 7) rfl _ _ (w.heap.size + 1) _ rfl y1 HMS.out) rfl ⟨?_, H8.out, B8.out, fun g hg ge => ((y2 g (by omega)).trans (o6.out g hg)).trans (O4.out g hg ge)⟩
      rw [← HM.out, ← HL.out]
      rfl
    · have G := G3.out 2 6 14
      have e4 : W4.heap[eb]? = some (.cells (entC z o r true (clock + 30) 0) 68 (0, 0)) := H4.out.en
      obtain ⟨en, hen⟩ : ∃ en, entC z o r true (clock + 30) 0 = en := ⟨_, rfl⟩
      obtain ⟨cn, hcn⟩ : ∃ cn, connC z o r true (clock + 30) = cn := ⟨_, rfl⟩
      have hec : en.extract 0 (0 + 13) = cn := by rw [← hen, ← hcn]; exact ent_conn _ _ _ _ _ _
      have HC1 : Hid (∀ W, Calls Try.prog 24 #[.agg ps, .agg cn, .bool true] W fun e w' => e = .returned (.agg PC) ∧ Below W.heap.size W w') := by
        show ∀ W, _
        intro W; rw [← hcn]; exact HCH.out W _ rfl
      have hcz : cn.size = 13 := by rw [← hcn]; rfl
      rw [hen] at e4
      obtain ⟨L, hL⟩ : ∃ L, lookC cs (pr, src, dst, s9, d9) 14 = L := ⟨_, rfl⟩
      have hLP : L.extract 0 (0 + 36) = ps := by rw [← hL]; exact HLP.out _
      have hLS : L.size = 49 := by rw [← hL]; exact HLS.out _
      have hLO : L.all (·.oneCell') = true := by rw [← hL]; exact HLO.out _
      rw [hL] at G
      have HG : Hid _ := G
      have E4 : Hid _ := e4
      have HEC : Hid _ := hec
      have HCZ : Hid _ := hcz
      have HLP' : Hid _ := hLP
      have HLS' : Hid _ := hLS
      have HLO' : Hid _ := hLO
      have HL : Hid _ := hL
      have hin : 0 + PC.size ≤ L.size := by rw [HCS.out, hLS]; decide
      have HIN9 : Hid _ := hin
      clear G e4 hen hcn hec hcz hL hLP hLS hLO hin HCH
      go_wp2_with fail
      refine wp_region_held_drew (S := (fun W => W.heap[eb]? = some (.cells en 68 (0, 0)))) (by kernel_rfl) ?_ (fun hHeld => ?_)
      · exact (HG.out.old _ hle).trans E4.out
      refine wpAnyH_take (i := 0) (v := ?_) rfl (by kernel_rfl) (by kernel_rfl) (by kernel_rfl) (fun _ _ _ h => h) (Or.inl ⟨by rfl, ?_⟩) (by assumption) ?_
      rotate_left
      · (intro w hSw; (try dsimp only at hSw); go_simp; try with_reducible rfl)
      try simp only [List.getElem_toArray, List.getElem_cons_zero, List.getElem_cons_succ, Act.put, List.setIfInBounds_toArray, List.set_cons_zero, List.set_cons_succ]
      refine wpAnyH_take (i := 2) (v := ?_) rfl (by kernel_rfl) (by kernel_rfl) (by kernel_rfl) (fun _ _ _ h => h) (Or.inl ⟨by rfl, ?_⟩) (by assumption) ?_
      rotate_left
      · (intro w hSw; (try dsimp only at hSw); go_simp; try with_reducible rfl)
      try simp only [List.getElem_toArray, List.getElem_cons_zero, List.getElem_cons_succ, Act.put, List.setIfInBounds_toArray, List.set_cons_zero, List.set_cons_succ]
      refine wpAnyH_take (i := 3) (v := ?_) rfl (by kernel_rfl) (by kernel_rfl) (by kernel_rfl) (fun _ _ _ h => h) (Or.inl ⟨by rfl, ?_⟩) (by assumption) ?_
      rotate_left
      · (intro w hSw; (try dsimp only at hSw); go_simp; try with_reducible rfl)
      try simp only [List.getElem_toArray, List.getElem_cons_zero, List.getElem_cons_succ, Act.put, List.setIfInBounds_toArray, List.set_cons_zero, List.set_cons_succ]
      refine wpAnyH_take (i := 4) (v := ?_) rfl (by kernel_rfl) (by kernel_rfl) (by kernel_rfl) (fun _ _ _ h => h) (Or.inl ⟨by rfl, ?_⟩) (by assumption) ?_
      rotate_left
      · (intro w hSw; (try dsimp only at hSw); go_simp; try with_reducible rfl)
      try simp only [List.getElem_toArray, List.getElem_cons_zero, List.getElem_cons_succ, Act.put, List.setIfInBounds_toArray, List.set_cons_zero, List.set_cons_succ]
      refine wpAnyH_take (i := 5) (v := .agg cn) rfl (by kernel_rfl) (by kernel_rfl) (by kernel_rfl) (fun _ _ _ h => h) (yields_loadA (by rfl) 51 _ rfl eb 0 13 rfl 68 en _ _ (fun _ h => h) HEC.out HCZ.out Try.underlying51 rfl size13) (by assumption) ?_
      try simp only [List.getElem_toArray, List.getElem_cons_zero, List.getElem_cons_succ, Act.put, List.setIfInBounds_toArray, List.set_cons_zero, List.set_cons_succ]
      refine wpAnyH_take (i := 6) (v := ?_) rfl (by kernel_rfl) (by kernel_rfl) (by kernel_rfl) (fun _ _ _ h => h) (Or.inl ⟨by rfl, ?_⟩) (by assumption) ?_
      rotate_left
      · (intro w hSw; (try dsimp only at hSw); go_simp; try with_reducible rfl)
      try simp only [List.getElem_toArray, List.getElem_cons_zero, List.getElem_cons_succ, Act.put, List.setIfInBounds_toArray, List.set_cons_zero, List.set_cons_succ]
      refine wpAnyH_ready (rs := [1]) (by kernel_rfl) (by simp) ?_
      refine AllReadyH.cons (o := _) rfl (fun K hK => ?_) AllReadyH.nil
      refine wp_load_as 41 _ rfl w.heap.size 0 36 rfl L ps 46 _ HG.out.row Try.underlying41 rfl HLP'.out HP36.out size36 ?_
      refine hK.out _ _ hHeld (fun hHeld2 => ?_)
      clear hK K hHeld
      have hHeld := hHeld2
      clear hHeld2
      try simp only [List.getElem_toArray, List.getElem_cons_zero, List.getElem_cons_succ, Act.put, List.setIfInBounds_toArray, List.set_cons_zero, List.set_cons_succ]
      refine wpAnyH_ready (rs := [7]) (by kernel_rfl) (by simp) ?_
      refine AllReadyH.cons (o := _) rfl (fun K hK => ?_) AllReadyH.nil
      go_simp
      refine (HC1.out _).mono ?_
      rintro e W5 ⟨rfl, hb5⟩
      have hlv : w.heap.size + 1 < (World.drew ((((W4).setCell ⟨w.heap.size, 36, none⟩ (.int .i64 2)).setCell ⟨w.heap.size, 36, none⟩ (.int .i64 6)).setCell ⟨w.heap.size, 36, none⟩ (.int .i64 14))).heap.size := lt_of_heap HG.out.zero
      have r5 : Hid (W5.heap[w.heap.size]? = some (.cells L 46 (0, 0))) := (hb5.block _ (by omega)).trans HG.out.row
      have z5 : Hid (W5.heap[w.heap.size + 1]? = some (.cells zeroC 46 (0, 0))) := (hb5.block _ (by omega)).trans HG.out.zero
      have o5 : Hid (∀ g, g < w.heap.size → W5.heap[g]? = W4.heap[g]?) := fun g hg => (hb5.block _ (by omega)).trans (HG.out.old g hg)
      have b5 : Hid (Below B w W5) := (HG.out.bel.drew).trans (hb5.mono (by omega))
      have e5 : W5.heap[eb]? = some (.cells en 68 (0, 0)) := (o5.out _ hle).trans E4.out
      clear hb5 hlv
      go_wp2_with fail
      refine hK.out _ _ e5 (fun hHeld2 => ?_)
      clear hK K hHeld
      have hHeld := hHeld2
      clear hHeld2
      try simp only [List.getElem_toArray, List.getElem_cons_zero, List.getElem_cons_succ, Act.put, List.setIfInBounds_toArray, List.set_cons_zero, List.set_cons_succ]
      refine wpAnyH_take (i := 8) (v := ?_) rfl (by kernel_rfl) (by kernel_rfl) (by kernel_rfl) (fun _ _ _ h => h) (Or.inl ⟨by rfl, ?_⟩) (by assumption) ?_
      rotate_left
      · (intro w hSw; (try dsimp only at hSw); go_simp; try with_reducible rfl)
      try simp only [List.getElem_toArray, List.getElem_cons_zero, List.getElem_cons_succ, Act.put, List.setIfInBounds_toArray, List.set_cons_zero, List.set_cons_succ]
      refine wpAnyH_ready (rs := [9]) (by kernel_rfl) (by simp) ?_
      refine AllReadyH.cons (o := _) rfl (fun K hK => ?_) AllReadyH.nil
      refine wp_store_at 41 _ _ rfl w.heap.size 0 L PC 46 rfl rfl r5.out (infoPk HCS.out) HIN9.out HCO.out ?_
      intro W6 u1 u2 u3 u4
      have r6 : Hid _ := u1
      have z6 : Hid (W6.heap[w.heap.size + 1]? = some (.cells zeroC 46 (0, 0))) := (u2 _ (by omega)).trans z5.out
      have o6 : Hid (∀ g, g < w.heap.size → W6.heap[g]? = W4.heap[g]?) := fun g hg => (u2 _ (by omega)).trans (o5.out g hg)
      have b6 : Hid (Below B w W6) := b5.out.trans (u4.mono hB)
      refine hK.out _ _ ((u2 _ hne1).trans e5) (fun hHeld2 => ?_)
      clear hK K hHeld hHeld2 u1 u2 u3 u4 r5 z5 o5 b5 e5
      try simp only [List.getElem_toArray, List.getElem_cons_zero, List.getElem_cons_succ, Act.put, List.setIfInBounds_toArray, List.set_cons_zero, List.set_cons_succ]
      refine wpAnyH_done (by kernel_rfl) ?_ _
      obtain ⟨M, hM⟩ : ∃ M, putC L 0 PC.toList = M := ⟨_, rfl⟩
      have hMS : M.size = 49 := by rw [← hM, putC_size]; exact HLS'.out
      have hMO : M.all (·.oneCell') = true := by rw [← hM]; exact putC_one9 HLO'.out HCO.out 0
      rw [hM] at r6
      have HM : Hid _ := hM
      have HMS : Hid _ := hMS
      have HMO : Hid _ := hMO
      clear hM hMS hMO
      go_wp2_with (first
        | refine wpList_load_row rfl 46 _ rfl w.heap.size rfl 46 M (0, 0) _ r6.out Try.underlying46 rfl (info_size HMS.out) ?_
        | refine wpList_store_row rfl 46 _ _ rfl (w.heap.size + 1) zeroC M 46 rfl rfl z6.out (info_size HMS.out) (Eq.trans (b := 49) rfl HMS.out.symm) HMO.out ?_
        | fail)
      intro W8 y1 y2 y3 y4
      have H8 : Hid _ := HH.out.from H4.out (fun g hg => (y2 g (by omega)).trans (o6.out g hg))
      have B8 : Hid (Below B w W8) := b6.out.trans (y4.mono (by omega))
      go_wp2
      refine bodyPost_ret (results_state (p := 6) (u := 7) rfl _ _ (w.heap.size + 1) _ rfl y1 HMS.out) rfl ⟨?_, H8.out, B8.out, fun g hg ge => ((y2 g (by omega)).trans (o6.out g hg)).trans (O4.out g hg ge)⟩
      rw [← HM.out, ← HL.out]
      rfl
end Go.Proofs.Ytjjehncnjcepkaa
