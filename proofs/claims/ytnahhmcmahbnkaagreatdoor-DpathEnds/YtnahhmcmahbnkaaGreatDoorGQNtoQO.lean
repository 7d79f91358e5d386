/- The first entry of a tuple that a State finds. Conditions: as said. -/
import Derived.Test.YtnahhmcmahbnkaaGreatDoorGQLtoQM
import Derived.Lib.Hide
import Derived.Maps.Range
import Derived.Maps.RangeRun
namespace Go.Proofs.YtnahhmcmahbnkaaGreatDoor
open Go.RowKit
theorem callT : ∀ args W, (callFunc 97 args).run Tryz.prog W = .ok (.enter 97 args) W := fun args W => by simp [go_sem]
/-- The closure that tells what a State says. -/
abbrev tellV (b1 b2 : Nat) : Value := .func (Fn.func 97) #[] #[.pointer (some ⟨b2, 0, none⟩), .pointer (some ⟨b1, 0, none⟩)]
set_option maxRecDepth 100000 in
theorem zero_rd (f : Nat) (hf : f ≤ 28) : Tryz.zeroCells201[f * 3]? = some (.bool false) ∧ Tryz.zeroCells201[f * 3 + 1]? = some (.bool false) ∧ Tryz.zeroCells201[f * 3 + 2]? = some (.int .u64 0) := by
  rcases (show f = 0 ∨ f = 1 ∨ f = 2 ∨ f = 3 ∨ f = 4 ∨ f = 5 ∨ f = 6 ∨ f = 7 ∨ f = 8 ∨ f = 9 ∨ f = 10 ∨ f = 11 ∨ f = 12 ∨ f = 13 ∨ f = 14 ∨ f = 15 ∨ f = 16 ∨ f = 17 ∨ f = 18 ∨ f = 19 ∨ f = 20 ∨ f = 21 ∨ f = 22 ∨ f = 23 ∨ f = 24 ∨ f = 25 ∨ f = 26 ∨ f = 27 ∨ f = 28 from by omega) with rfl | rfl | rfl | rfl | rfl | rfl | rfl | rfl | rfl | rfl | rfl | rfl | rfl | rfl | rfl | rfl | rfl | rfl | rfl | rfl | rfl | rfl | rfl | rfl | rfl | rfl | rfl | rfl | rfl <;> exact ⟨by kernel_rfl, by kernel_rfl, by kernel_rfl⟩
set_option maxRecDepth 100000 in
set_option maxHeartbeats 1000000 in
theorem bitsOf_any (cs : Array Value) (w : World) : Calls Tryz.prog 63 #[.agg cs] w fun e w' => e = .returned (tellV w.heap.size (w.heap.size + 1)) ∧ RD w' cs w.heap.size (w.heap.size + 1) ∧ Below w.heap.size w w' := by
  go_enter Tryz.func63, Tryz.ntmps63
  go_wp2_with fail
  go_ret
  refine ⟨rfl, ⟨two_first _ _ _, _, two_last _ _ _, by kernel_rfl, fun f hf => ?_⟩, below2 _ _ _⟩
  obtain ⟨h0, h1, h2⟩ := zero_rd f hf
  exact .inl ⟨_, _, h0, h1, h2⟩
set_option maxHeartbeats 1000000 in
theorem appendValue_room {w : World} {b : Nat} {zs : List Int} (h : RM w b zs) (hl : zs.length + 8 ≤ 224) (v : Int) (hv : 0 ≤ v ∧ v ≤ 18446744073709551615) :
    Calls Tryz.prog 99 #[.slice (some ⟨b, 0, none⟩) zs.length 224, .int .u64 v] w fun e w' => e = .returned (.slice (some ⟨b, 0, none⟩) (zs.length + 8) 224) ∧ RM w' b (zs ++ Nm.be v 8) ∧ But b w w' := by
  have HA : Hid _ := octets_room h hl v hv
  clear h
  go_enter Tryz.func99, Tryz.ntmps99
  go_wp2_with fail
  refine Calls.mono HA.out ?_
  rintro e w' ⟨rfl, hr, hb⟩
  have HR : Hid _ := hr
  have HB : Hid _ := hb
  clear hr hb
  go_wp2
  go_ret
  exact ⟨rfl, HR.out, HB.out⟩
/-- The queue's first entry. -/
def FirstQ (w : World) (v : Value) (e : Nat) : Prop := ∃ qb g n cap R, v = .pointer (some ⟨qb, 0, none⟩) ∧ w.heap[qb]? = some (.cells (quC (.slice (some ⟨g, 0, none⟩) n cap)) 188 (0, 0)) ∧ 1 ≤ n ∧ n ≤ 1000000 ∧ w.heap[g]? = some (.cells R 146 (0, 0)) ∧ R[0]? = some (.pointer (some ⟨e, 0, none⟩))
set_option maxHeartbeats 1000000 in
theorem qfirst_any (g n cap e : Nat) (R : Array Value) (w : World) (hn : 1 ≤ n) (hn2 : n ≤ 1000000) (h : w.heap[g]? = some (.cells R 146 (0, 0))) (h0 : R[0]? = some (.pointer (some ⟨e, 0, none⟩))) :
    Calls Tryz.prog 100 #[.slice (some ⟨g, 0, none⟩) n cap] w fun x w' => x = .returned (.pointer (some ⟨e, 0, none⟩)) ∧ w' = w := by
  have c0 : w.cell? ⟨g, 0, none⟩ = some (.pointer (some ⟨e, 0, none⟩)) := (cell_row h 0).trans h0
  have hnI : (0 : Int) < n := by omega
  clear h h0
  go_enter Tryz.func100, Tryz.ntmps100
  go_wp2
  go_ret
  exact ⟨rfl, rfl⟩
theorem rd_ne {w : World} {cs : Array Value} {b1 b2 b : Nat} {A : Array Value} {t : TypeId} (h : RD w cs b1 b2) (hb : w.heap[b]? = some (.cells A t (0, 0))) (ht : t ≠ 201) : b ≠ b2 := fun e => by
  subst e
  obtain ⟨A', h1, _⟩ := h.rd
  rw [hb] at h1
  injection h1 with h1
  injection h1 with _ h1
  exact ht h1
theorem FirstQ.but {w w' : World} {v : Value} {e : Nat} {cs : Array Value} {b1 b2 : Nat} (h : FirstQ w v e) (hr : RD w cs b1 b2) (hb : But b2 w w') : FirstQ w' v e := by
  obtain ⟨qb, g, n, cap, R, rfl, q1, q2, q3, q4, q5⟩ := h
  exact ⟨qb, g, n, cap, R, rfl, (hb.keep _ (lt_of_heap q1) (rd_ne hr q1 (by decide))).trans q1, q2, q3, (hb.keep _ (lt_of_heap q4) (rd_ne hr q4 (by decide))).trans q4, q5⟩
/-- The key that a State has in a tuple: none, if it lacks a field. -/
def tellK (cs : Array Value) : List Tm → Option (List Int)
  | [] => some []
  | t :: r => if hasF t.f.toNat cs then (tellK cs r).map (Nm.be (bits BinOp.and IntKind.u64 (gv t.f.toNat cs) (t.m.toNat : Int)) 8 ++ ·) else none
def FirstR (w : World) (cs : Array Value) (sh : List Tm) (lq : List (ByteArray × Value × Nat)) (r : Option Addr) : Prop :=
  (tellK cs sh = none ∧ r = none) ∨ ∃ zs, tellK cs sh = some zs ∧ ((findG (strOfNums zs) lq 0 = none ∧ r = none) ∨ ∃ i v e, findG (strOfNums zs) lq 0 = some (i, v) ∧ FirstQ w v e ∧ r = some ⟨e, 0, none⟩)
theorem tellK_snoc {cs : Array Value} : ∀ {l : List Tm} {t : Tm} {zs : List Int}, tellK cs l = some zs → hasF t.f.toNat cs = true → tellK cs (l ++ [t]) = some (zs ++ Nm.be (bits BinOp.and IntKind.u64 (gv t.f.toNat cs) (t.m.toNat : Int)) 8)
  | [], t, zs, h, ht => by simp [tellK] at h; subst h; simp [tellK, ht]
  | x :: r, t, zs, h, ht => by
    simp only [tellK, List.cons_append] at h ⊢
    cases hx : hasF x.f.toNat cs with
    | false => rw [hx] at h; simp at h
    | true =>
      rw [hx, if_pos rfl] at h
      cases hr : tellK cs r with
      | none => rw [hr] at h; simp at h
      | some ys =>
        rw [hr] at h
        simp at h
        subst h
        simp [tellK_snoc hr ht]
theorem tellK_none {cs : Array Value} : ∀ {l r : List Tm} {t : Tm}, hasF t.f.toNat cs = false → tellK cs (l ++ t :: r) = none
  | [], r, t, ht => by simp [tellK, ht]
  | x :: l, r, t, ht => by
    simp only [tellK, List.cons_append, tellK_none ht]
    split <;> rfl
theorem tellK_mem {cs : Array Value} : ∀ {l : List Tm} {zs : List Int}, tellK cs l = some zs → zs.length = 8 * l.length ∧ ∀ x ∈ zs, 0 ≤ x ∧ x ≤ 255
  | [], zs, h => by simp [tellK] at h; subst h; simp
  | x :: r, zs, h => by
    simp only [tellK] at h
    split at h
    · cases hr : tellK cs r with
      | none => rw [hr] at h; simp at h
      | some ys =>
        rw [hr] at h
        simp at h
        subst h
        obtain ⟨h1, h2⟩ := tellK_mem hr
        refine ⟨by rw [List.length_append, Nm.be_len, h1, List.length_cons]; omega, fun z hz => ?_⟩
        rcases List.mem_append.1 hz with h3 | h3
        · exact be_mem _ _ _ h3
        · exact h2 z h3
    · cases h
theorem RD.but {w w' : World} {cs : Array Value} {b1 b2 b : Nat} (h : RD w cs b1 b2) (hb : But b w w') (h2 : b ≠ b2) (h1 : b ≠ b1) : RD w' cs b1 b2 := by
  obtain ⟨A, q1, q2⟩ := h.rd
  exact ⟨(hb.keep _ (lt_of_heap h.st) (Ne.symm h1)).trans h.st, A, (hb.keep _ (lt_of_heap q1) (Ne.symm h2)).trans q1, q2⟩
theorem quiet_convert {ops : Array Oper} {C : World → Prop} {Q : Act → Prop} {a : Act} {o : Oper} {rest : List Oper} (hw : Region.wanted o (yielded ops a.tmps) = true) (s t : TypeId) (x : Operand) (ho : o.op = .convert s t x) (xv v : Value) (hx : a.eval x = xv)
    (hc : ∀ w, C w → (convert s t xv).run Tryz.prog w = .ok v w) (h : wpQuiet Tryz.prog ops C Q rest (a.put o.dst v)) : wpQuiet Tryz.prog ops C Q (o :: rest) a := by
  show if _ then _ else _
  rw [if_pos hw]
  refine ⟨v, fun w hC => ?_, h⟩
  unfold Oper.quietAt execOp
  simp only [ho, hx, Sem.run_bind, hc w hC, Result.andThen_ok, Sem.run_pure]
  exact ⟨rfl, rfl⟩
theorem TV.but {w w' : World} {v : Value} {ts : List Tm} {cs : Array Value} {b1 b2 : Nat} (h : TV w v ts) (hr : RD w cs b1 b2) (hb : But b2 w w') : TV w' v ts := by
  obtain ⟨a, n, c, rfl, hc, ht⟩ := h
  refine ⟨a, n, c, rfl, hc, ht.len, ht.room, ?_⟩
  rcases ht.cells with h0 | ⟨b, off, e, hcell⟩
  · exact .inl h0
  · refine .inr ⟨b, off, e, fun i t hi => ?_⟩
    have c0 := hcell i t hi
    have hne : b ≠ b2 := fun e => by
      subst e
      obtain ⟨A, h1, h2, h3⟩ := hr.rd
      have q := c0.1
      rw [cell_row h1] at q
      have hlt := (Array.getElem?_eq_some_iff.1 q).1
      generalize off + i * 3 = j at q hlt
      have hj : j = j / 3 * 3 ∨ j = j / 3 * 3 + 1 ∨ j = j / 3 * 3 + 2 := by omega
      rcases h3 (j / 3) (by omega) with ⟨x, y, r0, r1, r2⟩ | ⟨r0, r1, r2⟩
      all_goals
        rcases hj with hj | hj | hj
        · rw [hj, r0] at q; cases q
        · rw [hj, r1] at q; cases q
        · rw [hj, r2] at q; cases q
    have key : ∀ j, w'.cell? ⟨b, j, none⟩ = w.cell? ⟨b, j, none⟩ := fun j => World.cell?_of_block (hb.keep b (cell_lt c0.1) hne)
    exact ⟨by rw [key]; exact c0.1, by rw [key]; exact c0.2.1, by rw [key]; exact c0.2.2⟩
theorem zero_room (W : World) (w : World) (h : W.heap[w.heap.size]? = some (.cells Tryz.zeroCells205 205 (0, 0))) : RM W w.heap.size [] := ⟨_, h, by kernel_rfl, fun i hi => by simp at hi⟩
set_option linter.unusedSimpArgs false in
set_option maxRecDepth 100000 in
set_option maxHeartbeats 4000000 in
theorem first_any {w : World} {cs : Array Value} {b1 b2 tb qm c : Nat} {tx : ByteArray} {s : Value} {mk : Int} {sh : List Tm} {lq : List (ByteArray × Value × Nat)} (hrd : RD w cs b1 b2) (hst : St cs) (ht : w.heap[tb]? = some (.cells (tuC tx s mk qm) 185 (0, 0))) (hs : TV w s sh) (hlen : sh.length ≤ 28) (hfd : ∀ t ∈ sh, 1 ≤ t.f ∧ t.f ≤ 28)
    (hq : w.heap[qm]? = some (.map (entG sv lq).toArray c)) (hqs : ∀ x ∈ lq, ∃ e, FirstQ w x.2.1 e) :
    Calls Tryz.prog 64 #[.pointer (some ⟨tb, 0, none⟩), tellV b1 b2] w fun e w' => (∃ r, e = .returned (.pointer r) ∧ FirstR w cs sh lq r) ∧ RD w' cs b1 b2 ∧ But b2 w w' := by
  have HRD : Hid _ := hrd
  have HS : Hid _ := hs
  have HQ : Hid _ := hq
  have HT : Hid _ := ht
  have HQS : Hid _ := hqs
  have HFD : Hid _ := hfd
  have hct := callT
  have hlt := lt_of_heap ht
  have hlq := lt_of_heap hq
  obtain ⟨sa, sn, sc, rfl, hc0, hts⟩ := hs
  have hsn : sh.length = sn := hts.len
  subst hsn
  have c1 : w.cell? ⟨tb, 1, none⟩ = some (.slice sa sh.length sc) := cell_row ht 1
  clear hrd hq ht hqs hfd hts
  go_enter Tryz.func64, Tryz.ntmps64
  go_wp2_with fail
  have RM0 : Hid (RM (w.alloc (.cells Tryz.zeroCells205 205)) w.heap.size []) := zero_room _ w (heap_alloc_new _ _)
  have RD0 : Hid (RD (w.alloc (.cells Tryz.zeroCells205 205)) cs b1 b2) := HRD.out.of (below1 _ _)
  have BT0 : Hid (But b2 w (w.alloc (.cells Tryz.zeroCells205 205))) := But.ofBelow (below1 _ _)
  have HB2 : Hid (b2 < w.heap.size) := by obtain ⟨A, h1, _⟩ := HRD.out.rd; exact lt_of_heap h1
  have HTV : Hid (∀ W, But b2 w W → TV W (.slice sa sh.length sc) sh) := fun W hW => TV.but HS.out HRD.out hW
  clear c1
  go_loopw [6, 18] (fun key i wr => ∃ (k : Nat) (zs : List Int), i = .int .i64 k ∧ k ≤ sh.length ∧ key = .slice (some ⟨w.heap.size, 0, none⟩) zs.length 224 ∧ Hid (tellK cs (sh.take k) = some zs) ∧ Hid (RM wr w.heap.size zs) ∧ Hid (RD wr cs b1 b2) ∧ Hid (But b2 w wr)) (fun _ i _ => sh.length - (intOf i).toNat)
  case atStart => exact ⟨0, [], rfl, by omega, rfl, rfl, RM0.out, RD0.out, BT0.out⟩
  case round =>
    obtain ⟨k, zs, rfl, hk, rfl, hkz, hrm, hrd, hbt⟩ := hrel
    have hk0 : (0 : Int) ≤ k := by omega
    have hzl := (tellK_mem hkz.out).1
    rw [List.length_take, Nat.min_eq_left hk] at hzl
    have HZL : Hid _ := hzl
    clear hzl
    by_cases hlt9 : k < sh.length
    · have hkI : (k : Int) < sh.length := by omega
      obtain ⟨t, ht⟩ : ∃ t, sh[k]? = some t := ⟨_, List.getElem?_eq_getElem hlt9⟩
      obtain ⟨a9, n9, q9, e9, _, hts⟩ := HTV.out wr hbt.out
      cases e9
      obtain ⟨b0, o0, rfl, c0, c1, c2, hbl⟩ := hts.at ht
      obtain ⟨hf1, hf2⟩ := HFD.out t (List.mem_of_getElem? ht)
      obtain ⟨f, hf⟩ : ∃ f : Nat, t.f = (f : Int) := ⟨t.f.toNat, by omega⟩
      have HTN : Hid (t.f.toNat = f) := by show _ = _; omega
      have HTT : Hid _ := ht
      have RDA : Hid _ := hrd.out.of (below1 wr (.cells #[.int .i64 f, .int .u64 (t.v.toNat : Int), .int .u64 (t.m.toNat : Int)] 118))
      have HTL : Hid _ := tell_any RDA.out hst f (by omega) (by omega) (t.m.toNat : Int)
      rw [hf] at c0
      obtain ⟨tv, htv⟩ : ∃ tv, (t.v.toNat : Int) = tv := ⟨_, rfl⟩
      obtain ⟨tm, htm⟩ : ∃ tm, (t.m.toNat : Int) = tm := ⟨_, rfl⟩
      rw [htv] at c1 RDA HTL
      rw [htm] at c2 RDA HTL
      have HTM : Hid _ := htm
      clear hbl hts htv htm hf hf1 hf2 ht
      go_wp2_with fail
      refine Calls.mono HTL.out ?_
      rintro e W1 ⟨rfl, hr1, hb1⟩
      have B1 : Hid (But b2 w W1) := hbt.out.trans ((But.ofBelow (below1 wr (.cells #[.int .i64 f, .int .u64 tv, .int .u64 tm] 118))).trans hb1)
      have R1 : Hid _ := hr1
      have M1 : Hid (RM W1 w.heap.size zs) := (hrm.out.of (below1 wr (.cells #[.int .i64 f, .int .u64 tv, .int .u64 tm] 118))).keep hb1 (by have := HB2.out; omega)
      clear hr1 hb1 hrd hrm hbt HTL RDA c0 c1 c2
      cases hh : hasF f cs
      · have hnone : Hid (tellK cs sh = none) := by
          show _ = _
          have e9 : sh = sh.take k ++ t :: sh.drop (k + 1) := by
            have := List.take_append_drop k sh
            rw [List.drop_eq_getElem_cons hlt9, (List.getElem?_eq_some_iff.1 HTT.out).2] at this
            exact this.symm
          rw [e9]
          exact tellK_none (by rw [HTN.out]; exact hh)
        clear hh
        go_wp2
        go_ret
        exact ⟨⟨none, rfl, .inl ⟨hnone.out, rfl⟩⟩, ⟨R1.out.st, R1.out.rd⟩, ⟨B1.out.keep, B1.out.size, B1.out.os, B1.out.tape, B1.out.output⟩⟩
      · obtain ⟨v, hv⟩ : ∃ v, bits BinOp.and IntKind.u64 (gv f cs) tm = v := ⟨_, rfl⟩
        have hvb : 0 ≤ v ∧ v ≤ 18446744073709551615 := by
          rw [← hv, bits_and]
          have := (bv (gv f cs) &&& bv tm).isLt
          omega
        have HAP : Hid _ := appendValue_room M1.out (by have := HZL.out; omega) v hvb
        have KN : Hid (tellK cs (sh.take (k + 1)) = some (zs ++ Nm.be v 8)) := by
          show _ = _
          rw [List.take_succ_eq_append_getElem hlt9, (List.getElem?_eq_some_iff.1 HTT.out).2, tellK_snoc hkz.out (by rw [HTN.out]; exact hh), HTN.out, HTM.out, hv]
        rw [hv]
        clear hv hvb hh M1
        go_wp2_with fail
        refine Calls.mono HAP.out ?_
        rintro e W2 ⟨rfl, hm2, hb2⟩
        have M2 : Hid _ := hm2
        have B2 : Hid (But w.heap.size W1 W2) := hb2
        have R2 : Hid (RD W2 cs b1 b2) := RD.but R1.out hb2 (by have := HB2.out; omega) (by have := lt_of_heap HRD.out.st; omega)
        have B3 : Hid (But b2 w W2) := ⟨fun g hg hn => (hb2.keep g (by have := B1.out.size; omega) (by omega)).trans (B1.out.keep g hg hn), Nat.le_trans B1.out.size hb2.size, hb2.os.trans B1.out.os, hb2.tape.trans B1.out.tape, hb2.output.trans B1.out.output⟩
        clear hm2 hb2 HAP
        go_wp2
        go_roundw
        case rel => exact ⟨k + 1, zs ++ Nm.be v 8, rfl, by omega, by rw [List.length_append, Nm.be_len], KN.out, M2.out, R2.out, B3.out⟩
        case measure => simp [intOf]; omega
    · have hkI : ¬ (k : Int) < sh.length := by omega
      obtain rfl : k = sh.length := by omega
      have hkz2 : Hid (tellK cs sh = some zs) := by have := hkz.out; rwa [List.take_length] at this
      have hbs := hrm.out.bs (tellK_mem hkz.out).2 (by have := HZL.out; omega)
      have hnq : qm ≠ b2 := fun e => by subst e; obtain ⟨A, h1, _⟩ := HRD.out.rd; rw [HQ.out] at h1; cases h1
      have hntb : tb ≠ b2 := fun e => by
        subst e
        obtain ⟨A, h1, _⟩ := HRD.out.rd
        rw [HT.out] at h1
        injection h1 with h1
        injection h1 with _ h1
        exact absurd h1 (by decide)
      have t3 : wr.cell? ⟨tb, 3, none⟩ = some (.map (some qm)) := cell_row ((hbt.out.keep _ hlt hntb).trans HT.out) 3
      have q0 : wr.heap[qm]? = some (.map (entG sv lq).toArray c) := (hbt.out.keep _ hlq hnq).trans HQ.out
      obtain ⟨key, hkey⟩ : ∃ key, strOfNums zs = key := ⟨_, rfl⟩
      have hcv : ∀ q, (convert 126 9 (.slice (some ⟨w.heap.size, 0, none⟩) zs.length 224)).run Tryz.prog (wr.drewN q) = .ok (.string key) (wr.drewN q) := fun q => by
        rw [← hkey]
        exact Nm.run_conv_bs (w := wr.drewN q) 224 ⟨hbs.len, hbs.fits, hbs.room, hbs.cells⟩ 126 9 5 Tryz.underlying126 Tryz.underlying5 Tryz.underlying9
      have hlk : ∀ q, (Instr.lookup 183 (.map (some qm)) (.string key) false).run Tryz.prog (wr.drewN q) = .ok (((findG key lq 0).map (·.2)).getD (.pointer none)) (wr.drewN q) := fun q => by
        have := look_any strK Tryz.underlying183 (.pointer none) zero_pqueue (w := wr.drewN q) q0 key
        simpa [sv] using this
      have HKEY : Hid _ := hkey
      have HKL : Hid _ := hlk
      have HCV : Hid _ := hcv
      clear hbs q0 hkey hlk hcv
      go_wp2_with fail
      refine wp_region_quiet_lit (by kernel_rfl) (by kernel_rfl) ?_
      repeat (first
        | (refine quiet_lookup (by rfl) 183 _ _ rfl (.map (some qm)) (.string key) (((findG key lq 0).map (·.2)).getD (.pointer none)) rfl rfl (fun w9 h9 => by obtain ⟨q9, rfl⟩ := h9; exact HKL.out q9) ?_
           simp only [List.getElem_toArray, List.getElem_cons_zero, List.getElem_cons_succ, Act.put, List.setIfInBounds_toArray, List.set_cons_zero, List.set_cons_succ])
        | (refine quiet_convert (by rfl) 126 9 _ rfl (.slice (some ⟨w.heap.size, 0, none⟩) zs.length 224) (.string key) rfl (fun w9 h9 => by obtain ⟨q9, rfl⟩ := h9; exact HCV.out q9) ?_
           simp only [List.getElem_toArray, List.getElem_cons_zero, List.getElem_cons_succ, Act.put, List.setIfInBounds_toArray, List.set_cons_zero, List.set_cons_succ])
        | quiet_step (fail))
      refine wpQuiet_nil ?_
      intro _ hw'
      obtain ⟨nq, hw''⟩ := hw'
      subst hw''
      have BD : Hid (But b2 w (wr.drewN nq)) := hbt.out.drewN nq
      have RDD : Hid (RD (wr.drewN nq) cs b1 b2) := ⟨hrd.out.st, hrd.out.rd⟩
      cases hf : findG key lq 0 with
      | none =>
        have FR : Hid (FirstR w cs sh lq none) := .inr ⟨zs, hkz2.out, .inl ⟨by rw [HKEY.out]; exact hf, rfl⟩⟩
        have heq := eql_pqueue0
        simp only [Option.map_none, Option.getD_none]
        clear hf t3
        go_wp2
        go_ret
        exact ⟨⟨none, rfl, FR.out⟩, ⟨RDD.out.st, RDD.out.rd⟩, ⟨BD.out.keep, BD.out.size, BD.out.os, BD.out.tape, BD.out.output⟩⟩
      | some x =>
        obtain ⟨i, v⟩ := x
        obtain ⟨bb, _, hb9⟩ := findG_at hf
        obtain ⟨e, he⟩ := HQS.out _ (List.mem_of_getElem? hb9)
        dsimp only at he
        have FR : Hid (FirstR w cs sh lq (some ⟨e, 0, none⟩)) := .inr ⟨zs, hkz2.out, .inr ⟨i, v, e, by rw [HKEY.out]; exact hf, he, rfl⟩⟩
        obtain ⟨qb, g, n, cap, R, rfl, q1, q2, q3, q4, q5⟩ := FirstQ.but he HRD.out BD.out
        have heq := eql_pqueue
        have c0 : (wr.drewN nq).cell? ⟨qb, 0, none⟩ = some (.slice (some ⟨g, 0, none⟩) n cap) := cell_row q1 0
        have HQF : Hid _ := qfirst_any g n cap e R (wr.drewN nq) q2 q3 q4 q5
        simp only [Option.map_some, Option.getD_some]
        clear hf hb9 he q1 q4 q5 t3
        go_wp2_with fail
        refine Calls.mono HQF.out ?_
        rintro x W9 ⟨rfl, hw9⟩
        rw [hw9]
        clear hw9 HQF c0
        go_wp2
        go_ret
        exact ⟨⟨_, rfl, FR.out⟩, ⟨RDD.out.st, RDD.out.rd⟩, ⟨BD.out.keep, BD.out.size, BD.out.os, BD.out.tape, BD.out.output⟩⟩
end Go.Proofs.YtnahhmcmahbnkaaGreatDoor
/- Find: the loop under way. Conditions: as said. -/
namespace Go.Proofs.YtnahhmcmahbnkaaGreatDoor
open Go.RowKit
open Go.ChangeMaps (setBlock)
theorem setBlock_same {w : World} {r : Nat} (h : r < w.heap.size) (o : Obj) : (setBlock w r o).heap[r]? = some o := Array.getElem?_setIfInBounds_self_of_lt h
theorem setBlock_other (w : World) {r k : Nat} (h : k ≠ r) (o : Obj) : (setBlock w r o).heap[k]? = w.heap[k]? := Array.getElem?_setIfInBounds_ne (fun e => h e.symm)
theorem ent_mem {K : Type} {kv : K → Value} {l1 : List (K × Value × Nat)} {e : MapEntry} (h : e ∈ (entG kv l1).toArray.toList) : ∃ x ∈ l1, e = { key := kv x.1, val := x.2.1, born := x.2.2 } := by
  simp only [entG, List.mem_map] at h
  obtain ⟨x, hx, rfl⟩ := h
  exact ⟨x, hx, rfl⟩
theorem left_none {K : Type} {kv : K → Value} {l : List (K × Value × Nat)} {seen : Array Nat} (h : (leftOf (entG kv l).toArray seen).size = 0) : ∀ y ∈ l, seen.contains y.2.2 = true := by
  intro y hy
  cases hc : seen.contains y.2.2 with
  | true => rfl
  | false =>
    have : ({ key := kv y.1, val := y.2.1, born := y.2.2 } : MapEntry) ∈ (leftOf (entG kv l).toArray seen) := by
      unfold leftOf
      rw [Array.mem_filter]
      refine ⟨?_, by show (!seen.contains y.2.2) = true; rw [hc]; rfl⟩
      simp only [List.mem_toArray, entG]
      exact List.mem_map.2 ⟨y, hy, rfl⟩
    rw [Array.size_eq_zero_iff.1 h] at this
    simp at this
theorem iter_step {K : Type} {kv : K → Value} {w : World} {it r c : Nat} {seen : Array Nat} {l : List (K × Value × Nat)} (hit : w.heap[it]? = some (.mapIter (some r) c seen c)) (hm : w.heap[r]? = some (.map (entG kv l).toArray c))
    (hborn : ∀ x ∈ l, x.2.2 < c) (hnb : (l.map (·.2.2)).Nodup) (ty : TypeId) :
    ((Instr.next (.pointer (some ⟨it, 0, none⟩)) false ty).run Tryz.prog w = .ok (.tuple #[.bool false]) w ∧ ∀ x ∈ l, seen.contains x.2.2 = true) ∨
    ∃ x ∈ l, ∃ W, seen.contains x.2.2 = false ∧ (Instr.next (.pointer (some ⟨it, 0, none⟩)) false ty).run Tryz.prog w = .ok (.tuple #[.bool true, kv x.1, x.2.1]) W ∧ (Instr.entry (.pointer (some ⟨it, 0, none⟩))).run Tryz.prog W = .ok (.tuple #[kv x.1, x.2.1]) W ∧
      W.heap[it]? = some (.mapIter (some r) c (seen.push x.2.2) c) ∧ But it w W ∧ (leftOf (entG kv l).toArray (seen.push x.2.2)).size < (leftOf (entG kv l).toArray seen).size := by
  rcases run_next_at (P := Tryz.prog) w ty it r c c seen _ c hit hm (fun x hx => by obtain ⟨y, hy, rfl⟩ := ent_mem hx; exact hborn y hy) (Nat.le_refl _) with ⟨h0, h1⟩ | ⟨y, hy, w1, hw1, hn⟩
  · exact .inl ⟨h1, left_none h0⟩
  · right
    obtain ⟨hy1, hy2⟩ := mem_left hy
    have hsh := left_shrinks _ _ _ hy
    obtain ⟨x, hx, rfl⟩ := ent_mem hy1
    have hr1 : w1.heap = w.heap := by rcases hw1 with rfl | rfl <;> rfl
    have ho : w1.os = w.os ∧ w1.tape = w.tape ∧ w1.output = w.output := by rcases hw1 with rfl | rfl <;> exact ⟨rfl, rfl, rfl⟩
    have hlt : it < w1.heap.size := by rw [hr1]; exact lt_of_heap hit
    obtain ⟨W, hW⟩ : ∃ W, W = setBlock w1 it (.mapIter (some r) c (seen.push x.2.2) c) := ⟨_, rfl⟩
    have hW' : setBlock w1 it (.mapIter (some r) c (seen.push x.2.2) c) = W := hW.symm
    have far : ∀ k, k ≠ it → W.heap[k]? = w.heap[k]? := fun k hk => by rw [hW, setBlock_other w1 hk, hr1]
    have iW : W.heap[it]? = some (.mapIter (some r) c (seen.push x.2.2) c) := by rw [hW]; exact setBlock_same hlt _
    have hne : r ≠ it := fun e => by subst e; rw [hit] at hm; cases hm
    have mW : W.heap[r]? = some (.map (entG kv l).toArray c) := (far _ hne).trans hm
    have hen := run_entry_at (P := Tryz.prog) W it r c seen _ c _ iW mW hy1 (by simpa [entG, Function.comp_def] using hnb)
    rw [hW'] at hn
    dsimp only at hn hen
    have sW : W.heap.size = w.heap.size := by rw [hW]; simp [setBlock, hr1]
    exact ⟨x, hx, W, hy2, hn, hen, iW, ⟨fun g _ hg => far g hg, by rw [sW]; exact Nat.le_refl _, by rw [hW]; exact ho.1, by rw [hW]; exact ho.2.1, by rw [hW]; exact ho.2.2⟩, hsh⟩
/-- An entry's rule. -/
def EntAt (w : World) (e : Nat) (p id : Int) (ts : List Tm) : Prop := ∃ s tb at_, w.heap[e]? = some (.cells (enC p s id tb at_) 151 (0, 0)) ∧ TV w s ts
theorem EntAt.of {w w' : World} {e : Nat} {p id : Int} {ts : List Tm} (h : EntAt w e p id ts) (hb : Below w.heap.size w w') : EntAt w' e p id ts := by
  obtain ⟨s, tb, at_, h1, h2⟩ := h
  exact ⟨s, tb, at_, (hb.block _ (lt_of_heap h1)).trans h1, h2.below hb⟩
/-- The first of two entries. -/
def Ahead (w : World) (e' e : Nat) : Prop := ∃ p a ts q b us, EntAt w e' p a ts ∧ EntAt w e q b us ∧ ordI p a q b < 0
/-- A tuple of a classifier. -/
def TupOk (w : World) (x : ByteArray × Value × Nat) (sh : List Tm) (lq : List (ByteArray × Value × Nat)) : Prop :=
  ∃ tb s mk qm c, x.2.1 = .pointer (some ⟨tb, 0, none⟩) ∧ w.heap[tb]? = some (.cells (tuC x.1 s mk qm) 185 (0, 0)) ∧ TV w s sh ∧ sh.length ≤ 28 ∧ (∀ t ∈ sh, 1 ≤ t.f ∧ t.f ≤ 28) ∧ w.heap[qm]? = some (.map (entG sv lq).toArray c) ∧ ∀ y ∈ lq, ∃ e, FirstQ w y.2.1 e ∧ ∃ p id ts, EntAt w e p id ts
theorem FirstQ.of {w w' : World} {v : Value} {e : Nat} (h : FirstQ w v e) (hb : Below w.heap.size w w') : FirstQ w' v e := by
  obtain ⟨qb, g, n, cap, R, rfl, q1, q2, q3, q4, q5⟩ := h
  exact ⟨qb, g, n, cap, R, rfl, (hb.block _ (lt_of_heap q1)).trans q1, q2, q3, (hb.block _ (lt_of_heap q4)).trans q4, q5⟩
theorem FirstQ.back {w w' : World} {v : Value} {e e' : Nat} (h' : FirstQ w v e') (h : FirstQ w' v e) (hb : Below w.heap.size w w') : e = e' := by
  obtain ⟨qb, g, n, cap, R, rfl, q1, _, _, q4, q5⟩ := h'
  obtain ⟨qb2, g2, n2, cap2, R2, e2, p1, _, _, p4, p5⟩ := h
  cases e2
  rw [(hb.block _ (lt_of_heap q1)).trans q1] at p1
  cases p1
  rw [(hb.block _ (lt_of_heap q4)).trans q4] at p4
  cases p4
  rw [q5] at p5
  cases p5
  rfl
theorem TupOk.of {w w' : World} {x : ByteArray × Value × Nat} {sh : List Tm} {lq : List (ByteArray × Value × Nat)} (h : TupOk w x sh lq) (hb : Below w.heap.size w w') : TupOk w' x sh lq := by
  obtain ⟨tb, s, mk, qm, c, h1, h2, h3, h4, h5, h6, h7⟩ := h
  refine ⟨tb, s, mk, qm, c, h1, (hb.block _ (lt_of_heap h2)).trans h2, h3.below hb, h4, h5, (hb.block _ (lt_of_heap h6)).trans h6, fun y hy => ?_⟩
  obtain ⟨e, f1, p, id, ts, f2⟩ := h7 y hy
  exact ⟨e, f1.of hb, p, id, ts, f2.of hb⟩
/-- What is found so far. -/
def Best (w : World) (cs : Array Value) (sh : ByteArray × Value × Nat → List Tm) (lq : ByteArray × Value × Nat → List (ByteArray × Value × Nat)) (l : List (ByteArray × Value × Nat)) (seen : Array Nat) (r : Option Nat) : Prop :=
  (∀ x ∈ l, seen.contains x.2.2 = true → ∀ e', FirstR w cs (sh x) (lq x) (some ⟨e', 0, none⟩) → ∃ e, r = some e ∧ ¬ Ahead w e' e) ∧ ∀ e, r = some e → ∃ x ∈ l, seen.contains x.2.2 = true ∧ FirstR w cs (sh x) (lq x) (some ⟨e, 0, none⟩)
end Go.Proofs.YtnahhmcmahbnkaaGreatDoor
