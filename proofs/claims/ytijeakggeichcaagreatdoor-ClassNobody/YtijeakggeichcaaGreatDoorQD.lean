/- check of a classifier: why a rule can't be taken in. Conditions: the terms can be read. -/
import Derived.Test.YtijeakggeichcaaGreatDoorQC
import Derived.Lib.Hide
namespace Go.Proofs.YtijeakggeichcaaGreatDoor
open Go.RowKit
theorem quiet_load {ops : Array Oper} {C : World → Prop} {Q : Act → Prop} {a : Act} {o : Oper} {rest : List Oper} (hw : Region.wanted o (yielded ops a.tmps) = true) (ty : TypeId) (x : Operand) (ho : o.op = .load ty x) (b off : Nat) (hx : a.eval x = .pointer (some ⟨b, off, none⟩)) (cs : Array Value) (d : TypeDesc)
    (hc : ∀ w, C w → w.rangeAt b off cs.toList) (hu : Tryz.prog.underlying ty = some d) (hd : d.isRow = true) (hi : (Tryz.prog.info? ty).map (·.size) = some cs.size) (h : wpQuiet Tryz.prog ops C Q rest (a.put o.dst (.agg cs))) : wpQuiet Tryz.prog ops C Q (o :: rest) a := by
  show if _ then _ else _
  rw [if_pos hw]
  refine ⟨.agg cs, fun w hC => ?_, h⟩
  have hr := run_loadAt_mid (P := Tryz.prog) w b off ty cs.toList d (hc w hC) hu hd (by rw [Array.length_toList]; exact hi)
  rw [Array.toArray_toList] at hr
  unfold Oper.quietAt execOp
  simp only [ho, hx, Sem.run_bind, hr, Result.andThen_ok, Sem.run_pure]
  exact ⟨rfl, rfl⟩
theorem quiet_lookup {ops : Array Oper} {C : World → Prop} {Q : Act → Prop} {a : Act} {o : Oper} {rest : List Oper} (hw : Region.wanted o (yielded ops a.tmps) = true) (mt : TypeId) (x k : Operand) (ho : o.op = .lookup mt x k false) (m kv v : Value) (hx : a.eval x = m) (hk : a.eval k = kv)
    (hc : ∀ w, C w → (Instr.lookup mt m kv false).run Tryz.prog w = .ok v w) (h : wpQuiet Tryz.prog ops C Q rest (a.put o.dst v)) : wpQuiet Tryz.prog ops C Q (o :: rest) a := by
  show if _ then _ else _
  rw [if_pos hw]
  refine ⟨v, fun w hC => ?_, h⟩
  unfold Oper.quietAt execOp
  simp only [ho, hx, hk, Sem.run_bind, hc w hC, Result.andThen_ok, Sem.run_pure]
  exact ⟨rfl, rfl⟩
/-- What check tells. -/
def chkR (p id : Int) (ts : List Tm) (had : Bool) (n : Nat) : Int :=
  if p < 0 ∨ 65535 < p ∨ id < 1 then 1 else if chkE ts ≠ 0 then chkE ts else if had then 5 else if 65536 ≤ n then 2 else 0
theorem neq_pent (a : Addr) (W : World) : (binOp .neq 69 (.pointer (some a)) (.pointer none)).run Tryz.prog W = .ok (.bool true) W := by
  first | kernel_rfl | simp [binOp, go_sem]
theorem neq_pent0 (W : World) : (binOp .neq 69 (.pointer none) (.pointer none)).run Tryz.prog W = .ok (.bool false) W := by
  first | kernel_rfl | simp [binOp, go_sem]
theorem zero_pent (W : World) : (zeroValue 69).run Tryz.prog W = .ok (.pointer none) W := by
  first | kernel_rfl | simp [go_sem]
theorem chkR_bad {p id : Int} {ts : List Tm} {had : Bool} {n : Nat} (h : p < 0 ∨ 65535 < p ∨ id < 1) : chkR p id ts had n = 1 := by unfold chkR; rw [if_pos h]
theorem chkR_chk {p id : Int} {ts : List Tm} {had : Bool} {n : Nat} (h : ¬ (p < 0 ∨ 65535 < p ∨ id < 1)) (h2 : chkE ts ≠ 0) : chkR p id ts had n = chkE ts := by unfold chkR; rw [if_neg h, if_pos h2]
theorem chkR_had {p id : Int} {ts : List Tm} {n : Nat} (h : ¬ (p < 0 ∨ 65535 < p ∨ id < 1)) (h2 : chkE ts = 0) : chkR p id ts true n = 5 := by unfold chkR; rw [if_neg h, if_neg (by simp [h2])]; rfl
theorem chkR_full {p id : Int} {ts : List Tm} {n : Nat} (h : ¬ (p < 0 ∨ 65535 < p ∨ id < 1)) (h2 : chkE ts = 0) (h3 : 65536 ≤ n) : chkR p id ts false n = 2 := by unfold chkR; rw [if_neg h, if_neg (by simp [h2])]; simp [h3]
theorem chkR_ok {p id : Int} {ts : List Tm} {n : Nat} (h : ¬ (p < 0 ∨ 65535 < p ∨ id < 1)) (h2 : chkE ts = 0) (h3 : ¬ 65536 ≤ n) : chkR p id ts false n = 0 := by unfold chkR; rw [if_neg h, if_neg (by simp [h2])]; simp [h3]
theorem len_map {W : World} {r c : Nat} {l : List (Int × Value × Nat)} (h : W.heap[r]? = some (.map (entG iv l).toArray c)) : (Builtin.len_ #[63] 3 #[.map (some r)]).run Tryz.prog W = .ok (.int .i64 l.length) W := by
  simp [Builtin.len_, run_underlying Tryz.underlying63, MapKept.run_getObj_map h, entG, goInt]
set_option linter.unusedSimpArgs false in
set_option maxRecDepth 100000 in
set_option maxHeartbeats 2000000 in
theorem pcheck_any {w : World} {cb rb tb c : Nat} {l : List (Int × Value × Nat)} (hc : w.heap[cb]? = some (.cells (clC rb tb) 66 (0, 0))) (hr : w.heap[rb]? = some (.map (entG iv l).toArray c)) (hl : ∀ x ∈ l, ∃ e, x.2.1 = .pointer (some ⟨e, 0, none⟩)) (hn : l.length ≤ 1000000)
    (p id : Int) (s : Value) (ts : List Tm) (h : TV w s ts) :
    Calls Tryz.prog 18 #[.pointer (some ⟨cb, 0, none⟩), .agg (ruC p s id)] w fun e w' => e = .returned (.int .i64 (chkR p id ts (findG id l 0).isSome l.length)) ∧ Below w.heap.size w w' := by
  have b1 := below1 w (.cells (ruC p s id) 29)
  have HT : Hid _ := check_any s ts (w.alloc (.cells (ruC p s id) 29)) (h.below b1)
  obtain ⟨sa, sn, sc, rfl, _, _⟩ := h
  have B1 : Hid _ := b1
  have hlc := lt_of_heap hc
  have hlr := lt_of_heap hr
  have key : Hid (∀ W, Below (w.alloc (.cells (ruC p (.slice sa sn sc) id) 29)).heap.size (w.alloc (.cells (ruC p (.slice sa sn sc) id) 29)) W → W.cell? ⟨cb, 0, none⟩ = some (.map (some rb)) ∧ W.heap[rb]? = some (.map (entG iv l).toArray c) ∧ W.cell? ⟨w.heap.size, 2, none⟩ = some (.int .i64 id)) := by
    show ∀ W, _
    intro W hW
    have q1 := (hW.block _ (by simp; omega)).trans ((heap_alloc_old w _ hlc).trans hc)
    have q2 := (hW.block _ (by simp; omega)).trans ((heap_alloc_old w _ hlr).trans hr)
    have q3 := (hW.block w.heap.size (by simp)).trans (heap_alloc_new w (.cells (ruC p (.slice sa sn sc) id) 29))
    exact ⟨cell_row q1 0, q2, cell_row q3 2⟩
  clear b1 hc hr
  by_cases d1 : p < 0
  · have HR : Hid _ := chkR_bad (p := p) (id := id) (ts := ts) (had := (findG id l 0).isSome) (n := l.length) (.inl d1)
    clear key HT
    go_enter Tryz.func18, Tryz.ntmps18
    go_wp2
    go_ret
    exact ⟨by rw [HR.out]; rfl, B1.out⟩
  by_cases d2 : 65535 < p
  · have HR : Hid _ := chkR_bad (p := p) (id := id) (ts := ts) (had := (findG id l 0).isSome) (n := l.length) (.inr (.inl d2))
    clear key HT
    go_enter Tryz.func18, Tryz.ntmps18
    go_wp2
    go_ret
    exact ⟨by rw [HR.out]; rfl, B1.out⟩
  by_cases d3 : id < 1
  · have HR : Hid _ := chkR_bad (p := p) (id := id) (ts := ts) (had := (findG id l 0).isSome) (n := l.length) (.inr (.inr d3))
    clear key HT
    go_enter Tryz.func18, Tryz.ntmps18
    go_wp2
    go_ret
    exact ⟨by rw [HR.out]; rfl, B1.out⟩
  have D : Hid (¬ (p < 0 ∨ 65535 < p ∨ id < 1)) := by show ¬ _; omega
  cases hk : chk abV 0 ts
  · have e90 : chkE ts = 90 := by unfold chkE; rw [hk]; rfl
    have HR : Hid _ := chkR_chk (had := (findG id l 0).isSome) (n := l.length) D.out (show chkE ts ≠ 0 by rw [e90]; decide)
    rw [e90] at HT HR
    clear key e90
    go_enter Tryz.func18, Tryz.ntmps18
    go_wp2_with fail
    refine Calls.mono HT.out ?_
    rintro e W ⟨rfl, hb⟩
    have HB : Hid (Below w.heap.size w W) := B1.out.trans (hb.mono B1.out.size)
    clear hb
    go_wp2
    go_ret
    exact ⟨by rw [HR.out]; rfl, HB.out⟩
  have e0 : chkE ts = 0 := by unfold chkE; rw [hk]; rfl
  have E0 : Hid _ := e0
  rw [e0] at HT
  cases hf : findG id l 0 with
  | some v =>
    obtain ⟨i, v⟩ := v
    have HR : Hid _ := chkR_had (n := l.length) D.out E0.out
    obtain ⟨b, _, hb9⟩ := findG_at hf
    obtain ⟨e9, he9⟩ := hl _ (List.mem_of_getElem? hb9)
    dsimp only at he9
    subst he9
    have HF : Hid _ := hf
    clear hf hk e0 hb9
    have hne := neq_pent
    go_enter Tryz.func18, Tryz.ntmps18
    go_wp2_with fail
    refine Calls.mono HT.out ?_
    rintro e W ⟨rfl, hb⟩
    have HB : Hid (Below w.heap.size w W) := B1.out.trans (hb.mono B1.out.size)
    obtain ⟨c0, m0, c2⟩ := key.out W hb
    have hlk : ∀ q, (Instr.lookup 63 (.map (some rb)) (.int .i64 id) false).run Tryz.prog (W.drewN q) = .ok (.pointer (some ⟨e9, 0, none⟩)) (W.drewN q) := fun q => by
      have := look_any intK Tryz.underlying63 (.pointer none) zero_pent (w := W.drewN q) m0 id
      simpa [HF.out, iv] using this
    clear hb m0 key
    go_wp2_with fail
    refine wp_region_quiet_lit (by kernel_rfl) (by kernel_rfl) ?_
    repeat (first
      | (refine quiet_lookup (by rfl) 63 _ _ rfl (.map (some rb)) (.int .i64 id) (.pointer (some ⟨e9, 0, none⟩)) rfl rfl (fun w9 h9 => by obtain ⟨q9, rfl⟩ := h9; exact hlk q9) ?_
         simp only [List.getElem_toArray, List.getElem_cons_zero, List.getElem_cons_succ, Act.put, List.setIfInBounds_toArray, List.set_cons_zero, List.set_cons_succ])
      | quiet_step (fail))
    refine wpQuiet_nil ?_
    intro _ hw'
    obtain ⟨nq, hw''⟩ := hw'
    subst hw''
    go_wp2
    go_ret
    exact ⟨by simpa using HR.out.symm, below_drewN HB.out _⟩
  | none =>
    have HF : Hid _ := hf
    clear hf hk e0
    have hne := neq_pent0
    by_cases h6 : 65536 ≤ l.length
    · have HR : Hid _ := chkR_full D.out E0.out h6
      obtain ⟨n9, hn9⟩ : ∃ n9 : Int, (l.length : Int) = n9 := ⟨_, rfl⟩
      have h6I : (65536 : Int) ≤ n9 := by omega
      have N9 : Hid _ := hn9
      clear hn9 h6
      go_enter Tryz.func18, Tryz.ntmps18
      go_wp2_with fail
      refine Calls.mono HT.out ?_
      rintro e W ⟨rfl, hb⟩
      have HB : Hid (Below w.heap.size w W) := B1.out.trans (hb.mono B1.out.size)
      obtain ⟨c0, m0, c2⟩ := key.out W hb
      have hlk : ∀ q, (Instr.lookup 63 (.map (some rb)) (.int .i64 id) false).run Tryz.prog (W.drewN q) = .ok (.pointer none) (W.drewN q) := fun q => by
        have := look_any intK Tryz.underlying63 (.pointer none) zero_pent (w := W.drewN q) m0 id
        simpa [HF.out, iv] using this
      have hln : ∀ q, (Builtin.len_ #[63] 3 #[.map (some rb)]).run Tryz.prog (W.drewN q) = .ok (.int .i64 n9) (W.drewN q) := fun q => by rw [← N9.out]; exact len_map (W := W.drewN q) m0
      clear hb m0 key
      go_wp2_with fail
      refine wp_region_quiet_lit (by kernel_rfl) (by kernel_rfl) ?_
      repeat (first
        | (refine quiet_lookup (by rfl) 63 _ _ rfl (.map (some rb)) (.int .i64 id) (.pointer none) rfl rfl (fun w9 h9 => by obtain ⟨q9, rfl⟩ := h9; exact hlk q9) ?_
           simp only [List.getElem_toArray, List.getElem_cons_zero, List.getElem_cons_succ, Act.put, List.setIfInBounds_toArray, List.set_cons_zero, List.set_cons_succ])
        | quiet_step (fail))
      refine wpQuiet_nil ?_
      intro _ hw'
      obtain ⟨nq, hw''⟩ := hw'
      subst hw''
      go_wp2
      go_ret
      exact ⟨by simpa using HR.out.symm, below_drewN HB.out _⟩
    · have HR : Hid _ := chkR_ok D.out E0.out h6
      obtain ⟨n9, hn9⟩ : ∃ n9 : Int, (l.length : Int) = n9 := ⟨_, rfl⟩
      have h6I : n9 < (65536 : Int) := by omega
      have N9 : Hid _ := hn9
      clear hn9 h6
      go_enter Tryz.func18, Tryz.ntmps18
      go_wp2_with fail
      refine Calls.mono HT.out ?_
      rintro e W ⟨rfl, hb⟩
      have HB : Hid (Below w.heap.size w W) := B1.out.trans (hb.mono B1.out.size)
      obtain ⟨c0, m0, c2⟩ := key.out W hb
      have hlk : ∀ q, (Instr.lookup 63 (.map (some rb)) (.int .i64 id) false).run Tryz.prog (W.drewN q) = .ok (.pointer none) (W.drewN q) := fun q => by
        have := look_any intK Tryz.underlying63 (.pointer none) zero_pent (w := W.drewN q) m0 id
        simpa [HF.out, iv] using this
      have hln : ∀ q, (Builtin.len_ #[63] 3 #[.map (some rb)]).run Tryz.prog (W.drewN q) = .ok (.int .i64 n9) (W.drewN q) := fun q => by rw [← N9.out]; exact len_map (W := W.drewN q) m0
      clear hb m0 key
      go_wp2_with fail
      refine wp_region_quiet_lit (by kernel_rfl) (by kernel_rfl) ?_
      repeat (first
        | (refine quiet_lookup (by rfl) 63 _ _ rfl (.map (some rb)) (.int .i64 id) (.pointer none) rfl rfl (fun w9 h9 => by obtain ⟨q9, rfl⟩ := h9; exact hlk q9) ?_
           simp only [List.getElem_toArray, List.getElem_cons_zero, List.getElem_cons_succ, Act.put, List.setIfInBounds_toArray, List.set_cons_zero, List.set_cons_succ])
        | quiet_step (fail))
      refine wpQuiet_nil ?_
      intro _ hw'
      obtain ⟨nq, hw''⟩ := hw'
      subst hw''
      go_wp2
      go_ret
      exact ⟨by simpa using HR.out.symm, below_drewN HB.out _⟩
end Go.Proofs.YtijeakggeichcaaGreatDoor
