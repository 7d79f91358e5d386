/- Satisfies of package match, of matches in form; what follows for And and Implies. Conditions: the terms can be read; the State has its 49 cells. -/
import Derived.Test.YtpinhnkceaephaaDoorMM
namespace Go.Proofs.YtpinhnkceaephaaDoor
open Go.RowKit
/-- Does a State, told by g, satisfy terms? -/
def satT (g : Int → Option (BitVec 64)) (t : Tm) : Bool := match g t.f with
  | none => false
  | some v => ((v ^^^ t.v) &&& t.m) == 0
def sat (g : Int → Option (BitVec 64)) : List Tm → Bool
  | [] => true
  | t :: r => satT g t && sat g r
theorem satT_iff {g : Int → Option (BitVec 64)} {ab : Int → BitVec 64} {t : Tm} (ht : okT ab t = true) : satT g t = true ↔ ∀ i, t.m.getLsbD i = true → ∃ v, g t.f = some v ∧ v.getLsbD i = t.v.getLsbD i := by
  unfold satT
  cases h : g t.f with
  | none =>
    simp only [Bool.false_eq_true, false_iff]
    intro hn
    obtain ⟨i, hi⟩ := bvn.1 (okT_m ht).1
    obtain ⟨v, hv, _⟩ := hn i hi
    cases hv
  | some v =>
    simp only [beq_iff_eq]
    constructor
    · intro h0 i hi
      have := bv0.1 h0 i
      simp only [BitVec.getLsbD_and, BitVec.getLsbD_xor, hi, Bool.and_true] at this
      exact ⟨v, rfl, by simpa using this⟩
    · intro hn
      refine bv0.2 fun i => ?_
      simp only [BitVec.getLsbD_and, BitVec.getLsbD_xor]
      cases hi : t.m.getLsbD i
      · simp
      · obtain ⟨u, hu, he⟩ := hn i hi
        cases hu
        simp [he]
theorem sat_iff {g : Int → Option (BitVec 64)} {ab : Int → BitVec 64} {k : Int} {l : List Tm} (h : chk ab k l = true) : sat g l = true ↔ ∀ f i, (lm l f).getLsbD i = true → ∃ v, g f = some v ∧ v.getLsbD i = (lv l f).getLsbD i := by
  induction l generalizing k with
  | nil => simp [sat, lm]
  | cons t r ih =>
    obtain ⟨_, h2, h3⟩ := chk_cons h
    have l0 := low h3 (Int.le_refl _)
    rw [sat, Bool.and_eq_true, ih h3, satT_iff h2]
    constructor
    · rintro ⟨p, q⟩ f i hi
      by_cases e : t.f = f
      · subst e
        rw [lm_cons_eq] at hi
        rw [lv_cons_eq]
        exact p i hi
      · rw [lm_cons_ne e] at hi
        rw [lv_cons_ne e]
        exact q f i hi
    · intro p
      refine ⟨fun i hi => ?_, fun f i hi => ?_⟩
      · have := p t.f i (by rw [lm_cons_eq]; exact hi)
        rw [lv_cons_eq] at this
        exact this
      · by_cases e : t.f = f
        · subst e
          rw [l0.2] at hi
          simp at hi
        · have := p f i (by rw [lm_cons_ne e]; exact hi)
          rw [lv_cons_ne e] at this
          exact this
theorem sat_both {g : Int → Option (BitVec 64)} {ab : Int → BitVec 64} {k : Int} {a b x : List Tm} (ha : chk ab k a = true) (hb : chk ab k b = true) (hx : jn a b = some x) : sat g x = (sat g a && sat g b) := by
  obtain ⟨cx, dx⟩ := jn_some ha hb hx
  rw [Bool.eq_iff_iff, Bool.and_eq_true, sat_iff cx, sat_iff ha, sat_iff hb]
  constructor
  · intro h
    refine ⟨fun f i hi => ?_, fun f i hi => ?_⟩
    · obtain ⟨v, hv, he⟩ := h f i (by rw [(dx f).2.1]; simp [hi])
      refine ⟨v, hv, he.trans ?_⟩
      have e1 := (not_exists.1 (fun h => (dx f).2.2 (cf_iff.2 h))) i
      have vb := vm hb f (i := i)
      rw [(dx f).1]
      simp only [BitVec.getLsbD_or]
      revert e1 vb hi
      cases (lv a f).getLsbD i <;> cases (lv b f).getLsbD i <;> cases (lm a f).getLsbD i <;> cases (lm b f).getLsbD i <;> simp
    · obtain ⟨v, hv, he⟩ := h f i (by rw [(dx f).2.1]; simp [hi])
      refine ⟨v, hv, he.trans ?_⟩
      have e1 := (not_exists.1 (fun h => (dx f).2.2 (cf_iff.2 h))) i
      have va := vm ha f (i := i)
      rw [(dx f).1]
      simp only [BitVec.getLsbD_or]
      revert e1 va hi
      cases (lv a f).getLsbD i <;> cases (lv b f).getLsbD i <;> cases (lm a f).getLsbD i <;> cases (lm b f).getLsbD i <;> simp
  · rintro ⟨p, q⟩ f i hi
    have p1 := p f i
    have q1 := q f i
    have e1 := (not_exists.1 (fun h => (dx f).2.2 (cf_iff.2 h))) i
    have va := vm ha f (i := i)
    have vb := vm hb f (i := i)
    rw [(dx f).2.1] at hi
    rw [(dx f).1]
    simp only [BitVec.getLsbD_or] at hi ⊢
    cases hma : (lm a f).getLsbD i
    · rw [hma] at hi va
      simp only [Bool.false_or] at hi
      obtain ⟨v, hv, he⟩ := q1 hi
      refine ⟨v, hv, ?_⟩
      rw [he]
      cases hva : (lv a f).getLsbD i
      · simp
      · exact absurd (va hva) (by simp)
    · obtain ⟨v, hv, he⟩ := p1 hma
      refine ⟨v, hv, ?_⟩
      rw [he]
      revert e1 vb
      rw [hma]
      cases (lv a f).getLsbD i <;> cases (lv b f).getLsbD i <;> cases (lm b f).getLsbD i <;> simp
theorem sat_none {g : Int → Option (BitVec 64)} {ab : Int → BitVec 64} {k : Int} {a b : List Tm} (ha : chk ab k a = true) (hb : chk ab k b = true) (hx : jn a b = none) : (sat g a && sat g b) = false := by
  obtain ⟨f, hf⟩ := (jn_none ha hb).1 hx
  obtain ⟨i, h1, h2, h3⟩ := cf_iff.1 hf
  rw [Bool.eq_false_iff]
  intro h
  rw [Bool.and_eq_true, sat_iff ha, sat_iff hb] at h
  obtain ⟨v, hv, he⟩ := h.1 f i h2
  obtain ⟨u, hu, hd⟩ := h.2 f i h3
  rw [hv] at hu
  cases hu
  exact h1 (he.symm.trans hd)
theorem sat_imp {g : Int → Option (BitVec 64)} {ab : Int → BitVec 64} {k : Int} {a b : List Tm} (ha : chk ab k a = true) (hb : chk ab k b = true) (hf : fol a b = true) (hs : sat g a = true) : sat g b = true := by
  rw [fol_bits ha hb] at hf
  rw [sat_iff ha] at hs
  rw [sat_iff hb]
  intro f i hi
  obtain ⟨h1, h2⟩ := hf f i hi
  obtain ⟨v, hv, he⟩ := hs f i h1
  exact ⟨v, hv, he.trans h2⟩
/-- What a State tells. -/
def gets (cs : Array Value) (f : Int) : Option (BitVec 64) := if hasF f.toNat cs = true then some (bv (bits BinOp.and IntKind.u64 (rdF f.toNat cs) (2 ^ fBits f.toNat - 1))) else none
theorem sat_drop {g : Int → Option (BitVec 64)} {ts : List Tm} {k : Nat} {t : Tm} (h : ts[k]? = some t) : sat g (ts.drop k) = (satT g t && sat g (ts.drop (k + 1))) := by
  rw [drop_consT h]; rfl
theorem satT_no {cs : Array Value} {t : Tm} (h : hasF t.f.toNat cs = false) : satT (gets cs) t = false := by
  unfold satT gets
  rw [h]; rfl
theorem satT_yes {cs : Array Value} {t : Tm} (h : hasF t.f.toNat cs = true) : (bits BinOp.and IntKind.u64 (bits BinOp.xor IntKind.u64 (bits BinOp.and IntKind.u64 (rdF t.f.toNat cs) (2 ^ fBits t.f.toNat - 1)) (t.v.toNat : Int)) (t.m.toNat : Int) != 0) = !satT (gets cs) t := by
  unfold satT gets
  rw [h]
  simp only [if_true]
  generalize bits BinOp.and IntKind.u64 (rdF t.f.toNat cs) (2 ^ fBits t.f.toNat - 1) = X
  rw [bits_xor, bits_and, bv_nat, bv_nat, bv_nat, bne0]
  simp [bne]
set_option maxHeartbeats 1000000 in
set_option maxRecDepth 20000 in
theorem satisfies_any (cs : Array Value) (hst : St cs) (v : Value) (ts : List Tm) (hc : chk abV 0 ts = true) (w : World) (h : TV w v ts) : Calls Tryd.prog 18 #[.agg cs, v] w fun e w' => e = .returned (.bool (sat (gets cs) ts)) ∧ Below w.heap.size w w' := by
  obtain ⟨a, n, c, rfl, hcap, h⟩ := h
  have hl := h.len
  have hr := h.room
  have H : Hid _ := h
  have HC : Hid _ := hc
  have HST : Hid _ := hst
  have HI : Hid _ := info_size hst.size
  clear h hc hst
  go_enter Tryd.func18, Tryd.ntmps18
  go_wp2_with fail
  go_loopw [11] (fun s wr => ∃ k : Nat, k ≤ n ∧ s = .int .i64 k ∧ Hid (sat (gets cs) (ts.drop k) = sat (gets cs) ts) ∧ Below (w.heap.size + 1) (w.alloc (.cells cs 46)) wr) (fun s _ => n - (intOf s).toNat)
  case atStart => exact ⟨0, by omega, rfl, rfl, Below.refl _ _⟩
  case round =>
    obtain ⟨k, hk, rfl, HF, hb⟩ := hrel
    have HB : Hid (Below w.heap.size w wr) := (below1 w _).trans (hb.mono (by omega))
    have HBX : Hid (wr.heap[w.heap.size]? = some (.cells cs 46 (0, 0))) := (hb.block _ (by omega)).trans (heap_alloc_new _ _)
    have HB1 : Hid (Below (w.heap.size + 1) (w.alloc (.cells cs 46)) wr) := hb
    have hsz := hb.size
    simp at hsz
    have HT : Hid _ := H.out.below HB.out
    clear hb
    by_cases hlt : k < n
    · have hkI : (k : Int) < (n : Int) := by omega
      obtain ⟨t, ht⟩ : ∃ t, ts[k]? = some t := ⟨ts[k]'(by omega), List.getElem?_eq_getElem (by omega)⟩
      obtain ⟨b, off, rfl, c0, c1, c2, hbl⟩ := HT.out.at ht
      have HD : Hid _ := sat_drop (g := gets cs) ht
      have hfl := okT_field (chk_mem HC.out ht)
      obtain ⟨fn, hfn⟩ := Int.eq_ofNat_of_zero_le (show 0 ≤ t.f by omega)
      have hfn' : t.f.toNat = fn := by rw [hfn]; simp
      have HYN : Hid _ := satT_no (cs := cs) (t := t)
      have HYY : Hid _ := satT_yes (cs := cs) (t := t)
      rw [hfn'] at HYN HYY
      have hf1 : 1 ≤ fn := by omega
      have hf2 : fn ≤ 28 := by omega
      rw [hfn] at c0
      clear HT ht hfl hfn hfn'
      have HZ : Hid _ := heap_alloc_new wr (.cells #[.int .i64 (fn : Int), .int .u64 (t.v.toNat : Int), .int .u64 (t.m.toNat : Int)] 55)
      go_wp2_with (first
        | refine wpList_load_row rfl 46 _ rfl w.heap.size rfl 46 cs (0, 0) _ ((heap_alloc_old wr _ (by omega)).trans HBX.out) Tryd.underlying46 rfl HI.out ?_
        | fail)
      refine (get_any fn hf1 hf2 cs HST.out _).mono ?_
      rintro e W1 ⟨rfl, hb1⟩
      have HZ1 : Hid _ := (hb1.block _ (lt_of_heap HZ.out)).trans HZ.out
      have HB2 : Hid (Below (w.heap.size + 1) (w.alloc (.cells cs 46)) W1) := HB1.out.trans (((below1 _ _).trans (hb1.mono (by simp))).mono (by omega))
      have hs1 := hb1.size
      simp at hs1
      have d1 := cell_row HZ1.out 1
      have d2 := cell_row HZ1.out 2
      simp only [List.getElem?_toArray, List.getElem?_cons_zero, List.getElem?_cons_succ] at d1 d2
      clear hb1 HZ c0 c1 c2 HB HBX HB1
      cases hh : hasF fn cs
      · have HE : Hid (sat (gets cs) ts = false) := by
          show _ = _
          rw [← HF.out, HD.out, HYN.out hh]; rfl
        clear HF HD HYN HYY
        simp only [Bool.false_eq_true, if_false]
        go_wp2_with fail
        go_ret
        exact ⟨by rw [HE.out]; rfl, (below1 w _).trans (HB2.out.mono (by omega))⟩
      · have hy := HYY.out hh
        simp only [if_true]
        generalize bits BinOp.and IntKind.u64 (rdF fn cs) (2 ^ fBits fn - 1) = X at hy ⊢
        cases hs : satT (gets cs) t
        · have HE : Hid (sat (gets cs) ts = false) := by
            show _ = _
            rw [← HF.out, HD.out, hs]; rfl
          rw [hs] at hy
          clear HF HD HYN HYY
          simp only [Bool.not_false] at hy
          go_wp2_with fail
          go_ret
          exact ⟨by rw [HE.out]; rfl, (below1 w _).trans (HB2.out.mono (by omega))⟩
        · have HE : Hid (sat (gets cs) (ts.drop (k + 1)) = sat (gets cs) ts) := by
            show _ = _
            rw [← HF.out, HD.out, hs]; rfl
          rw [hs] at hy
          clear HF HD HYN HYY
          simp only [Bool.not_true] at hy
          go_wp2_with fail
          go_roundw
          case rel => exact ⟨k + 1, by omega, by go_num, HE, HB2.out⟩
          case measure => simp [intOf]; omega
    · have HE : Hid (sat (gets cs) ts = true) := by
        show _ = _
        rw [← HF.out, List.drop_of_length_le (by omega)]; rfl
      clear HF
      obtain rfl : k = n := by omega
      go_wp2_with fail
      go_ret
      exact ⟨by rw [HE.out]; rfl, HB.out⟩
end Go.Proofs.YtpinhnkceaephaaDoor
