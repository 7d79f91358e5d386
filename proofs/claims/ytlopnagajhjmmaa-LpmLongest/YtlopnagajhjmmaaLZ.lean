/- looks: a table goes over what the document's has, twice. Conditions: as said. -/
import Derived.Test.YtlopnagajhjmmaaLY
import Derived.Test.YtlopnagajhjmmaaLYa
import Derived.Test.YtlopnagajhjmmaaLT
import Derived.RangeFuncKeeps
namespace Go.Proofs.Ytlopnagajhjmmaa
open Go.RowKit Go.Shelf Tr
attribute [local go_sem] Oper.semAt_some
/-- The blocks that were there stay, but for one. -/
def Grw (U : World) (ic : Nat) (W : World) : Prop := U.heap.size ≤ W.heap.size ∧ ∀ k, k < U.heap.size → k ≠ ic → W.heap[k]? = U.heap[k]?
theorem Grw.refl (U : World) (ic : Nat) : Grw U ic U := ⟨Nat.le_refl _, fun _ _ _ => rfl⟩
theorem Grw.alloc {U W : World} {ic : Nat} (h : Grw U ic W) (A : Obj) : Grw U ic (W.alloc A) := ⟨by have := h.1; simp; omega, fun k hk hn => (heap_alloc_old _ _ (Nat.lt_of_lt_of_le hk h.1)).trans (h.2 k hk hn)⟩
/-- What holds between two rounds of looks' inner loop. -/
def LkI (w U : World) (L : List Ro) (ic : Nat) (pre : List Ro) (W : World) : Prop := pre <+: L ∧ KC [ic] U W ∧ W.heap[ic]? = some (.cells #[.int .i64 pre.length] 3 (0, 0)) ∧ Below w.heap.size w W ∧ Grw U ic W
/-- How a round leaves: it must not, or it breaks behind the second. -/
def LkX (w U : World) (L : List Ro) (ic : Nat) (rho : Int) (id : Nat) (c : Code) (pre : List Ro) (W : World) : Prop := (c = .ret ∧ ¬ pre <+: L) ∨ (c = .exit id ∧ rho = 0 ∧ pre.length = 2 ∧ LkI w U L ic pre W)
theorem kc_own {X : List Nat} {U W W' : World} {row : Option Nat} (h : KC X U W) (hg : W.grownBy W' row) (hr : ∀ r, row = some r → ∃ o : Obj, W.heap[r]? = some o ∧ o.isCells = false) : KC X U W' := by
  intro k cs ty fr hk hc
  have h1 := h k cs ty fr hk hc
  refine (hg.block k (lt_of_heap h1) ?_).trans h1
  intro e
  obtain ⟨o, ho, hf⟩ := hr k e.symm
  rw [h1] at ho; injection ho with ho; subst ho; simp [Obj.isCells] at hf
theorem row_own {W W' : World} {row : Option Nat} {k : Nat} {cs : Array Value} {ty : TypeId} {fr : Nat × Nat} (h : W.heap[k]? = some (.cells cs ty fr)) (hg : W.grownBy W' row) (hr : ∀ r, row = some r → ∃ o : Obj, W.heap[r]? = some o ∧ o.isCells = false) : W'.heap[k]? = some (.cells cs ty fr) := by
  refine (hg.block k (lt_of_heap h) ?_).trans h
  intro e
  obtain ⟨o, ho, hf⟩ := hr k e.symm
  rw [h] at ho; injection ho with ho; subst ho; simp [Obj.isCells] at hf
theorem lkI_own {w U : World} {L : List Ro} {ic : Nat} (hN : w.heap.size ≤ U.heap.size) : OwnFrom U.heap.size (LkI w U L ic) := by
  intro s W W' row h hg hr
  obtain ⟨h1, h2, h3, h4, h5⟩ := h
  have hr' : ∀ r, row = some r → ∃ o : Obj, W.heap[r]? = some o ∧ o.isCells = false := fun r e => (hr r e).2
  exact ⟨h1, kc_own h2 hg hr', row_own h3 hg hr', h4.grown hg h4.size (fun k e => Nat.le_trans hN (hr k e).1), Nat.le_trans h5.1 hg.size, fun k hk hn => (hg.block k (Nat.lt_of_lt_of_le hk h5.1) (fun e => by have := (hr k e.symm).1; omega)).trans (h5.2 k hk hn)⟩
theorem lkX_own {w U : World} {L : List Ro} {ic : Nat} {rho : Int} {id : Nat} (hN : w.heap.size ≤ U.heap.size) (c : Code) : OwnFrom U.heap.size (LkX w U L ic rho id c) := by
  intro s W W' row h hg hr
  rcases h with h | ⟨h1, h2, h3, h4⟩
  · exact .inl h
  · exact .inr ⟨h1, h2, h3, lkI_own hN s W W' row h4 hg hr⟩
theorem prefix_at {L pre : List Ro} {x : Ro} (h : pre <+: L) : pre ++ [x] <+: L ↔ L[pre.length]? = some x := by
  obtain ⟨r, rfl⟩ := h
  rw [List.getElem?_append_right (Nat.le_refl _), Nat.sub_self]
  constructor
  · rintro ⟨s, hs⟩
    have : [x] ++ s = r := by rw [List.append_assoc] at hs; exact List.append_cancel_left hs
    rw [← this]; rfl
  · intro hx
    cases r with
    | nil => simp at hx
    | cons y r => simp at hx; subst hx; exact ⟨r, by simp⟩
theorem pre_lt {L pre : List Ro} (_ : pre <+: L) (hlt : pre.length < L.length) : ∃ x, L[pre.length]? = some x := ⟨L[pre.length], List.getElem?_eq_getElem hlt⟩
theorem rtab_kc {U W : World} {B xb : Nat} {L : List Ro} {qa : Option Addr} {qc : Nat} {X : List Nat} (h : RTab U B xb L qa qc) (hk : KC X U W) (hX : ∀ x ∈ X, ∃ cs, U.heap[x]? = some (.cells cs 3 (0, 0))) : RTab W B xb L qa qc := by
  have ne : ∀ (k : Nat) (cs : Array Value) (ty : TypeId), U.heap[k]? = some (.cells cs ty (0, 0)) → ty ≠ 3 → k ∉ X := by
    intro k cs ty hk ht hx
    obtain ⟨cs', hc⟩ := hX k hx
    rw [hk] at hc; injection hc with hc; injection hc with _ hc
    exact ht hc
  refine ⟨hk xb _ _ _ (ne xb _ _ h.blk (by decide)) h.blk, ⟨h.own.h.1, ?_⟩, h.lo, h.len⟩
  rcases h.own.h.2 with h0 | ⟨g, cap, cur, e, q1, q2, q3⟩
  · exact .inl h0
  · exact .inr ⟨g, cap, cur, e, q1, hk g _ _ _ (ne g _ _ q2 (by decide)) q2, q3⟩
theorem ne_ty {W : World} {k j : Nat} {cs cs' : Array Value} {ty ty' : TypeId} (h : W.heap[k]? = some (.cells cs ty (0, 0))) (h' : W.heap[j]? = some (.cells cs' ty' (0, 0))) (ht : ty ≠ ty') : k ≠ j := by
  rintro rfl
  rw [h] at h'; injection h' with h'; injection h' with _ h'
  exact ht h'
theorem Reads.inW {P : Program} {md : Region.Mode} {ops : Array Oper} {Q : Exit → Act → World → Prop} {w : World} {m : Nat} (hd : ∀ (j : Nat) (o : Oper) c, ops[j]? = some o → o.op ≠ .defer c) : ∀ {n : Nat} {L : Array Bool} {a : Act}, Reads P md ops Q w n L a → wpAnyIn Fence.wide m P md ops Q n L a w
  | 0, _, _, h => h
  | n + 1, L, a, ⟨h1, h2⟩ => by
    refine ⟨h1, fun i hi => ?_⟩
    obtain ⟨_, o, ho, _⟩ := mem_ready.1 hi
    obtain ⟨v, hv, hr⟩ := h2 i hi o ho
    have hr' := hr.inW hd (m := m)
    unfold wpOpIn
    rw [ho]
    dsimp only
    rcases hv with ⟨hw, hx⟩ | ⟨hw, rfl⟩
    · rw [if_pos hw]
      refine ⟨fun _ _ => trivial, ?_⟩
      rw [Oper.semAt_eq _ _ _ (fun c => hd i o c ho), hx]
      exact hr'
    · rw [if_neg (by rw [hw]; exact Bool.false_ne_true)]
      exact ⟨fun _ _ => trivial, hr'⟩
theorem region_readsW {P : Program} {ops : Array Oper} {Q : Exit → Act → World → Prop} {w : World} {m id : Nat} {a : Act} (hm : P.follows .mixedOrders = true) (hd : noDefer ops = true) (h : Reads P .any ops Q w.drew ops.size (Array.replicate ops.size false) a) : (Code.region id ops true).wpIn Fence.wide m P Q a w := wpIn_region_any hm (h.inW (noDefer_spec hd))
set_option linter.unusedVariables false in
theorem no_panic {P : Program} {c : Code} {K : Act → World → Prop} {Q : Exit → Act → World → Prop} {a : Act} {w : World} (h : c.wp P (Exit.then K fun _ _ _ => False) a w) : c.wp P (Exit.then K Q) a w := Code.wp_mono (by intro e a w h; cases e <;> first | exact h | exact h.elim) h
theorem agg_neq (x y : Ro) (W : World) : (binOp BinOp.neq 37 (.agg #[.int .u32 x.1.toNat, .int .i64 x.2.1, .int .i64 x.2.2]) (.agg #[.int .u32 y.1.toNat, .int .i64 y.2.1, .int .i64 y.2.2])).run Try.prog W = .ok (.bool (decide (x ≠ y))) W := by
  obtain ⟨x1, x2, x3⟩ := x
  obtain ⟨y1, y2, y3⟩ := y
  have e1 : x1 ≠ y1 → ¬ ((x1.toNat : Int) = y1.toNat) := fun h g => h (BitVec.eq_of_toNat_eq (by exact_mod_cast g))
  have e2 : x2 ≠ y2 → ¬ ((x2 : Int) = y2) := fun h g => h (by exact_mod_cast g)
  by_cases h0 : x1 = y1
  · by_cases h1 : x2 = y2
    · by_cases h2 : x3 = y3
      · subst h0 h1 h2; simp [go_sem]
      · subst h0 h1; simp [go_sem, h2]
    · subst h0; simp [go_sem, h1, e2 h1]
  · simp [go_sem, h0, e1 h0]
set_option linter.unusedVariables false in
theorem lk_step {w U W : World} {L pre : List Ro} {x : Ro} {ic N : Nat} (h : LkI w U L ic pre W) (hx : pre ++ [x] <+: L) (hw : w.heap.size ≤ ic) (hU : ic < U.heap.size) :
    KeepsFrom N W (W.setCell ⟨ic, 0, none⟩ (.int .i64 (pre.length + 1))).drew ∧ KC [ic] W (W.setCell ⟨ic, 0, none⟩ (.int .i64 (pre.length + 1))).drew ∧ LkI w U L ic (pre ++ [x]) (W.setCell ⟨ic, 0, none⟩ (.int .i64 (pre.length + 1))).drew := by
  obtain ⟨i1, i2, i3, i4, i5⟩ := h
  have hs : (W.setCell ⟨ic, 0, none⟩ (.int .i64 ((pre.length : Int) + 1))).heap[ic]? = some (.cells #[.int .i64 ((pre.length : Int) + 1)] 3 (0, 0)) := row_setCell i3 0 _
  have hk : KC [ic] W (W.setCell ⟨ic, 0, none⟩ (.int .i64 ((pre.length : Int) + 1))).drew := by
    intro k cs ty fr hk hc
    exact ((Keeps.setCell W ic 0 (.int .i64 ((pre.length : Int) + 1))).block k (lt_of_heap hc) hk).trans hc
  refine ⟨((KeepsOthers.setCell _ _ _).trans (KeepsOthers.drew _)).from _, hk, hx, i2.trans hk, ?_, (i4.setCell hw _).drew, ?_⟩
  · rw [List.length_append]; exact hs
  · refine ⟨by simpa [World.drew] using i5.1, fun k hk hn => ?_⟩
    exact ((Keeps.setCell W ic 0 (.int .i64 ((pre.length : Int) + 1))).block k (Nat.lt_of_lt_of_le hk i5.1) (by simpa using hn)).trans (i5.2 k hk hn)
set_option linter.unusedSimpArgs false in
set_option linter.unnecessarySimpa false in
set_option linter.unusedVariables false in
set_option maxRecDepth 100000 in
set_option maxHeartbeats 8000000 in
theorem looks_any {w : World} {tb : Nat} {t : Tr} {B xb : Nat} {qa : Option Addr} {qc : Nat} (hT : Tab w tb t) (hR : RTab w B xb t.ents qa qc) :
    Calls Try.prog 18 #[ptr tb, ptr xb] w fun e w' => e = .returned (.bool true) ∧ Below w.heap.size w w' := by
  have hfn := func_nil
  refine (callsIn_wide (n := 6)).1 ?_
  refine callsIn_of_wp_marks Try.func18 rfl trivial ?_ rfl
  simp only [Try.ntmps18, List.size_toArray, List.length_cons, List.length_nil, Nat.reduceAdd, Nat.reduceSub, Array.replicate_succ, Array.replicate_zero, List.push_toArray, List.append_toArray, List.nil_append, List.cons_append]
  gi_wp2_with fail
  refine wpIn_loop_rounds 3 ?_
  rw [roundsIn_succ]
  gi_wp2_with (first
    | (refine ⟨trivial, ?_⟩; gi_at_call 21; refine (callsIn_wide.2 (all_any (some ⟨tb, 0, none⟩) _)).mono ?_; rintro e w9 ⟨rfl, rfl⟩; skip)
    | fail)
  obtain ⟨U, hU⟩ : ∃ U, U = (((((w.alloc (.cells #[ptr xb] 25)).alloc (.cells #[.bool false] 4)).alloc (.cells #[.int .i64 0] 3)).alloc (.cells #[.int .i64 0] 3)).alloc (.cells #[ptr tb] 23)).alloc (.cells #[ptr tb] 23) := ⟨_, rfl⟩
  rw [← hU]
  have bU0 : Below w.heap.size w U := by rw [hU]; exact (((((below1 w _).alloc (by simp) _).alloc (by simp; omega) _).alloc (by simp; omega) _).alloc (by simp; omega) _).alloc (by simp; omega) _
  have hbx0 : U.heap[w.heap.size]? = some (.cells #[ptr xb] 25 (0, 0)) := by rw [hU]; exact (heap_alloc_old _ _ (by simp; omega)).trans (five_first w _ _ _ _ _)
  have hrc0 : U.heap[w.heap.size + 1]? = some (.cells #[.bool false] 4 (0, 0)) := by rw [hU]; exact (heap_alloc_old _ _ (by first | (simp; done) | (simp; omega))).trans (five_second w _ _ _ _ _)
  have hrd0 : U.heap[w.heap.size + 1 + 1]? = some (.cells #[.int .i64 0] 3 (0, 0)) := by rw [hU]; exact (heap_alloc_old _ _ (by first | (simp; done) | (simp; omega))).trans (five_third w _ _ _ _ _)
  have hic0 : U.heap[w.heap.size + 1 + 1 + 1]? = some (.cells #[.int .i64 0] 3 (0, 0)) := by rw [hU]; exact (heap_alloc_old _ _ (by first | (simp; done) | (simp; omega))).trans (five_fourth w _ _ _ _ _)
  have hbn0 : U.cell? ⟨w.heap.size + 1 + 1 + 1 + 1 + 1, 0, none⟩ = some (ptr tb) := by
    have := heap_alloc_new (((((w.alloc (.cells #[ptr xb] 25)).alloc (.cells #[.bool false] 4)).alloc (.cells #[.int .i64 0] 3)).alloc (.cells #[.int .i64 0] 3)).alloc (.cells #[ptr tb] 23)) (.cells #[ptr tb] 23)
    rw [hU]
    refine cell_row (g := w.heap.size + 1 + 1 + 1 + 1 + 1) (cs := #[ptr tb]) (t := 23) ?_ 0
    simpa using this
  have TU0 : Tab U tb t := tab_bel hT bU0
  have RU0 : RTab U B xb t.ents qa qc := hR.keep bU0
  have hlen := RU0.len
  clear hU
  rename_i K2 hK2 K1 hK1 K0 hK0
  have nxt0 : ∀ (s44 s45 s46 s47 s48 s49 s50 s51 s52 s53 s54 s55 s56 s57 s58 : Value) (D : Nat) (W : World), U.heap.size ≤ D → KC [(w.heap.size + 1 + 1 + 1)] U W → Below w.heap.size w W → Grw U (w.heap.size + 1 + 1 + 1) W → W.heap[D]? = some (.deferred (some [])) → K1 { tmps := #[ptr tb, ptr xb, undef, ptr w.heap.size, ptr (w.heap.size + 1), ptr (w.heap.size + 1 + 1), ptr (w.heap.size + 1 + 1 + 1), undef, .int .i64 0, .bool true, undef, undef, ptr tb, .func (Fn.func 31) #[] #[ptr (w.heap.size + 1 + 1 + 1 + 1)], .bool false, ptr tb, .func (Fn.func 31) #[] #[ptr (w.heap.size + 1 + 1 + 1 + 1 + 1)], undef, undef, undef, undef, undef, undef, undef, undef, undef, undef, undef, undef, undef, undef, undef, undef, undef, undef, undef, undef, undef, undef, undef, undef, undef, undef, undef, s44, s45, s46, s47, s48, s49, s50, s51, s52, s53, s54, s55, s56, s57, s58, undef, undef, undef, undef, undef, undef, undef, undef, undef], defers := [{ target := .collected D, args := #[] }] } W := by
    intro r44 r45 r46 r47 r48 r49 r50 r51 r52 r53 r54 r55 r56 r57 r58 D0 V hD0 k2 k4 k5 hDD0
    refine hK1 _ _ ?_
    have hbx' := k2 _ _ _ _ (by simpa using (ne_ty hbx0 hic0 (by decide) : w.heap.size ≠ _)) hbx0
    have hrc' := k2 _ _ _ _ (by simpa using (ne_ty hrc0 hic0 (by decide) : w.heap.size + 1 ≠ _)) hrc0
    have hrd' := k2 _ _ _ _ (by simp; try omega) hrd0
    have crd : V.cell? ⟨w.heap.size + 1 + 1, 0, none⟩ = some (.int .i64 0) := cell_row hrd' 0
    have frd := frozen_of_row V _ 0 _ _ hrd'
    gi_wp2_with fail
    rw [roundsIn_succ]
    clear hK0 hK1 K0 crd frd
    gi_wp2_with (first
        | (refine ⟨trivial, ?_⟩; gi_at_call 21; refine (callsIn_wide.2 (all_any (some ⟨tb, 0, none⟩) _)).mono ?_; rintro e w9 ⟨rfl, rfl⟩; skip)
        | fail)
    rename_i K1 hK1 K0 hK0
    obtain ⟨U1, hU1⟩ : ∃ z, z = ((((V.alloc (.cells #[.int .i64 1] 3)).alloc (.cells #[.int .i64 0] 3)).alloc (.cells #[ptr tb] 23)).alloc (.cells #[ptr tb] 23)) := ⟨_, rfl⟩
    rw [← hU1]
    have hVs := k4.size
    have hwU := bU0.size
    have hUV := k5.1
    have hlb := lt_of_heap hbx'
    have hlc := lt_of_heap hrc'
    have old1 : ∀ (k : Nat) (o : Obj), V.heap[k]? = some o → U1.heap[k]? = some o := fun k o h => by rw [hU1]; have := lt_of_heap h; exact (heap_alloc_old _ _ (by simp; omega)).trans ((heap_alloc_old _ _ (by simp; omega)).trans ((heap_alloc_old _ _ (by simp; omega)).trans ((heap_alloc_old _ _ this).trans h)))
    have bU1 : Below w.heap.size w U1 := by rw [hU1]; exact (((k4.alloc hVs _).alloc (by simp; omega) _).alloc (by simp; omega) _).alloc (by simp; omega) _
    have hbx1 := old1 _ _ hbx'
    have hrc1 := old1 _ _ hrc'
    have hDD1 := old1 _ _ hDD0
    have hrd1 : U1.heap[V.heap.size]? = some (.cells #[.int .i64 1] 3 (0, 0)) := by rw [hU1]; exact (heap_alloc_old _ _ (by simp only [World.size_alloc]; omega)).trans ((heap_alloc_old _ _ (by simp only [World.size_alloc]; omega)).trans ((heap_alloc_old _ _ (by simp only [World.size_alloc]; omega)).trans (heap_alloc_new _ _)))
    have hic1 : U1.heap[V.heap.size + 1]? = some (.cells #[.int .i64 0] 3 (0, 0)) := by rw [hU1]; have := heap_alloc_new (V.alloc (.cells #[.int .i64 1] 3)) (.cells #[.int .i64 0] 3); simp only [World.size_alloc] at this; exact (heap_alloc_old _ _ (by simp only [World.size_alloc]; omega)).trans ((heap_alloc_old _ _ (by simp only [World.size_alloc]; omega)).trans this)
    have hbn1 : U1.cell? ⟨V.heap.size + 1 + 1 + 1, 0, none⟩ = some (ptr tb) := by
      have := heap_alloc_new (((V.alloc (.cells #[.int .i64 1] 3)).alloc (.cells #[.int .i64 0] 3)).alloc (.cells #[ptr tb] 23)) (.cells #[ptr tb] 23)
      rw [hU1]
      refine cell_row (g := V.heap.size + 1 + 1 + 1) (cs := #[ptr tb]) (t := 23) ?_ 0
      simpa using this
    have TU1 : Tab U1 tb t := tab_bel hT bU1
    have RU1 : RTab U1 B xb t.ents qa qc := hR.keep bU1
    have sU1 : V.heap.size + 4 = U1.heap.size := by rw [hU1]; simp
    clear hU1 old1 TU0 RU0 hbn0 hrd' k2
    clear hbx0 hrc0 hrd0 hic0 bU0
    have nxt1 : ∀ (s44 s45 s46 s47 s48 s49 s50 s51 s52 s53 s54 s55 s56 s57 s58 : Value) (D : Nat) (W : World), U1.heap.size ≤ D → KC [(V.heap.size + 1)] U1 W → Below w.heap.size w W → Grw U1 (V.heap.size + 1) W → W.heap[D]? = some (.deferred (some [])) → K1 { tmps := #[ptr tb, ptr xb, undef, ptr w.heap.size, ptr (w.heap.size + 1), ptr V.heap.size, ptr (V.heap.size + 1), undef, .int .i64 1, .bool true, .int .i64 0, .int .i64 1, ptr tb, .func (Fn.func 31) #[] #[ptr (V.heap.size + 1 + 1)], .bool false, ptr tb, .func (Fn.func 31) #[] #[ptr (V.heap.size + 1 + 1 + 1)], undef, undef, undef, undef, undef, undef, undef, undef, undef, undef, undef, undef, undef, undef, undef, undef, undef, undef, undef, undef, undef, undef, undef, undef, undef, undef, undef, s44, s45, s46, s47, s48, s49, s50, s51, s52, s53, s54, s55, s56, s57, s58, .int .i64 0, undef, undef, undef, undef, undef, undef, undef, undef], defers := [{ target := .collected D, args := #[] }, { target := .collected D0, args := #[] }] } W := by
      intro s44 s45 s46 s47 s48 s49 s50 s51 s52 s53 s54 s55 s56 s57 s58 D W hD i2 i4 i5 hDD
      refine hK1 _ _ ?_
      have hbx2 := i2 _ _ _ _ (by simpa using (ne_ty hbx1 hic1 (by decide) : w.heap.size ≠ _)) hbx1
      have hrc2 := i2 _ _ _ _ (by simpa using (ne_ty hrc1 hic1 (by decide) : w.heap.size + 1 ≠ _)) hrc1
      have hrd2 := i2 _ _ _ _ (by simp) hrd1
      have hDD2 : W.heap[D0]? = some (.deferred (some [])) := (i5.2 D0 (lt_of_heap hDD1) (by rintro rfl; rw [hic1] at hDD1; cases hDD1)).trans hDD1
      have crd : W.cell? ⟨V.heap.size, 0, none⟩ = some (.int .i64 1) := cell_row hrd2 0
      have frd := frozen_of_row W _ 0 _ _ hrd2
      have hDlt := lt_of_heap hDD
      have hDne : D ≠ D0 := by have := lt_of_heap hDD1; omega
      gi_wp2_with fail
      rw [roundsIn_succ]
      clear hK0 hK1 K0 crd frd
      have hlb2 := lt_of_heap hbx2
      have hlc2 := lt_of_heap hrc2
      have RW2 : RTab W B xb t.ents qa qc := hR.keep i4
      have TW2 : Tab W tb t := tab_bel hT i4
      have cbx : W.cell? ⟨w.heap.size, 0, none⟩ = some (ptr xb) := cell_row hbx2 0
      have crc : W.cell? ⟨w.heap.size + 1, 0, none⟩ = some (.bool false) := cell_row hrc2 0
      have frc := frozen_of_row W _ 0 _ _ hrc2
      have cxb : W.cell? ⟨xb, 0, none⟩ = some (.slice qa t.ents.length qc) := cell_row RW2.blk 0
      gi_wp2_with fail
      rename_i Kr hKr
      rw [wpIn_wide]
      refine no_panic ?_
      have hxb : xb < w.heap.size := lt_of_heap hR.blk
      have i4' : Below w.heap.size w (W.alloc (.cells #[.int .i64 2] 3)).drew := (i4.alloc (by omega) _).drew
      have HL : Hid _ := len_any (tab_bel hT i4')
      obtain ⟨X, hX⟩ : ∃ X, X = W.alloc (.cells #[.int .i64 2] 3) := ⟨_, rfl⟩
      have oldX : ∀ (k : Nat) (o : Obj), W.heap[k]? = some o → X.heap[k]? = some o := fun k o h => by rw [hX]; exact (heap_alloc_old _ _ (lt_of_heap h)).trans h
      have hbxX := oldX _ _ hbx2
      have hrcX := oldX _ _ hrc2
      have hDDX := oldX _ _ hDD
      have hDD0X := oldX _ _ hDD2
      have cbX : X.cell? ⟨w.heap.size, 0, none⟩ = some (ptr xb) := cell_row hbxX 0
      have crX : X.drew.cell? ⟨w.heap.size + 1, 0, none⟩ = some (.bool false) := cell_row (W := X.drew) hrcX 0
      have frX : X.drew.frozen? ⟨w.heap.size + 1, 0, none⟩ = false := frozen_of_row X.drew _ 0 _ _ hrcX
      have cxX : X.cell? ⟨xb, 0, none⟩ = some (.slice qa t.ents.length qc) := cell_row (oldX _ _ RW2.blk) 0
      have bX : Below w.heap.size w X := by rw [hX]; exact i4.alloc (by omega) _
      rw [← hX] at i4' HL ⊢
      clear hX oldX cbx crc frc cxb TW2 RW2
      refine wp_region_held_drew (S := fun Z => Z.cell? ⟨w.heap.size, 0, none⟩ = some (ptr xb) ∧ Z.cell? ⟨xb, 0, none⟩ = some (.slice qa t.ents.length qc)) (by kernel_rfl) ⟨cbX, cxX⟩ (fun hHeld => ?_)
      refine wpAnyH_take (i := 0) (v := ?_) rfl (by kernel_rfl) (by kernel_rfl) (by kernel_rfl) (fun _ _ _ h => h) (Or.inl ⟨by rfl, ?_⟩) (by assumption) ?_
      rotate_left
      · (intro w hSw; (try dsimp only at hSw); go_simp; try with_reducible rfl)
      try simp only [List.getElem_toArray, List.getElem_cons_zero, List.getElem_cons_succ, Act.put, List.setIfInBounds_toArray, List.set_cons_zero, List.set_cons_succ]
      refine wpAnyH_take (i := 2) (v := ?_) rfl (by kernel_rfl) (by kernel_rfl) (by kernel_rfl) (fun _ _ _ h => h) (Or.inl ⟨by rfl, ?_⟩) (by assumption) ?_
      rotate_left
      · (intro w hSw; (try dsimp only at hSw); go_simp; try with_reducible rfl)
      try simp only [List.getElem_toArray, List.getElem_cons_zero, List.getElem_cons_succ, Act.put, List.setIfInBounds_toArray, List.set_cons_zero, List.set_cons_succ]
      refine wpAnyH_take (i := 3) (v := ?_) rfl (by kernel_rfl) (by kernel_rfl) (by kernel_rfl) (fun _ _ _ h => h) (Or.inl ⟨by rfl, ?_⟩) (by assumption) ?_
      rotate_left
      · (intro w hSw; (try dsimp only at hSw); go_simp; try with_reducible rfl)
      try simp only [List.getElem_toArray, List.getElem_cons_zero, List.getElem_cons_succ, Act.put, List.setIfInBounds_toArray, List.set_cons_zero, List.set_cons_succ]
      refine wpAnyH_take (i := 4) (v := ?_) rfl (by kernel_rfl) (by kernel_rfl) (by kernel_rfl) (fun _ _ _ h => h) (Or.inl ⟨by rfl, ?_⟩) (by assumption) ?_
      rotate_left
      · (intro w hSw; (try dsimp only at hSw); go_simp; try with_reducible rfl)
      try simp only [List.getElem_toArray, List.getElem_cons_zero, List.getElem_cons_succ, Act.put, List.setIfInBounds_toArray, List.set_cons_zero, List.set_cons_succ]
      refine wpAnyH_take (i := 5) (v := ?_) rfl (by kernel_rfl) (by kernel_rfl) (by kernel_rfl) (fun _ _ _ h => h) (Or.inl ⟨by rfl, ?_⟩) (by assumption) ?_
      rotate_left
      · (intro w hSw; (try dsimp only at hSw); go_simp; try with_reducible rfl)
      try simp only [List.getElem_toArray, List.getElem_cons_zero, List.getElem_cons_succ, Act.put, List.setIfInBounds_toArray, List.set_cons_zero, List.set_cons_succ]
      refine wpAnyH_take (i := 6) (v := ?_) rfl (by kernel_rfl) (by kernel_rfl) (by kernel_rfl) (fun _ _ _ h => h) (Or.inl ⟨by rfl, ?_⟩) (by assumption) ?_
      rotate_left
      · (intro w hSw; (try dsimp only at hSw); go_simp; try with_reducible rfl)
      try simp only [List.getElem_toArray, List.getElem_cons_zero, List.getElem_cons_succ, Act.put, List.setIfInBounds_toArray, List.set_cons_zero, List.set_cons_succ]
      refine wpAnyH_ready (rs := [1]) (by kernel_rfl) (by simp) ?_
      refine AllReadyH.cons (o := _) rfl (fun K hK => ?_) AllReadyH.nil
      go_simp
      refine Calls.mono HL.out ?_
      rintro e w9 ⟨rfl, rfl⟩
      go_wp2_with fail
      refine hK _ _ hHeld (fun hHeld2 => ?_)
      clear hK K hHeld
      try simp only [List.getElem_toArray, List.getElem_cons_zero, List.getElem_cons_succ, Act.put, List.setIfInBounds_toArray, List.set_cons_zero, List.set_cons_succ]
      refine wpAnyH_take (i := 7) (v := ?_) rfl (by kernel_rfl) (by kernel_rfl) (by kernel_rfl) (fun _ _ _ h => h) (Or.inl ⟨by rfl, ?_⟩) (by assumption) ?_
      rotate_left
      · (intro w hSw; (try dsimp only at hSw); go_simp; try with_reducible rfl)
      try simp only [List.getElem_toArray, List.getElem_cons_zero, List.getElem_cons_succ, Act.put, List.setIfInBounds_toArray, List.set_cons_zero, List.set_cons_succ]
      refine wpAnyH_ready (rs := [8]) (by kernel_rfl) (by simp) ?_
      refine AllReadyH.cons (o := _) rfl (fun K hK => ?_) AllReadyH.nil
      go_wp2_with fail
      have kk := Below.setCell (Below.refl (w.heap.size + 1) X.drew) (p := ⟨w.heap.size + 1, 0, none⟩) (Nat.le_refl _) (.bool true)
      refine hK _ _ ⟨(kk.cell (p := ⟨w.heap.size, 0, none⟩) (Nat.lt_succ_self _)).trans cbX, (kk.cell (p := ⟨xb, 0, none⟩) (Nat.lt_succ_of_lt hxb)).trans cxX⟩ (fun hHeld3 => ?_)
      clear hK K
      try simp only [List.getElem_toArray, List.getElem_cons_zero, List.getElem_cons_succ, Act.put, List.setIfInBounds_toArray, List.set_cons_zero, List.set_cons_succ]
      refine wpAnyH_done (by kernel_rfl) ?_ _
      refine hKr _ _ ?_
      gi_wp2_with fail
      have hY1 : (X.setCell ⟨w.heap.size + 1, 0, none⟩ (.bool true)).drew.heap[D]? = some (.deferred (some [])) := (KeepsOthers.setCell X ⟨w.heap.size + 1, 0, none⟩ (.bool true)).same D _ hDDX rfl
      have hY2 : (X.setCell ⟨w.heap.size + 1, 0, none⟩ (.bool true)).drew.heap[D0]? = some (.deferred (some [])) := (KeepsOthers.setCell X ⟨w.heap.size + 1, 0, none⟩ (.bool true)).same D0 _ hDD0X rfl
      have cY : (X.setCell ⟨w.heap.size + 1, 0, none⟩ (.bool true)).drew.cell? ⟨w.heap.size + 1, 0, none⟩ = some (.bool true) := World.cell?_setCell_same' X ⟨w.heap.size + 1, 0, none⟩ (.bool true) (by rw [show X.cell? ⟨w.heap.size + 1, 0, none⟩ = some (.bool false) from crX]; rfl)
      have bY : Below w.heap.size w (X.setCell ⟨w.heap.size + 1, 0, none⟩ (.bool true)).drew := (bX.setCell (p := ⟨w.heap.size + 1, 0, none⟩) (Nat.le_succ _) _).drew
      obtain ⟨Y, hYe⟩ : ∃ Y, Y = (X.setCell ⟨w.heap.size + 1, 0, none⟩ (.bool true)).drew := ⟨_, rfl⟩
      rw [← hYe] at hY1 hY2 cY bY ⊢
      clear hYe
      have hY3 : (Y.putObj D (.deferred none)).heap[D0]? = some (.deferred (some [])) := by simpa [World.putObj, Array.getElem?_setIfInBounds, hDne] using hY2
      refine ⟨by simp, .inl ⟨_, _, rfl, run_takeDeferred hY1, ?_⟩⟩
      refine ⟨by simp, .inl ⟨_, _, rfl, run_takeDeferred hY3, ?_⟩⟩
      have hc1 := cell_kept cY (grownBy_putObj' Y D (.deferred none)) (fun r e => by cases e; exact ⟨_, hY1, rfl⟩)
      have hc2 := cell_kept hc1 (grownBy_putObj' _ D0 (.deferred none)) (fun r e => by cases e; exact ⟨_, hY3, rfl⟩)
      refine ⟨.bool true, ?_, rfl, bY.trans ((belowK_b (w := w) (Nat.le_refl _) _ D _ _ (by omega) hY1 rfl rfl).trans (belowK_b (w := w) (Nat.le_refl _) _ D0 _ _ (by omega) hY3 rfl rfl))⟩
      simp [results, Try.f18, go_sem, hc2]
    have fin1 : ∀ (D : Nat) (pre : List Ro) (W : World), U1.heap.size ≤ D → LkI w U1 t.ents (V.heap.size + 1) pre W → (pre = t.ents ∨ ((1 : Int) = 0 ∧ pre.length = 2)) → W.heap[D]? = some (.deferred (some [])) → K0 { tmps := #[ptr tb, ptr xb, undef, ptr w.heap.size, ptr (w.heap.size + 1), ptr V.heap.size, ptr (V.heap.size + 1), undef, .int .i64 1, .bool true, .int .i64 0, .int .i64 1, ptr tb, .func (Fn.func 31) #[] #[ptr (V.heap.size + 1 + 1)], .bool false, ptr tb, .func (Fn.func 31) #[] #[ptr (V.heap.size + 1 + 1 + 1)], undef, undef, undef, undef, undef, undef, undef, undef, undef, undef, undef, undef, undef, undef, undef, undef, undef, undef, undef, undef, undef, undef, undef, undef, undef, undef, undef, r44, r45, r46, r47, r48, r49, r50, r51, r52, r53, r54, r55, r56, r57, r58, .int .i64 0, undef, undef, undef, undef, undef, undef, undef, undef], defers := [{ target := .collected D, args := #[] }, { target := .collected D0, args := #[] }] } W := by
      rintro D pre W hD ⟨i1, i2, i3, i4, i5⟩ hor hDD
      refine hK0 _ _ ?_
      have RW := rtab_kc RU1 i2 (by intro z hz; simp at hz; subst hz; exact ⟨_, hic1⟩)
      have nbx : (w.heap.size) ≠ (V.heap.size + 1) := ne_ty hbx1 hic1 (by decide)
      have nrd : (V.heap.size) ≠ (V.heap.size + 1) := by omega
      have cbx : W.cell? ⟨(w.heap.size), 0, none⟩ = some (ptr xb) := cell_row (i2 _ _ _ _ (by simpa using nbx) hbx1) 0
      have crd : W.cell? ⟨(V.heap.size), 0, none⟩ = some (.int .i64 1) := cell_row (i2 _ _ _ _ (by simpa using nrd) hrd1) 0
      have cic : W.cell? ⟨(V.heap.size + 1), 0, none⟩ = some (.int .i64 pre.length) := cell_row i3 0
      have cxb : W.cell? ⟨xb, 0, none⟩ = some (.slice qa t.ents.length qc) := cell_row RW.blk 0
      by_cases hpl : pre.length = t.ents.length
      · rw [hpl] at cic
        gi_wp2
        refine region_readsW (by kernel_rfl) (by kernel_rfl) ?_
        refine Reads.take (i := 0) (v := ?_) rfl (by kernel_rfl) (by kernel_rfl) (by kernel_rfl) (Or.inl ⟨by rfl, ?_⟩) ?_
        rotate_left
        · (go_simp; try with_reducible rfl)
        try simp only [List.getElem_toArray, List.getElem_cons_zero, List.getElem_cons_succ, Act.put, List.setIfInBounds_toArray, List.set_cons_zero, List.set_cons_succ]
        refine Reads.take (i := 1) (v := ?_) rfl (by kernel_rfl) (by kernel_rfl) (by kernel_rfl) (Or.inl ⟨by rfl, ?_⟩) ?_
        rotate_left
        · (go_simp; try with_reducible rfl)
        try simp only [List.getElem_toArray, List.getElem_cons_zero, List.getElem_cons_succ, Act.put, List.setIfInBounds_toArray, List.set_cons_zero, List.set_cons_succ]
        refine Reads.take (i := 2) (v := ?_) rfl (by kernel_rfl) (by kernel_rfl) (by kernel_rfl) (Or.inl ⟨by rfl, ?_⟩) ?_
        rotate_left
        · (go_simp; try with_reducible rfl)
        try simp only [List.getElem_toArray, List.getElem_cons_zero, List.getElem_cons_succ, Act.put, List.setIfInBounds_toArray, List.set_cons_zero, List.set_cons_succ]
        refine Reads.take (i := 3) (v := ?_) rfl (by kernel_rfl) (by kernel_rfl) (by kernel_rfl) (Or.inl ⟨by rfl, ?_⟩) ?_
        rotate_left
        · (go_simp; try with_reducible rfl)
        try simp only [List.getElem_toArray, List.getElem_cons_zero, List.getElem_cons_succ, Act.put, List.setIfInBounds_toArray, List.set_cons_zero, List.set_cons_succ]
        refine Reads.take (i := 4) (v := ?_) rfl (by kernel_rfl) (by kernel_rfl) (by kernel_rfl) (Or.inl ⟨by rfl, ?_⟩) ?_
        rotate_left
        · (go_simp; try with_reducible rfl)
        try simp only [List.getElem_toArray, List.getElem_cons_zero, List.getElem_cons_succ, Act.put, List.setIfInBounds_toArray, List.set_cons_zero, List.set_cons_succ]
        refine Reads.take (i := 5) (v := ?_) rfl (by kernel_rfl) (by kernel_rfl) (by kernel_rfl) (Or.inl ⟨by rfl, ?_⟩) ?_
        rotate_left
        · (go_simp; try with_reducible rfl)
        try simp only [List.getElem_toArray, List.getElem_cons_zero, List.getElem_cons_succ, Act.put, List.setIfInBounds_toArray, List.set_cons_zero, List.set_cons_succ]
        refine Reads.take (i := 6) (v := ?_) rfl (by kernel_rfl) (by kernel_rfl) (by kernel_rfl) (Or.inl ⟨by rfl, ?_⟩) ?_
        rotate_left
        · (go_simp; try with_reducible rfl)
        try simp only [List.getElem_toArray, List.getElem_cons_zero, List.getElem_cons_succ, Act.put, List.setIfInBounds_toArray, List.set_cons_zero, List.set_cons_succ]
        refine Reads.take (i := 7) (v := ?_) rfl (by kernel_rfl) (by kernel_rfl) (by kernel_rfl) (Or.inl ⟨by rfl, ?_⟩) ?_
        rotate_left
        · (go_simp; try with_reducible rfl)
        try simp only [List.getElem_toArray, List.getElem_cons_zero, List.getElem_cons_succ, Act.put, List.setIfInBounds_toArray, List.set_cons_zero, List.set_cons_succ]
        refine Reads.take (i := 8) (v := undef) rfl (by kernel_rfl) (by kernel_rfl) (by kernel_rfl) (Or.inr ⟨by rfl, rfl⟩) ?_
        try simp only [List.getElem_toArray, List.getElem_cons_zero, List.getElem_cons_succ, Act.put, List.setIfInBounds_toArray, List.set_cons_zero, List.set_cons_succ]
        refine Reads.take (i := 9) (v := undef) rfl (by kernel_rfl) (by kernel_rfl) (by kernel_rfl) (Or.inr ⟨by rfl, rfl⟩) ?_
        try simp only [List.getElem_toArray, List.getElem_cons_zero, List.getElem_cons_succ, Act.put, List.setIfInBounds_toArray, List.set_cons_zero, List.set_cons_succ]
        refine Reads.take (i := 10) (v := undef) rfl (by kernel_rfl) (by kernel_rfl) (by kernel_rfl) (Or.inr ⟨by rfl, rfl⟩) ?_
        try simp only [List.getElem_toArray, List.getElem_cons_zero, List.getElem_cons_succ, Act.put, List.setIfInBounds_toArray, List.set_cons_zero, List.set_cons_succ]
        refine Reads.take (i := 11) (v := undef) rfl (by kernel_rfl) (by kernel_rfl) (by kernel_rfl) (Or.inr ⟨by rfl, rfl⟩) ?_
        try simp only [List.getElem_toArray, List.getElem_cons_zero, List.getElem_cons_succ, Act.put, List.setIfInBounds_toArray, List.set_cons_zero, List.set_cons_succ]
        refine Reads.take (i := 12) (v := undef) rfl (by kernel_rfl) (by kernel_rfl) (by kernel_rfl) (Or.inr ⟨by rfl, rfl⟩) ?_
        try simp only [List.getElem_toArray, List.getElem_cons_zero, List.getElem_cons_succ, Act.put, List.setIfInBounds_toArray, List.set_cons_zero, List.set_cons_succ]
        refine Reads.take (i := 13) (v := undef) rfl (by kernel_rfl) (by kernel_rfl) (by kernel_rfl) (Or.inr ⟨by rfl, rfl⟩) ?_
        try simp only [List.getElem_toArray, List.getElem_cons_zero, List.getElem_cons_succ, Act.put, List.setIfInBounds_toArray, List.set_cons_zero, List.set_cons_succ]
        refine Reads.take (i := 14) (v := ?_) rfl (by kernel_rfl) (by kernel_rfl) (by kernel_rfl) (Or.inl ⟨by rfl, ?_⟩) ?_
        rotate_left
        · (go_simp; try with_reducible rfl)
        try simp only [List.getElem_toArray, List.getElem_cons_zero, List.getElem_cons_succ, Act.put, List.setIfInBounds_toArray, List.set_cons_zero, List.set_cons_succ]
        refine Reads.done (by kernel_rfl) ?_ _
        gi_wp2
        exact nxt1 _ _ _ _ _ _ _ _ _ _ _ _ _ _ _ D _ hD (fun k cs ty fr hk h => i2 k cs ty fr hk h) i4.drew i5 hDD
      · exfalso; rcases hor with h | h; exact hpl (by rw [h]); omega
    refine wpIn_rangeFunc_ownH (α := Ro) rfl (by omega) (gf := 31) (lb := #[ptr (V.heap.size + 1 + 1 + 1)]) rfl trivial (enters_of Try.func31 (by kernel_rfl) rfl)
      (all1_any (6 - 1) (V.heap.size + 1 + 1 + 1) [(V.heap.size + 1)] U1 tb t hbn1 TU1 (by intro z hz; simp at hz; subst hz; exact lt_of_heap hic1) (by omega)) KC.trans (fun W l o o' _ h1 h2 _ => KC.put W l o o' h1 h2) (Below.refl _ _) (fun _ => rfl)
      (LkI w U1 t.ents (V.heap.size + 1)) (LkX w U1 t.ents (V.heap.size + 1) 1 2) (lkI_own bU1.size) (lkX_own bU1.size)
      ⟨List.nil_prefix, fun _ _ _ _ _ h => h, hic1, bU1, Grw.refl _ _⟩
      (fun x a' W => ∃ Bx, U1.heap.size ≤ Bx ∧ W.heap[Bx]? = some (.cells #[.int .u32 x.1.toNat, .int .i64 x.2.1, .int .i64 x.2.2] 37 (0, 0)) ∧ a' = { tmps := #[ptr tb, ptr xb, undef, ptr w.heap.size, ptr (w.heap.size + 1), ptr V.heap.size, ptr (V.heap.size + 1), ptr Bx, .int .i64 1, .bool true, .int .i64 0, .int .i64 1, ptr tb, .func (Fn.func 31) #[] #[ptr (V.heap.size + 1 + 1)], .bool false, ptr tb, .func (Fn.func 31) #[] #[ptr (V.heap.size + 1 + 1 + 1)], .agg #[.int .u32 x.1.toNat, .int .i64 x.2.1, .int .i64 x.2.2], undef, undef, undef, undef, undef, undef, undef, undef, undef, undef, undef, undef, undef, undef, undef, undef, undef, undef, undef, undef, undef, undef, undef, undef, undef, undef, r44, r45, r46, r47, r48, r49, r50, r51, r52, r53, r54, r55, r56, r57, r58, .int .i64 0, undef, undef, undef, undef, undef, undef, undef, undef], defers := [] })
      (fun x a' _ W W' row h hg hr => by obtain ⟨Bx, h1, h2, h3⟩ := h; exact ⟨Bx, h1, row_own h2 hg (fun r e => (hr r e).2), h3⟩) ?assign ?body ?done ?stop
    case assign =>
      rintro l pre x W K ⟨i1, i2, i3, i4, i5⟩ hK
      dsimp only [encR]
      gi_wp2
      exact hK _ _ ((KeepsOthers.alloc _ _).from _) (kc_alloc _ _ _) ⟨i1, i2.trans (kc_alloc _ _ _), (heap_alloc_old _ _ (lt_of_heap i3)).trans i3, i4.alloc i4.size _, i5.alloc _⟩ ⟨W.heap.size, i5.1, heap_alloc_new _ _, rfl⟩
    case body =>
      rintro l pre x a' W hl - ⟨i1, i2, i3, i4, i5⟩ ⟨Bx, j1, j2, rfl⟩ hlt
      have RW := rtab_kc RU1 i2 (by intro z hz; simp at hz; subst hz; exact ⟨_, hic1⟩)
      obtain ⟨y, hy⟩ := pre_lt i1 hlt
      obtain ⟨g, rfl, e0, e1, e2⟩ := RW.at hy
      have nbx : (w.heap.size) ≠ (V.heap.size + 1) := ne_ty hbx1 hic1 (by decide)
      have nrc : (w.heap.size + 1) ≠ (V.heap.size + 1) := ne_ty hrc1 hic1 (by decide)
      have nrd : (V.heap.size) ≠ (V.heap.size + 1) := by omega
      have cbx : W.cell? ⟨(w.heap.size), 0, none⟩ = some (ptr xb) := cell_row (i2 _ _ _ _ (by simpa using nbx) hbx1) 0
      have crd : W.cell? ⟨(V.heap.size), 0, none⟩ = some (.int .i64 1) := cell_row (i2 _ _ _ _ (by simpa using nrd) hrd1) 0
      have crc : W.cell? ⟨(w.heap.size + 1), 0, none⟩ = some (.bool false) := cell_row (i2 _ _ _ _ (by simpa using nrc) hrc1) 0
      have frc := frozen_of_row W _ 0 _ _ (i2 _ _ _ _ (by simpa using nrc) hrc1)
      have cic : W.cell? ⟨(V.heap.size + 1), 0, none⟩ = some (.int .i64 pre.length) := cell_row i3 0
      have fic := frozen_of_row W _ 0 _ _ i3
      have cxb : W.cell? ⟨xb, 0, none⟩ = some (.slice (some ⟨g, 0, none⟩) t.ents.length qc) := cell_row RW.blk 0
      have b0 : W.cell? ⟨Bx, 0, none⟩ = some (.int .u32 x.1.toNat) := cell_row j2 0
      have b1 : W.cell? ⟨Bx, 1, none⟩ = some (.int .i64 x.2.1) := cell_row j2 1
      have b2 : W.cell? ⟨Bx, 2, none⟩ = some (.int .i64 x.2.2) := cell_row j2 2
      have hI1 : (pre.length : Int) < (t.ents.length : Int) := by omega
      have hI2 : (pre.length : Int) ≤ 274877906944 := by omega
      have hI3 : (0 : Int) ≤ (pre.length : Int) := by omega
      have hI4 : ¬ (t.ents.length : Int) ≤ (pre.length : Int) := by omega
      have hdec : ∀ {i : Decidable (t.ents.length ≤ pre.length)}, @decide _ i = false := by intro i; exact decide_eq_false (by omega)
      by_cases hxy : x = y
      · subst hxy
        gi_wp2
        refine region_reads (by kernel_rfl) (by kernel_rfl) ?_
        refine Reads.take (i := 0) (v := ?_) rfl (by kernel_rfl) (by kernel_rfl) (by kernel_rfl) (Or.inl ⟨by rfl, ?_⟩) ?_
        rotate_left
        · (go_simp; try with_reducible rfl)
        try simp only [List.getElem_toArray, List.getElem_cons_zero, List.getElem_cons_succ, Act.put, List.setIfInBounds_toArray, List.set_cons_zero, List.set_cons_succ]
        refine Reads.take (i := 1) (v := ?_) rfl (by kernel_rfl) (by kernel_rfl) (by kernel_rfl) (Or.inl ⟨by rfl, ?_⟩) ?_
        rotate_left
        · (go_simp; try with_reducible rfl)
        try simp only [List.getElem_toArray, List.getElem_cons_zero, List.getElem_cons_succ, Act.put, List.setIfInBounds_toArray, List.set_cons_zero, List.set_cons_succ]
        refine Reads.take (i := 2) (v := ?_) rfl (by kernel_rfl) (by kernel_rfl) (by kernel_rfl) (Or.inl ⟨by rfl, ?_⟩) ?_
        rotate_left
        · (go_simp; try with_reducible rfl)
        try simp only [List.getElem_toArray, List.getElem_cons_zero, List.getElem_cons_succ, Act.put, List.setIfInBounds_toArray, List.set_cons_zero, List.set_cons_succ]
        refine Reads.take (i := 3) (v := ?_) rfl (by kernel_rfl) (by kernel_rfl) (by kernel_rfl) (Or.inl ⟨by rfl, ?_⟩) ?_
        rotate_left
        · (go_simp; try with_reducible rfl)
        try simp only [List.getElem_toArray, List.getElem_cons_zero, List.getElem_cons_succ, Act.put, List.setIfInBounds_toArray, List.set_cons_zero, List.set_cons_succ]
        refine Reads.take (i := 4) (v := ?_) rfl (by kernel_rfl) (by kernel_rfl) (by kernel_rfl) (Or.inl ⟨by rfl, ?_⟩) ?_
        rotate_left
        · (go_simp; try with_reducible rfl)
        try simp only [List.getElem_toArray, List.getElem_cons_zero, List.getElem_cons_succ, Act.put, List.setIfInBounds_toArray, List.set_cons_zero, List.set_cons_succ]
        refine Reads.take (i := 5) (v := ?_) rfl (by kernel_rfl) (by kernel_rfl) (by kernel_rfl) (Or.inl ⟨by rfl, ?_⟩) ?_
        rotate_left
        · (go_simp; try with_reducible rfl)
        try simp only [List.getElem_toArray, List.getElem_cons_zero, List.getElem_cons_succ, Act.put, List.setIfInBounds_toArray, List.set_cons_zero, List.set_cons_succ]
        refine Reads.take (i := 6) (v := ?_) rfl (by kernel_rfl) (by kernel_rfl) (by kernel_rfl) (Or.inl ⟨by rfl, ?_⟩) ?_
        rotate_left
        · (go_simp; try with_reducible rfl)
        try simp only [List.getElem_toArray, List.getElem_cons_zero, List.getElem_cons_succ, Act.put, List.setIfInBounds_toArray, List.set_cons_zero, List.set_cons_succ]
        try simp only [hdec]
        refine Reads.take (i := 7) (v := ?_) rfl (by kernel_rfl) (by kernel_rfl) (by kernel_rfl) (Or.inl ⟨by rfl, ?_⟩) ?_
        rotate_left
        · (go_simp; try with_reducible rfl)
        try simp only [List.getElem_toArray, List.getElem_cons_zero, List.getElem_cons_succ, Act.put, List.setIfInBounds_toArray, List.set_cons_zero, List.set_cons_succ]
        refine Reads.take (i := 8) (v := ?_) rfl (by kernel_rfl) (by kernel_rfl) (by kernel_rfl) (Or.inl ⟨by rfl, ?_⟩) ?_
        rotate_left
        · (go_simp; try with_reducible rfl)
        try simp only [List.getElem_toArray, List.getElem_cons_zero, List.getElem_cons_succ, Act.put, List.setIfInBounds_toArray, List.set_cons_zero, List.set_cons_succ]
        refine Reads.take (i := 9) (v := ?_) rfl (by kernel_rfl) (by kernel_rfl) (by kernel_rfl) (Or.inl ⟨by rfl, ?_⟩) ?_
        rotate_left
        · (go_simp; try with_reducible rfl)
        try simp only [List.getElem_toArray, List.getElem_cons_zero, List.getElem_cons_succ, Act.put, List.setIfInBounds_toArray, List.set_cons_zero, List.set_cons_succ]
        refine Reads.take (i := 10) (v := ?_) rfl (by kernel_rfl) (by kernel_rfl) (by kernel_rfl) (Or.inl ⟨by rfl, ?_⟩) ?_
        rotate_left
        · (go_simp; try with_reducible rfl)
        try simp only [List.getElem_toArray, List.getElem_cons_zero, List.getElem_cons_succ, Act.put, List.setIfInBounds_toArray, List.set_cons_zero, List.set_cons_succ]
        refine Reads.take (i := 11) (v := ?_) rfl (by kernel_rfl) (by kernel_rfl) (by kernel_rfl) (Or.inl ⟨by rfl, ?_⟩) ?_
        rotate_left
        · (go_simp; try with_reducible rfl)
        try simp only [List.getElem_toArray, List.getElem_cons_zero, List.getElem_cons_succ, Act.put, List.setIfInBounds_toArray, List.set_cons_zero, List.set_cons_succ]
        refine Reads.take (i := 12) (v := ?_) rfl (by kernel_rfl) (by kernel_rfl) (by kernel_rfl) (Or.inl ⟨by rfl, ?_⟩) ?_
        rotate_left
        · (go_simp; try with_reducible rfl)
        try simp only [List.getElem_toArray, List.getElem_cons_zero, List.getElem_cons_succ, Act.put, List.setIfInBounds_toArray, List.set_cons_zero, List.set_cons_succ]
        refine Reads.take (i := 13) (v := ?_) rfl (by kernel_rfl) (by kernel_rfl) (by kernel_rfl) (Or.inl ⟨by rfl, ?_⟩) ?_
        rotate_left
        · (go_simp; try with_reducible rfl)
        try simp only [List.getElem_toArray, List.getElem_cons_zero, List.getElem_cons_succ, Act.put, List.setIfInBounds_toArray, List.set_cons_zero, List.set_cons_succ]
        refine Reads.take (i := 14) (v := ?_) rfl (by kernel_rfl) (by kernel_rfl) (by kernel_rfl) (Or.inl ⟨by rfl, ?_⟩) ?_
        rotate_left
        · (go_simp; try with_reducible rfl)
        try simp only [List.getElem_toArray, List.getElem_cons_zero, List.getElem_cons_succ, Act.put, List.setIfInBounds_toArray, List.set_cons_zero, List.set_cons_succ]
        refine Reads.take (i := 15) (v := ?_) rfl (by kernel_rfl) (by kernel_rfl) (by kernel_rfl) (Or.inl ⟨by rfl, ?_⟩) ?_
        rotate_left
        · (go_simp; try with_reducible rfl)
        try simp only [List.getElem_toArray, List.getElem_cons_zero, List.getElem_cons_succ, Act.put, List.setIfInBounds_toArray, List.set_cons_zero, List.set_cons_succ]
        refine Reads.take (i := 16) (v := ?_) rfl (by kernel_rfl) (by kernel_rfl) (by kernel_rfl) (Or.inl ⟨by rfl, ?_⟩) ?_
        rotate_left
        · (go_simp; try with_reducible rfl)
        try simp only [List.getElem_toArray, List.getElem_cons_zero, List.getElem_cons_succ, Act.put, List.setIfInBounds_toArray, List.set_cons_zero, List.set_cons_succ]
        refine Reads.take (i := 17) (v := ?_) rfl (by kernel_rfl) (by kernel_rfl) (by kernel_rfl) (Or.inl ⟨by rfl, ?_⟩) ?_
        rotate_left
        · (go_simp; try with_reducible rfl)
        try simp only [List.getElem_toArray, List.getElem_cons_zero, List.getElem_cons_succ, Act.put, List.setIfInBounds_toArray, List.set_cons_zero, List.set_cons_succ]
        refine Reads.done (by kernel_rfl) ?_ _
        gi_wp2
        exact lk_step ⟨i1, i2, i3, i4, i5⟩ ((prefix_at i1).2 hy) (by omega) (lt_of_heap hic1)
      · have hne := agg_neq x y
        have hdx : decide (x ≠ y) = true := by simpa using hxy
        rw [hdx] at hne
        gi_wp2
        refine region_reads (by kernel_rfl) (by kernel_rfl) ?_
        refine Reads.take (i := 0) (v := ?_) rfl (by kernel_rfl) (by kernel_rfl) (by kernel_rfl) (Or.inl ⟨by rfl, ?_⟩) ?_
        rotate_left
        · (go_simp; try with_reducible rfl)
        try simp only [List.getElem_toArray, List.getElem_cons_zero, List.getElem_cons_succ, Act.put, List.setIfInBounds_toArray, List.set_cons_zero, List.set_cons_succ]
        refine Reads.take (i := 1) (v := ?_) rfl (by kernel_rfl) (by kernel_rfl) (by kernel_rfl) (Or.inl ⟨by rfl, ?_⟩) ?_
        rotate_left
        · (go_simp; try with_reducible rfl)
        try simp only [List.getElem_toArray, List.getElem_cons_zero, List.getElem_cons_succ, Act.put, List.setIfInBounds_toArray, List.set_cons_zero, List.set_cons_succ]
        refine Reads.take (i := 2) (v := ?_) rfl (by kernel_rfl) (by kernel_rfl) (by kernel_rfl) (Or.inl ⟨by rfl, ?_⟩) ?_
        rotate_left
        · (go_simp; try with_reducible rfl)
        try simp only [List.getElem_toArray, List.getElem_cons_zero, List.getElem_cons_succ, Act.put, List.setIfInBounds_toArray, List.set_cons_zero, List.set_cons_succ]
        refine Reads.take (i := 3) (v := ?_) rfl (by kernel_rfl) (by kernel_rfl) (by kernel_rfl) (Or.inl ⟨by rfl, ?_⟩) ?_
        rotate_left
        · (go_simp; try with_reducible rfl)
        try simp only [List.getElem_toArray, List.getElem_cons_zero, List.getElem_cons_succ, Act.put, List.setIfInBounds_toArray, List.set_cons_zero, List.set_cons_succ]
        refine Reads.take (i := 4) (v := ?_) rfl (by kernel_rfl) (by kernel_rfl) (by kernel_rfl) (Or.inl ⟨by rfl, ?_⟩) ?_
        rotate_left
        · (go_simp; try with_reducible rfl)
        try simp only [List.getElem_toArray, List.getElem_cons_zero, List.getElem_cons_succ, Act.put, List.setIfInBounds_toArray, List.set_cons_zero, List.set_cons_succ]
        refine Reads.take (i := 5) (v := ?_) rfl (by kernel_rfl) (by kernel_rfl) (by kernel_rfl) (Or.inl ⟨by rfl, ?_⟩) ?_
        rotate_left
        · (go_simp; try with_reducible rfl)
        try simp only [List.getElem_toArray, List.getElem_cons_zero, List.getElem_cons_succ, Act.put, List.setIfInBounds_toArray, List.set_cons_zero, List.set_cons_succ]
        refine Reads.take (i := 6) (v := ?_) rfl (by kernel_rfl) (by kernel_rfl) (by kernel_rfl) (Or.inl ⟨by rfl, ?_⟩) ?_
        rotate_left
        · (go_simp; try with_reducible rfl)
        try simp only [List.getElem_toArray, List.getElem_cons_zero, List.getElem_cons_succ, Act.put, List.setIfInBounds_toArray, List.set_cons_zero, List.set_cons_succ]
        try simp only [hdec]
        refine Reads.take (i := 7) (v := ?_) rfl (by kernel_rfl) (by kernel_rfl) (by kernel_rfl) (Or.inl ⟨by rfl, ?_⟩) ?_
        rotate_left
        · (go_simp; try with_reducible rfl)
        try simp only [List.getElem_toArray, List.getElem_cons_zero, List.getElem_cons_succ, Act.put, List.setIfInBounds_toArray, List.set_cons_zero, List.set_cons_succ]
        refine Reads.take (i := 8) (v := ?_) rfl (by kernel_rfl) (by kernel_rfl) (by kernel_rfl) (Or.inl ⟨by rfl, ?_⟩) ?_
        rotate_left
        · (go_simp; try with_reducible rfl)
        try simp only [List.getElem_toArray, List.getElem_cons_zero, List.getElem_cons_succ, Act.put, List.setIfInBounds_toArray, List.set_cons_zero, List.set_cons_succ]
        refine Reads.take (i := 9) (v := ?_) rfl (by kernel_rfl) (by kernel_rfl) (by kernel_rfl) (Or.inl ⟨by rfl, ?_⟩) ?_
        rotate_left
        · (go_simp; try with_reducible rfl)
        try simp only [List.getElem_toArray, List.getElem_cons_zero, List.getElem_cons_succ, Act.put, List.setIfInBounds_toArray, List.set_cons_zero, List.set_cons_succ]
        refine Reads.take (i := 10) (v := ?_) rfl (by kernel_rfl) (by kernel_rfl) (by kernel_rfl) (Or.inl ⟨by rfl, ?_⟩) ?_
        rotate_left
        · (go_simp; try with_reducible rfl)
        try simp only [List.getElem_toArray, List.getElem_cons_zero, List.getElem_cons_succ, Act.put, List.setIfInBounds_toArray, List.set_cons_zero, List.set_cons_succ]
        refine Reads.take (i := 11) (v := ?_) rfl (by kernel_rfl) (by kernel_rfl) (by kernel_rfl) (Or.inl ⟨by rfl, ?_⟩) ?_
        rotate_left
        · (go_simp; try with_reducible rfl)
        try simp only [List.getElem_toArray, List.getElem_cons_zero, List.getElem_cons_succ, Act.put, List.setIfInBounds_toArray, List.set_cons_zero, List.set_cons_succ]
        refine Reads.take (i := 12) (v := ?_) rfl (by kernel_rfl) (by kernel_rfl) (by kernel_rfl) (Or.inl ⟨by rfl, ?_⟩) ?_
        rotate_left
        · (go_simp; try with_reducible rfl)
        try simp only [List.getElem_toArray, List.getElem_cons_zero, List.getElem_cons_succ, Act.put, List.setIfInBounds_toArray, List.set_cons_zero, List.set_cons_succ]
        refine Reads.take (i := 13) (v := ?_) rfl (by kernel_rfl) (by kernel_rfl) (by kernel_rfl) (Or.inl ⟨by rfl, ?_⟩) ?_
        rotate_left
        · (go_simp; try with_reducible rfl)
        try simp only [List.getElem_toArray, List.getElem_cons_zero, List.getElem_cons_succ, Act.put, List.setIfInBounds_toArray, List.set_cons_zero, List.set_cons_succ]
        refine Reads.take (i := 14) (v := ?_) rfl (by kernel_rfl) (by kernel_rfl) (by kernel_rfl) (Or.inl ⟨by rfl, ?_⟩) ?_
        rotate_left
        · (go_simp; try with_reducible rfl)
        try simp only [List.getElem_toArray, List.getElem_cons_zero, List.getElem_cons_succ, Act.put, List.setIfInBounds_toArray, List.set_cons_zero, List.set_cons_succ]
        refine Reads.take (i := 15) (v := ?_) rfl (by kernel_rfl) (by kernel_rfl) (by kernel_rfl) (Or.inl ⟨by rfl, ?_⟩) ?_
        rotate_left
        · (go_simp; try with_reducible rfl)
        try simp only [List.getElem_toArray, List.getElem_cons_zero, List.getElem_cons_succ, Act.put, List.setIfInBounds_toArray, List.set_cons_zero, List.set_cons_succ]
        refine Reads.take (i := 16) (v := .bool true) rfl (by kernel_rfl) (by kernel_rfl) (by kernel_rfl) (Or.inl ⟨by rfl, ?_⟩) ?_
        · simp [hne, go_sem]
        try simp only [List.getElem_toArray, List.getElem_cons_zero, List.getElem_cons_succ, Act.put, List.setIfInBounds_toArray, List.set_cons_zero, List.set_cons_succ]
        refine Reads.take (i := 17) (v := ?_) rfl (by kernel_rfl) (by kernel_rfl) (by kernel_rfl) (Or.inl ⟨by rfl, ?_⟩) ?_
        rotate_left
        · (go_simp; try with_reducible rfl)
        try simp only [List.getElem_toArray, List.getElem_cons_zero, List.getElem_cons_succ, Act.put, List.setIfInBounds_toArray, List.set_cons_zero, List.set_cons_succ]
        refine Reads.done (by kernel_rfl) ?_ _
        gi_wp2
        exact ⟨((KeepsOthers.setCell _ _ _).trans (KeepsOthers.drew _)).from _, .inl ⟨rfl, fun hp => hxy (by have := (prefix_at i1).1 hp; rw [hy] at this; injection this with this; exact this.symm)⟩⟩
    case done =>
      rintro D xs W hD rfl hI hDD
      exact fin1 D _ W hD hI (.inl rfl) hDD
    case stop =>
      rintro D c pre W hD hp hX hDD
      rcases hX with ⟨rfl, hX⟩ | ⟨rfl, h2, h3, h4⟩
      · exact absurd hp hX
      · exfalso; omega
  have fin0 : ∀ (D : Nat) (pre : List Ro) (W : World), U.heap.size ≤ D → LkI w U t.ents (w.heap.size + 1 + 1 + 1) pre W → (pre = t.ents ∨ ((0 : Int) = 0 ∧ pre.length = 2)) → W.heap[D]? = some (.deferred (some [])) → K0 { tmps := #[ptr tb, ptr xb, undef, ptr w.heap.size, ptr (w.heap.size + 1), ptr (w.heap.size + 1 + 1), ptr (w.heap.size + 1 + 1 + 1), undef, .int .i64 0, .bool true, undef, undef, ptr tb, .func (Fn.func 31) #[] #[ptr (w.heap.size + 1 + 1 + 1 + 1)], .bool false, ptr tb, .func (Fn.func 31) #[] #[ptr (w.heap.size + 1 + 1 + 1 + 1 + 1)], undef, undef, undef, undef, undef, undef, undef, undef, undef, undef, undef, undef, undef, undef, undef, undef, undef, undef, undef, undef, undef, undef, undef, undef, undef, undef, undef, undef, undef, undef, undef, undef, undef, undef, undef, undef, undef, undef, undef, undef, undef, undef, undef, undef, undef, undef, undef, undef, undef, undef, undef], defers := [{ target := .collected D, args := #[] }] } W := by
    rintro D pre W hD ⟨i1, i2, i3, i4, i5⟩ hor hDD
    refine hK0 _ _ ?_
    have RW := rtab_kc RU0 i2 (by intro z hz; simp at hz; subst hz; exact ⟨_, hic0⟩)
    have nbx : (w.heap.size) ≠ (w.heap.size + 1 + 1 + 1) := ne_ty hbx0 hic0 (by decide)
    have nrd : (w.heap.size + 1 + 1) ≠ (w.heap.size + 1 + 1 + 1) := by omega
    have cbx : W.cell? ⟨(w.heap.size), 0, none⟩ = some (ptr xb) := cell_row (i2 _ _ _ _ (by simpa using nbx) hbx0) 0
    have crd : W.cell? ⟨(w.heap.size + 1 + 1), 0, none⟩ = some (.int .i64 0) := cell_row (i2 _ _ _ _ (by simpa using nrd) hrd0) 0
    have cic : W.cell? ⟨(w.heap.size + 1 + 1 + 1), 0, none⟩ = some (.int .i64 pre.length) := cell_row i3 0
    have cxb : W.cell? ⟨xb, 0, none⟩ = some (.slice qa t.ents.length qc) := cell_row RW.blk 0
    by_cases hpl : pre.length = t.ents.length
    · rw [hpl] at cic
      gi_wp2
      refine region_readsW (by kernel_rfl) (by kernel_rfl) ?_
      refine Reads.take (i := 0) (v := ?_) rfl (by kernel_rfl) (by kernel_rfl) (by kernel_rfl) (Or.inl ⟨by rfl, ?_⟩) ?_
      rotate_left
      · (go_simp; try with_reducible rfl)
      try simp only [List.getElem_toArray, List.getElem_cons_zero, List.getElem_cons_succ, Act.put, List.setIfInBounds_toArray, List.set_cons_zero, List.set_cons_succ]
      refine Reads.take (i := 1) (v := ?_) rfl (by kernel_rfl) (by kernel_rfl) (by kernel_rfl) (Or.inl ⟨by rfl, ?_⟩) ?_
      rotate_left
      · (go_simp; try with_reducible rfl)
      try simp only [List.getElem_toArray, List.getElem_cons_zero, List.getElem_cons_succ, Act.put, List.setIfInBounds_toArray, List.set_cons_zero, List.set_cons_succ]
      refine Reads.take (i := 2) (v := ?_) rfl (by kernel_rfl) (by kernel_rfl) (by kernel_rfl) (Or.inl ⟨by rfl, ?_⟩) ?_
      rotate_left
      · (go_simp; try with_reducible rfl)
      try simp only [List.getElem_toArray, List.getElem_cons_zero, List.getElem_cons_succ, Act.put, List.setIfInBounds_toArray, List.set_cons_zero, List.set_cons_succ]
      refine Reads.take (i := 3) (v := ?_) rfl (by kernel_rfl) (by kernel_rfl) (by kernel_rfl) (Or.inl ⟨by rfl, ?_⟩) ?_
      rotate_left
      · (go_simp; try with_reducible rfl)
      try simp only [List.getElem_toArray, List.getElem_cons_zero, List.getElem_cons_succ, Act.put, List.setIfInBounds_toArray, List.set_cons_zero, List.set_cons_succ]
      refine Reads.take (i := 4) (v := ?_) rfl (by kernel_rfl) (by kernel_rfl) (by kernel_rfl) (Or.inl ⟨by rfl, ?_⟩) ?_
      rotate_left
      · (go_simp; try with_reducible rfl)
      try simp only [List.getElem_toArray, List.getElem_cons_zero, List.getElem_cons_succ, Act.put, List.setIfInBounds_toArray, List.set_cons_zero, List.set_cons_succ]
      refine Reads.take (i := 5) (v := ?_) rfl (by kernel_rfl) (by kernel_rfl) (by kernel_rfl) (Or.inl ⟨by rfl, ?_⟩) ?_
      rotate_left
      · (go_simp; try with_reducible rfl)
      try simp only [List.getElem_toArray, List.getElem_cons_zero, List.getElem_cons_succ, Act.put, List.setIfInBounds_toArray, List.set_cons_zero, List.set_cons_succ]
      refine Reads.take (i := 6) (v := ?_) rfl (by kernel_rfl) (by kernel_rfl) (by kernel_rfl) (Or.inl ⟨by rfl, ?_⟩) ?_
      rotate_left
      · (go_simp; try with_reducible rfl)
      try simp only [List.getElem_toArray, List.getElem_cons_zero, List.getElem_cons_succ, Act.put, List.setIfInBounds_toArray, List.set_cons_zero, List.set_cons_succ]
      refine Reads.take (i := 7) (v := ?_) rfl (by kernel_rfl) (by kernel_rfl) (by kernel_rfl) (Or.inl ⟨by rfl, ?_⟩) ?_
      rotate_left
      · (go_simp; try with_reducible rfl)
      try simp only [List.getElem_toArray, List.getElem_cons_zero, List.getElem_cons_succ, Act.put, List.setIfInBounds_toArray, List.set_cons_zero, List.set_cons_succ]
      refine Reads.take (i := 8) (v := undef) rfl (by kernel_rfl) (by kernel_rfl) (by kernel_rfl) (Or.inr ⟨by rfl, rfl⟩) ?_
      try simp only [List.getElem_toArray, List.getElem_cons_zero, List.getElem_cons_succ, Act.put, List.setIfInBounds_toArray, List.set_cons_zero, List.set_cons_succ]
      refine Reads.take (i := 9) (v := undef) rfl (by kernel_rfl) (by kernel_rfl) (by kernel_rfl) (Or.inr ⟨by rfl, rfl⟩) ?_
      try simp only [List.getElem_toArray, List.getElem_cons_zero, List.getElem_cons_succ, Act.put, List.setIfInBounds_toArray, List.set_cons_zero, List.set_cons_succ]
      refine Reads.take (i := 10) (v := undef) rfl (by kernel_rfl) (by kernel_rfl) (by kernel_rfl) (Or.inr ⟨by rfl, rfl⟩) ?_
      try simp only [List.getElem_toArray, List.getElem_cons_zero, List.getElem_cons_succ, Act.put, List.setIfInBounds_toArray, List.set_cons_zero, List.set_cons_succ]
      refine Reads.take (i := 11) (v := undef) rfl (by kernel_rfl) (by kernel_rfl) (by kernel_rfl) (Or.inr ⟨by rfl, rfl⟩) ?_
      try simp only [List.getElem_toArray, List.getElem_cons_zero, List.getElem_cons_succ, Act.put, List.setIfInBounds_toArray, List.set_cons_zero, List.set_cons_succ]
      refine Reads.take (i := 12) (v := undef) rfl (by kernel_rfl) (by kernel_rfl) (by kernel_rfl) (Or.inr ⟨by rfl, rfl⟩) ?_
      try simp only [List.getElem_toArray, List.getElem_cons_zero, List.getElem_cons_succ, Act.put, List.setIfInBounds_toArray, List.set_cons_zero, List.set_cons_succ]
      refine Reads.take (i := 13) (v := undef) rfl (by kernel_rfl) (by kernel_rfl) (by kernel_rfl) (Or.inr ⟨by rfl, rfl⟩) ?_
      try simp only [List.getElem_toArray, List.getElem_cons_zero, List.getElem_cons_succ, Act.put, List.setIfInBounds_toArray, List.set_cons_zero, List.set_cons_succ]
      refine Reads.take (i := 14) (v := ?_) rfl (by kernel_rfl) (by kernel_rfl) (by kernel_rfl) (Or.inl ⟨by rfl, ?_⟩) ?_
      rotate_left
      · (go_simp; try with_reducible rfl)
      try simp only [List.getElem_toArray, List.getElem_cons_zero, List.getElem_cons_succ, Act.put, List.setIfInBounds_toArray, List.set_cons_zero, List.set_cons_succ]
      refine Reads.done (by kernel_rfl) ?_ _
      gi_wp2
      exact nxt0 _ _ _ _ _ _ _ _ _ _ _ _ _ _ _ D _ hD (fun k cs ty fr hk h => i2 k cs ty fr hk h) i4.drew i5 hDD
    · have hp2 : pre.length = 2 := by rcases hor with h | h; exact absurd (by rw [h]) hpl; exact h.2
      have hl2 : (2 : Int) ≠ (t.ents.length : Int) := by omega
      rw [hp2] at cic
      gi_wp2
      refine region_readsW (by kernel_rfl) (by kernel_rfl) ?_
      refine Reads.take (i := 0) (v := ?_) rfl (by kernel_rfl) (by kernel_rfl) (by kernel_rfl) (Or.inl ⟨by rfl, ?_⟩) ?_
      rotate_left
      · (go_simp; try with_reducible rfl)
      try simp only [List.getElem_toArray, List.getElem_cons_zero, List.getElem_cons_succ, Act.put, List.setIfInBounds_toArray, List.set_cons_zero, List.set_cons_succ]
      refine Reads.take (i := 1) (v := ?_) rfl (by kernel_rfl) (by kernel_rfl) (by kernel_rfl) (Or.inl ⟨by rfl, ?_⟩) ?_
      rotate_left
      · (go_simp; try with_reducible rfl)
      try simp only [List.getElem_toArray, List.getElem_cons_zero, List.getElem_cons_succ, Act.put, List.setIfInBounds_toArray, List.set_cons_zero, List.set_cons_succ]
      refine Reads.take (i := 2) (v := ?_) rfl (by kernel_rfl) (by kernel_rfl) (by kernel_rfl) (Or.inl ⟨by rfl, ?_⟩) ?_
      rotate_left
      · (go_simp; try with_reducible rfl)
      try simp only [List.getElem_toArray, List.getElem_cons_zero, List.getElem_cons_succ, Act.put, List.setIfInBounds_toArray, List.set_cons_zero, List.set_cons_succ]
      refine Reads.take (i := 3) (v := ?_) rfl (by kernel_rfl) (by kernel_rfl) (by kernel_rfl) (Or.inl ⟨by rfl, ?_⟩) ?_
      rotate_left
      · (go_simp; try with_reducible rfl)
      try simp only [List.getElem_toArray, List.getElem_cons_zero, List.getElem_cons_succ, Act.put, List.setIfInBounds_toArray, List.set_cons_zero, List.set_cons_succ]
      refine Reads.take (i := 4) (v := ?_) rfl (by kernel_rfl) (by kernel_rfl) (by kernel_rfl) (Or.inl ⟨by rfl, ?_⟩) ?_
      rotate_left
      · (go_simp; try with_reducible rfl)
      try simp only [List.getElem_toArray, List.getElem_cons_zero, List.getElem_cons_succ, Act.put, List.setIfInBounds_toArray, List.set_cons_zero, List.set_cons_succ]
      refine Reads.take (i := 5) (v := ?_) rfl (by kernel_rfl) (by kernel_rfl) (by kernel_rfl) (Or.inl ⟨by rfl, ?_⟩) ?_
      rotate_left
      · (go_simp; try with_reducible rfl)
      try simp only [List.getElem_toArray, List.getElem_cons_zero, List.getElem_cons_succ, Act.put, List.setIfInBounds_toArray, List.set_cons_zero, List.set_cons_succ]
      refine Reads.take (i := 6) (v := .bool true) rfl (by kernel_rfl) (by kernel_rfl) (by kernel_rfl) (Or.inl ⟨by rfl, ?_⟩) ?_
      · (go_simp; all_goals (try simp); all_goals (try omega))
      try simp only [List.getElem_toArray, List.getElem_cons_zero, List.getElem_cons_succ, Act.put, List.setIfInBounds_toArray, List.set_cons_zero, List.set_cons_succ]
      refine Reads.take (i := 7) (v := ?_) rfl (by kernel_rfl) (by kernel_rfl) (by kernel_rfl) (Or.inl ⟨by rfl, ?_⟩) ?_
      rotate_left
      · (go_simp; try with_reducible rfl)
      try simp only [List.getElem_toArray, List.getElem_cons_zero, List.getElem_cons_succ, Act.put, List.setIfInBounds_toArray, List.set_cons_zero, List.set_cons_succ]
      refine Reads.take (i := 8) (v := ?_) rfl (by kernel_rfl) (by kernel_rfl) (by kernel_rfl) (Or.inl ⟨by rfl, ?_⟩) ?_
      rotate_left
      · (go_simp; try with_reducible rfl)
      try simp only [List.getElem_toArray, List.getElem_cons_zero, List.getElem_cons_succ, Act.put, List.setIfInBounds_toArray, List.set_cons_zero, List.set_cons_succ]
      refine Reads.take (i := 9) (v := ?_) rfl (by kernel_rfl) (by kernel_rfl) (by kernel_rfl) (Or.inl ⟨by rfl, ?_⟩) ?_
      rotate_left
      · (go_simp; try with_reducible rfl)
      try simp only [List.getElem_toArray, List.getElem_cons_zero, List.getElem_cons_succ, Act.put, List.setIfInBounds_toArray, List.set_cons_zero, List.set_cons_succ]
      refine Reads.take (i := 10) (v := ?_) rfl (by kernel_rfl) (by kernel_rfl) (by kernel_rfl) (Or.inl ⟨by rfl, ?_⟩) ?_
      rotate_left
      · (go_simp; try with_reducible rfl)
      try simp only [List.getElem_toArray, List.getElem_cons_zero, List.getElem_cons_succ, Act.put, List.setIfInBounds_toArray, List.set_cons_zero, List.set_cons_succ]
      refine Reads.take (i := 11) (v := ?_) rfl (by kernel_rfl) (by kernel_rfl) (by kernel_rfl) (Or.inl ⟨by rfl, ?_⟩) ?_
      rotate_left
      · (go_simp; try with_reducible rfl)
      try simp only [List.getElem_toArray, List.getElem_cons_zero, List.getElem_cons_succ, Act.put, List.setIfInBounds_toArray, List.set_cons_zero, List.set_cons_succ]
      refine Reads.take (i := 12) (v := ?_) rfl (by kernel_rfl) (by kernel_rfl) (by kernel_rfl) (Or.inl ⟨by rfl, ?_⟩) ?_
      rotate_left
      · (go_simp; try with_reducible rfl)
      try simp only [List.getElem_toArray, List.getElem_cons_zero, List.getElem_cons_succ, Act.put, List.setIfInBounds_toArray, List.set_cons_zero, List.set_cons_succ]
      refine Reads.take (i := 13) (v := ?_) rfl (by kernel_rfl) (by kernel_rfl) (by kernel_rfl) (Or.inl ⟨by rfl, ?_⟩) ?_
      rotate_left
      · (go_simp; try with_reducible rfl)
      try simp only [List.getElem_toArray, List.getElem_cons_zero, List.getElem_cons_succ, Act.put, List.setIfInBounds_toArray, List.set_cons_zero, List.set_cons_succ]
      refine Reads.take (i := 14) (v := ?_) rfl (by kernel_rfl) (by kernel_rfl) (by kernel_rfl) (Or.inl ⟨by rfl, ?_⟩) ?_
      rotate_left
      · (go_simp; try with_reducible rfl)
      try simp only [List.getElem_toArray, List.getElem_cons_zero, List.getElem_cons_succ, Act.put, List.setIfInBounds_toArray, List.set_cons_zero, List.set_cons_succ]
      refine Reads.done (by kernel_rfl) ?_ _
      gi_wp2
      exact nxt0 _ _ _ _ _ _ _ _ _ _ _ _ _ _ _ D _ hD (fun k cs ty fr hk h => i2 k cs ty fr hk h) i4.drew i5 hDD
  refine wpIn_rangeFunc_ownH (α := Ro) rfl (by omega) (gf := 31) (lb := #[ptr (w.heap.size + 1 + 1 + 1 + 1 + 1)]) rfl trivial (enters_of Try.func31 (by kernel_rfl) rfl)
    (all1_any (6 - 1) (w.heap.size + 1 + 1 + 1 + 1 + 1) [(w.heap.size + 1 + 1 + 1)] U tb t hbn0 TU0 (by intro z hz; simp at hz; subst hz; exact lt_of_heap hic0) (by omega)) KC.trans (fun W l o o' _ h1 h2 _ => KC.put W l o o' h1 h2) (Below.refl _ _) (fun _ => rfl)
    (LkI w U t.ents (w.heap.size + 1 + 1 + 1)) (LkX w U t.ents (w.heap.size + 1 + 1 + 1) 0 2) (lkI_own bU0.size) (lkX_own bU0.size)
    ⟨List.nil_prefix, fun _ _ _ _ _ h => h, hic0, bU0, Grw.refl _ _⟩
    (fun x a' W => ∃ Bx, U.heap.size ≤ Bx ∧ W.heap[Bx]? = some (.cells #[.int .u32 x.1.toNat, .int .i64 x.2.1, .int .i64 x.2.2] 37 (0, 0)) ∧ a' = { tmps := #[ptr tb, ptr xb, undef, ptr w.heap.size, ptr (w.heap.size + 1), ptr (w.heap.size + 1 + 1), ptr (w.heap.size + 1 + 1 + 1), ptr Bx, .int .i64 0, .bool true, undef, undef, ptr tb, .func (Fn.func 31) #[] #[ptr (w.heap.size + 1 + 1 + 1 + 1)], .bool false, ptr tb, .func (Fn.func 31) #[] #[ptr (w.heap.size + 1 + 1 + 1 + 1 + 1)], .agg #[.int .u32 x.1.toNat, .int .i64 x.2.1, .int .i64 x.2.2], undef, undef, undef, undef, undef, undef, undef, undef, undef, undef, undef, undef, undef, undef, undef, undef, undef, undef, undef, undef, undef, undef, undef, undef, undef, undef, undef, undef, undef, undef, undef, undef, undef, undef, undef, undef, undef, undef, undef, undef, undef, undef, undef, undef, undef, undef, undef, undef, undef, undef], defers := [] })
    (fun x a' _ W W' row h hg hr => by obtain ⟨Bx, h1, h2, h3⟩ := h; exact ⟨Bx, h1, row_own h2 hg (fun r e => (hr r e).2), h3⟩) ?assign ?body ?done ?stop
  case assign =>
    rintro l pre x W K ⟨i1, i2, i3, i4, i5⟩ hK
    dsimp only [encR]
    gi_wp2
    exact hK _ _ ((KeepsOthers.alloc _ _).from _) (kc_alloc _ _ _) ⟨i1, i2.trans (kc_alloc _ _ _), (heap_alloc_old _ _ (lt_of_heap i3)).trans i3, i4.alloc i4.size _, i5.alloc _⟩ ⟨W.heap.size, i5.1, heap_alloc_new _ _, rfl⟩
  case body =>
    rintro l pre x a' W hl - ⟨i1, i2, i3, i4, i5⟩ ⟨Bx, j1, j2, rfl⟩ hlt
    have RW := rtab_kc RU0 i2 (by intro z hz; simp at hz; subst hz; exact ⟨_, hic0⟩)
    obtain ⟨y, hy⟩ := pre_lt i1 hlt
    obtain ⟨g, rfl, e0, e1, e2⟩ := RW.at hy
    have nbx : (w.heap.size) ≠ (w.heap.size + 1 + 1 + 1) := ne_ty hbx0 hic0 (by decide)
    have nrc : (w.heap.size + 1) ≠ (w.heap.size + 1 + 1 + 1) := ne_ty hrc0 hic0 (by decide)
    have nrd : (w.heap.size + 1 + 1) ≠ (w.heap.size + 1 + 1 + 1) := by omega
    have cbx : W.cell? ⟨(w.heap.size), 0, none⟩ = some (ptr xb) := cell_row (i2 _ _ _ _ (by simpa using nbx) hbx0) 0
    have crd : W.cell? ⟨(w.heap.size + 1 + 1), 0, none⟩ = some (.int .i64 0) := cell_row (i2 _ _ _ _ (by simpa using nrd) hrd0) 0
    have crc : W.cell? ⟨(w.heap.size + 1), 0, none⟩ = some (.bool false) := cell_row (i2 _ _ _ _ (by simpa using nrc) hrc0) 0
    have frc := frozen_of_row W _ 0 _ _ (i2 _ _ _ _ (by simpa using nrc) hrc0)
    have cic : W.cell? ⟨(w.heap.size + 1 + 1 + 1), 0, none⟩ = some (.int .i64 pre.length) := cell_row i3 0
    have fic := frozen_of_row W _ 0 _ _ i3
    have cxb : W.cell? ⟨xb, 0, none⟩ = some (.slice (some ⟨g, 0, none⟩) t.ents.length qc) := cell_row RW.blk 0
    have b0 : W.cell? ⟨Bx, 0, none⟩ = some (.int .u32 x.1.toNat) := cell_row j2 0
    have b1 : W.cell? ⟨Bx, 1, none⟩ = some (.int .i64 x.2.1) := cell_row j2 1
    have b2 : W.cell? ⟨Bx, 2, none⟩ = some (.int .i64 x.2.2) := cell_row j2 2
    have hI1 : (pre.length : Int) < (t.ents.length : Int) := by omega
    have hI2 : (pre.length : Int) ≤ 274877906944 := by omega
    have hI3 : (0 : Int) ≤ (pre.length : Int) := by omega
    have hI4 : ¬ (t.ents.length : Int) ≤ (pre.length : Int) := by omega
    have hdec : ∀ {i : Decidable (t.ents.length ≤ pre.length)}, @decide _ i = false := by intro i; exact decide_eq_false (by omega)
    by_cases hxy : x = y
    · subst hxy
      gi_wp2
      refine region_reads (by kernel_rfl) (by kernel_rfl) ?_
      refine Reads.take (i := 0) (v := ?_) rfl (by kernel_rfl) (by kernel_rfl) (by kernel_rfl) (Or.inl ⟨by rfl, ?_⟩) ?_
      rotate_left
      · (go_simp; try with_reducible rfl)
      try simp only [List.getElem_toArray, List.getElem_cons_zero, List.getElem_cons_succ, Act.put, List.setIfInBounds_toArray, List.set_cons_zero, List.set_cons_succ]
      refine Reads.take (i := 1) (v := ?_) rfl (by kernel_rfl) (by kernel_rfl) (by kernel_rfl) (Or.inl ⟨by rfl, ?_⟩) ?_
      rotate_left
      · (go_simp; try with_reducible rfl)
      try simp only [List.getElem_toArray, List.getElem_cons_zero, List.getElem_cons_succ, Act.put, List.setIfInBounds_toArray, List.set_cons_zero, List.set_cons_succ]
      refine Reads.take (i := 2) (v := ?_) rfl (by kernel_rfl) (by kernel_rfl) (by kernel_rfl) (Or.inl ⟨by rfl, ?_⟩) ?_
      rotate_left
      · (go_simp; try with_reducible rfl)
      try simp only [List.getElem_toArray, List.getElem_cons_zero, List.getElem_cons_succ, Act.put, List.setIfInBounds_toArray, List.set_cons_zero, List.set_cons_succ]
      refine Reads.take (i := 3) (v := ?_) rfl (by kernel_rfl) (by kernel_rfl) (by kernel_rfl) (Or.inl ⟨by rfl, ?_⟩) ?_
      rotate_left
      · (go_simp; try with_reducible rfl)
      try simp only [List.getElem_toArray, List.getElem_cons_zero, List.getElem_cons_succ, Act.put, List.setIfInBounds_toArray, List.set_cons_zero, List.set_cons_succ]
      refine Reads.take (i := 4) (v := ?_) rfl (by kernel_rfl) (by kernel_rfl) (by kernel_rfl) (Or.inl ⟨by rfl, ?_⟩) ?_
      rotate_left
      · (go_simp; try with_reducible rfl)
      try simp only [List.getElem_toArray, List.getElem_cons_zero, List.getElem_cons_succ, Act.put, List.setIfInBounds_toArray, List.set_cons_zero, List.set_cons_succ]
      refine Reads.take (i := 5) (v := ?_) rfl (by kernel_rfl) (by kernel_rfl) (by kernel_rfl) (Or.inl ⟨by rfl, ?_⟩) ?_
      rotate_left
      · (go_simp; try with_reducible rfl)
      try simp only [List.getElem_toArray, List.getElem_cons_zero, List.getElem_cons_succ, Act.put, List.setIfInBounds_toArray, List.set_cons_zero, List.set_cons_succ]
      refine Reads.take (i := 6) (v := ?_) rfl (by kernel_rfl) (by kernel_rfl) (by kernel_rfl) (Or.inl ⟨by rfl, ?_⟩) ?_
      rotate_left
      · (go_simp; try with_reducible rfl)
      try simp only [List.getElem_toArray, List.getElem_cons_zero, List.getElem_cons_succ, Act.put, List.setIfInBounds_toArray, List.set_cons_zero, List.set_cons_succ]
      try simp only [hdec]
      refine Reads.take (i := 7) (v := ?_) rfl (by kernel_rfl) (by kernel_rfl) (by kernel_rfl) (Or.inl ⟨by rfl, ?_⟩) ?_
      rotate_left
      · (go_simp; try with_reducible rfl)
      try simp only [List.getElem_toArray, List.getElem_cons_zero, List.getElem_cons_succ, Act.put, List.setIfInBounds_toArray, List.set_cons_zero, List.set_cons_succ]
      refine Reads.take (i := 8) (v := ?_) rfl (by kernel_rfl) (by kernel_rfl) (by kernel_rfl) (Or.inl ⟨by rfl, ?_⟩) ?_
      rotate_left
      · (go_simp; try with_reducible rfl)
      try simp only [List.getElem_toArray, List.getElem_cons_zero, List.getElem_cons_succ, Act.put, List.setIfInBounds_toArray, List.set_cons_zero, List.set_cons_succ]
      refine Reads.take (i := 9) (v := ?_) rfl (by kernel_rfl) (by kernel_rfl) (by kernel_rfl) (Or.inl ⟨by rfl, ?_⟩) ?_
      rotate_left
      · (go_simp; try with_reducible rfl)
      try simp only [List.getElem_toArray, List.getElem_cons_zero, List.getElem_cons_succ, Act.put, List.setIfInBounds_toArray, List.set_cons_zero, List.set_cons_succ]
      refine Reads.take (i := 10) (v := ?_) rfl (by kernel_rfl) (by kernel_rfl) (by kernel_rfl) (Or.inl ⟨by rfl, ?_⟩) ?_
      rotate_left
      · (go_simp; try with_reducible rfl)
      try simp only [List.getElem_toArray, List.getElem_cons_zero, List.getElem_cons_succ, Act.put, List.setIfInBounds_toArray, List.set_cons_zero, List.set_cons_succ]
      refine Reads.take (i := 11) (v := ?_) rfl (by kernel_rfl) (by kernel_rfl) (by kernel_rfl) (Or.inl ⟨by rfl, ?_⟩) ?_
      rotate_left
      · (go_simp; try with_reducible rfl)
      try simp only [List.getElem_toArray, List.getElem_cons_zero, List.getElem_cons_succ, Act.put, List.setIfInBounds_toArray, List.set_cons_zero, List.set_cons_succ]
      refine Reads.take (i := 12) (v := ?_) rfl (by kernel_rfl) (by kernel_rfl) (by kernel_rfl) (Or.inl ⟨by rfl, ?_⟩) ?_
      rotate_left
      · (go_simp; try with_reducible rfl)
      try simp only [List.getElem_toArray, List.getElem_cons_zero, List.getElem_cons_succ, Act.put, List.setIfInBounds_toArray, List.set_cons_zero, List.set_cons_succ]
      refine Reads.take (i := 13) (v := ?_) rfl (by kernel_rfl) (by kernel_rfl) (by kernel_rfl) (Or.inl ⟨by rfl, ?_⟩) ?_
      rotate_left
      · (go_simp; try with_reducible rfl)
      try simp only [List.getElem_toArray, List.getElem_cons_zero, List.getElem_cons_succ, Act.put, List.setIfInBounds_toArray, List.set_cons_zero, List.set_cons_succ]
      refine Reads.take (i := 14) (v := ?_) rfl (by kernel_rfl) (by kernel_rfl) (by kernel_rfl) (Or.inl ⟨by rfl, ?_⟩) ?_
      rotate_left
      · (go_simp; try with_reducible rfl)
      try simp only [List.getElem_toArray, List.getElem_cons_zero, List.getElem_cons_succ, Act.put, List.setIfInBounds_toArray, List.set_cons_zero, List.set_cons_succ]
      refine Reads.take (i := 15) (v := ?_) rfl (by kernel_rfl) (by kernel_rfl) (by kernel_rfl) (Or.inl ⟨by rfl, ?_⟩) ?_
      rotate_left
      · (go_simp; try with_reducible rfl)
      try simp only [List.getElem_toArray, List.getElem_cons_zero, List.getElem_cons_succ, Act.put, List.setIfInBounds_toArray, List.set_cons_zero, List.set_cons_succ]
      refine Reads.take (i := 16) (v := ?_) rfl (by kernel_rfl) (by kernel_rfl) (by kernel_rfl) (Or.inl ⟨by rfl, ?_⟩) ?_
      rotate_left
      · (go_simp; try with_reducible rfl)
      try simp only [List.getElem_toArray, List.getElem_cons_zero, List.getElem_cons_succ, Act.put, List.setIfInBounds_toArray, List.set_cons_zero, List.set_cons_succ]
      refine Reads.take (i := 17) (v := ?_) rfl (by kernel_rfl) (by kernel_rfl) (by kernel_rfl) (Or.inl ⟨by rfl, ?_⟩) ?_
      rotate_left
      · (go_simp; try with_reducible rfl)
      try simp only [List.getElem_toArray, List.getElem_cons_zero, List.getElem_cons_succ, Act.put, List.setIfInBounds_toArray, List.set_cons_zero, List.set_cons_succ]
      refine Reads.done (by kernel_rfl) ?_ _
      gi_wp2
      · exact ⟨(lk_step (N := U.heap.size) ⟨i1, i2, i3, i4, i5⟩ ((prefix_at i1).2 hy) (by omega) (lt_of_heap hic0)).1, .inr ⟨rfl, rfl, by rename_i hh2; simp at hh2 ⊢; omega, (lk_step (N := U.heap.size) ⟨i1, i2, i3, i4, i5⟩ ((prefix_at i1).2 hy) (by omega) (lt_of_heap hic0)).2.2⟩⟩
      · exact lk_step ⟨i1, i2, i3, i4, i5⟩ ((prefix_at i1).2 hy) (by omega) (lt_of_heap hic0)
    · have hne := agg_neq x y
      have hdx : decide (x ≠ y) = true := by simpa using hxy
      rw [hdx] at hne
      gi_wp2
      refine region_reads (by kernel_rfl) (by kernel_rfl) ?_
      refine Reads.take (i := 0) (v := ?_) rfl (by kernel_rfl) (by kernel_rfl) (by kernel_rfl) (Or.inl ⟨by rfl, ?_⟩) ?_
      rotate_left
      · (go_simp; try with_reducible rfl)
      try simp only [List.getElem_toArray, List.getElem_cons_zero, List.getElem_cons_succ, Act.put, List.setIfInBounds_toArray, List.set_cons_zero, List.set_cons_succ]
      refine Reads.take (i := 1) (v := ?_) rfl (by kernel_rfl) (by kernel_rfl) (by kernel_rfl) (Or.inl ⟨by rfl, ?_⟩) ?_
      rotate_left
      · (go_simp; try with_reducible rfl)
      try simp only [List.getElem_toArray, List.getElem_cons_zero, List.getElem_cons_succ, Act.put, List.setIfInBounds_toArray, List.set_cons_zero, List.set_cons_succ]
      refine Reads.take (i := 2) (v := ?_) rfl (by kernel_rfl) (by kernel_rfl) (by kernel_rfl) (Or.inl ⟨by rfl, ?_⟩) ?_
      rotate_left
      · (go_simp; try with_reducible rfl)
      try simp only [List.getElem_toArray, List.getElem_cons_zero, List.getElem_cons_succ, Act.put, List.setIfInBounds_toArray, List.set_cons_zero, List.set_cons_succ]
      refine Reads.take (i := 3) (v := ?_) rfl (by kernel_rfl) (by kernel_rfl) (by kernel_rfl) (Or.inl ⟨by rfl, ?_⟩) ?_
      rotate_left
      · (go_simp; try with_reducible rfl)
      try simp only [List.getElem_toArray, List.getElem_cons_zero, List.getElem_cons_succ, Act.put, List.setIfInBounds_toArray, List.set_cons_zero, List.set_cons_succ]
      refine Reads.take (i := 4) (v := ?_) rfl (by kernel_rfl) (by kernel_rfl) (by kernel_rfl) (Or.inl ⟨by rfl, ?_⟩) ?_
      rotate_left
      · (go_simp; try with_reducible rfl)
      try simp only [List.getElem_toArray, List.getElem_cons_zero, List.getElem_cons_succ, Act.put, List.setIfInBounds_toArray, List.set_cons_zero, List.set_cons_succ]
      refine Reads.take (i := 5) (v := ?_) rfl (by kernel_rfl) (by kernel_rfl) (by kernel_rfl) (Or.inl ⟨by rfl, ?_⟩) ?_
      rotate_left
      · (go_simp; try with_reducible rfl)
      try simp only [List.getElem_toArray, List.getElem_cons_zero, List.getElem_cons_succ, Act.put, List.setIfInBounds_toArray, List.set_cons_zero, List.set_cons_succ]
      refine Reads.take (i := 6) (v := ?_) rfl (by kernel_rfl) (by kernel_rfl) (by kernel_rfl) (Or.inl ⟨by rfl, ?_⟩) ?_
      rotate_left
      · (go_simp; try with_reducible rfl)
      try simp only [List.getElem_toArray, List.getElem_cons_zero, List.getElem_cons_succ, Act.put, List.setIfInBounds_toArray, List.set_cons_zero, List.set_cons_succ]
      try simp only [hdec]
      refine Reads.take (i := 7) (v := ?_) rfl (by kernel_rfl) (by kernel_rfl) (by kernel_rfl) (Or.inl ⟨by rfl, ?_⟩) ?_
      rotate_left
      · (go_simp; try with_reducible rfl)
      try simp only [List.getElem_toArray, List.getElem_cons_zero, List.getElem_cons_succ, Act.put, List.setIfInBounds_toArray, List.set_cons_zero, List.set_cons_succ]
      refine Reads.take (i := 8) (v := ?_) rfl (by kernel_rfl) (by kernel_rfl) (by kernel_rfl) (Or.inl ⟨by rfl, ?_⟩) ?_
      rotate_left
      · (go_simp; try with_reducible rfl)
      try simp only [List.getElem_toArray, List.getElem_cons_zero, List.getElem_cons_succ, Act.put, List.setIfInBounds_toArray, List.set_cons_zero, List.set_cons_succ]
      refine Reads.take (i := 9) (v := ?_) rfl (by kernel_rfl) (by kernel_rfl) (by kernel_rfl) (Or.inl ⟨by rfl, ?_⟩) ?_
      rotate_left
      · (go_simp; try with_reducible rfl)
      try simp only [List.getElem_toArray, List.getElem_cons_zero, List.getElem_cons_succ, Act.put, List.setIfInBounds_toArray, List.set_cons_zero, List.set_cons_succ]
      refine Reads.take (i := 10) (v := ?_) rfl (by kernel_rfl) (by kernel_rfl) (by kernel_rfl) (Or.inl ⟨by rfl, ?_⟩) ?_
      rotate_left
      · (go_simp; try with_reducible rfl)
      try simp only [List.getElem_toArray, List.getElem_cons_zero, List.getElem_cons_succ, Act.put, List.setIfInBounds_toArray, List.set_cons_zero, List.set_cons_succ]
      refine Reads.take (i := 11) (v := ?_) rfl (by kernel_rfl) (by kernel_rfl) (by kernel_rfl) (Or.inl ⟨by rfl, ?_⟩) ?_
      rotate_left
      · (go_simp; try with_reducible rfl)
      try simp only [List.getElem_toArray, List.getElem_cons_zero, List.getElem_cons_succ, Act.put, List.setIfInBounds_toArray, List.set_cons_zero, List.set_cons_succ]
      refine Reads.take (i := 12) (v := ?_) rfl (by kernel_rfl) (by kernel_rfl) (by kernel_rfl) (Or.inl ⟨by rfl, ?_⟩) ?_
      rotate_left
      · (go_simp; try with_reducible rfl)
      try simp only [List.getElem_toArray, List.getElem_cons_zero, List.getElem_cons_succ, Act.put, List.setIfInBounds_toArray, List.set_cons_zero, List.set_cons_succ]
      refine Reads.take (i := 13) (v := ?_) rfl (by kernel_rfl) (by kernel_rfl) (by kernel_rfl) (Or.inl ⟨by rfl, ?_⟩) ?_
      rotate_left
      · (go_simp; try with_reducible rfl)
      try simp only [List.getElem_toArray, List.getElem_cons_zero, List.getElem_cons_succ, Act.put, List.setIfInBounds_toArray, List.set_cons_zero, List.set_cons_succ]
      refine Reads.take (i := 14) (v := ?_) rfl (by kernel_rfl) (by kernel_rfl) (by kernel_rfl) (Or.inl ⟨by rfl, ?_⟩) ?_
      rotate_left
      · (go_simp; try with_reducible rfl)
      try simp only [List.getElem_toArray, List.getElem_cons_zero, List.getElem_cons_succ, Act.put, List.setIfInBounds_toArray, List.set_cons_zero, List.set_cons_succ]
      refine Reads.take (i := 15) (v := ?_) rfl (by kernel_rfl) (by kernel_rfl) (by kernel_rfl) (Or.inl ⟨by rfl, ?_⟩) ?_
      rotate_left
      · (go_simp; try with_reducible rfl)
      try simp only [List.getElem_toArray, List.getElem_cons_zero, List.getElem_cons_succ, Act.put, List.setIfInBounds_toArray, List.set_cons_zero, List.set_cons_succ]
      refine Reads.take (i := 16) (v := .bool true) rfl (by kernel_rfl) (by kernel_rfl) (by kernel_rfl) (Or.inl ⟨by rfl, ?_⟩) ?_
      · simp [hne, go_sem]
      try simp only [List.getElem_toArray, List.getElem_cons_zero, List.getElem_cons_succ, Act.put, List.setIfInBounds_toArray, List.set_cons_zero, List.set_cons_succ]
      refine Reads.take (i := 17) (v := ?_) rfl (by kernel_rfl) (by kernel_rfl) (by kernel_rfl) (Or.inl ⟨by rfl, ?_⟩) ?_
      rotate_left
      · (go_simp; try with_reducible rfl)
      try simp only [List.getElem_toArray, List.getElem_cons_zero, List.getElem_cons_succ, Act.put, List.setIfInBounds_toArray, List.set_cons_zero, List.set_cons_succ]
      refine Reads.done (by kernel_rfl) ?_ _
      gi_wp2
      exact ⟨((KeepsOthers.setCell _ _ _).trans (KeepsOthers.drew _)).from _, .inl ⟨rfl, fun hp => hxy (by have := (prefix_at i1).1 hp; rw [hy] at this; injection this with this; exact this.symm)⟩⟩
  case done =>
    rintro D xs W hD rfl hI hDD
    exact fin0 D _ W hD hI (.inl rfl) hDD
  case stop =>
    rintro D c pre W hD hp hX hDD
    rcases hX with ⟨rfl, hX⟩ | ⟨rfl, h2, h3, h4⟩
    · exact absurd hp hX
    · have hf := fin0 D pre W hD h4 (.inr ⟨h2, h3⟩) hDD
      gi_wp2
      exact hf
end Go.Proofs.Ytlopnagajhjmmaa
