/- Table.Add. Conditions: as said. -/
import Derived.Test.YtlopnagajhjmmaaLJ
namespace Go.Proofs.Ytlopnagajhjmmaa
open Go.RowKit Tr
theorem oq_last {w : World} {B : Nat} {q : Value} {C : List Fr} {b : Nat} (h : OwnQ w B q (C.length + 1) (pathV C ++ [ptr b])) : ∃ g cap cur, q = .slice (some ⟨g, 0, none⟩) (C.length + 1) cap ∧ B ≤ g ∧ w.heap[g]? = some (.cells cur 54 (0, 0)) ∧ C.length + 1 ≤ cap ∧ w.cell? ⟨g, C.length, none⟩ = some (ptr b) := by
  rcases h.h.2 with ⟨_, e⟩ | ⟨g, cap, cur, hq, q1, q2, q3, q4, q5, q6⟩
  · omega
  · refine ⟨g, cap, cur, hq, q1, q2, q3, ?_⟩
    rw [cell_row q2, ← Array.getElem?_toList]
    have : (cur.toList.take ((C.length + 1) * 1))[C.length]? = cur.toList[C.length]? := by rw [List.getElem?_take, if_pos (by omega)]
    rw [← this, q6, List.getElem?_append_right (by rw [pathV_len]; exact Nat.le_refl _), pathV_len]
    simp
/-- What Add answers. -/
def adC (L : List Ro) (p : BitVec 32) (m : Nat) : Int := if hasKey L p m then 5 else 0
def adL (L : List Ro) (p : BitVec 32) (m : Nat) (v : Int) : List Ro := if hasKey L p m then L else ins (p, m, v) L
theorem ad_yes {L : List Ro} {p : BitVec 32} {m : Nat} (h : hasKey L p m = true) (v : Int) : adC L p m = 5 ∧ adL L p m v = L := by simp [adC, adL, h]
theorem ad_no {L : List Ro} {p : BitVec 32} {m : Nat} (h : hasKey L p m = false) (v : Int) : adC L p m = 0 ∧ adL L p m v = ins (p, m, v) L := by simp [adC, adL, h]
structure Added (w : World) (tb : Nat) (t : Tr) (w' : World) (t' : Tr) : Prop where
  tab : Tab w' tb t'
  keeps : Keeps (tb :: t.blocks) w w'
  blk : ∀ x ∈ t'.blocks, x ∈ t.blocks ∨ w.heap.size ≤ x
theorem Added.refl {w : World} {tb : Nat} {t : Tr} (h : Tab w tb t) {w' : World} (hb : Below w.heap.size w w') : Added w tb t w' t := by
  refine ⟨?_, Keeps.of_below _ hb, fun x hx => .inl hx⟩
  obtain ⟨rb, rv, rth, rl, rr, e, ht⟩ := h.root
  exact ⟨⟨rb, rv, rth, rl, rr, e, (hb.block _ (lt_of_heap ht)).trans ht⟩, bel_own h.own hb, h.wf, h.nd⟩
theorem root_plug {rb : Nat} {rv : Int} {rth : Bool} {rl rr : Tr} : ∀ (C : List Fr) (b : Nat) (ps : BitVec 32) (ns : Nat) (vs : Int) (th : Bool) (l r : Tr), plug C (node b ps ns vs th l r) = node rb 0#32 0 rv rth rl rr → ∀ (v2 : Int) (th2 : Bool) (l2 r2 : Tr), ∃ rv2 rth2 rl2 rr2, plug C (node b ps ns v2 th2 l2 r2) = node rb 0#32 0 rv2 rth2 rl2 rr2
  | [], b, ps, ns, vs, th, l, r, h, v2, th2, l2, r2 => by
    simp only [plug] at h
    injection h with e1 e2 e3 e4 e5 e6 e7
    subst e1 e2 e3
    exact ⟨_, _, _, _, rfl⟩
  | f :: C, b, ps, ns, vs, th, l, r, h, v2, th2, l2, r2 => root_plug C f.b f.p f.n f.v f.th _ _ h f.v f.th _ _
/-- A trie in which a node has changed. -/
theorem tab_plug {w w' : World} {tb : Nat} {t : Tr} {C : List Fr} {b : Nat} {ps : BitVec 32} {ns : Nat} {vs : Int} {th : Bool} {l r : Tr} (hT : Tab w tb t) (he : plug C (node b ps ns vs th l r) = t) {v2 : Int} {th2 : Bool} {l2 r2 : Tr} {N : List Nat}
    (hK : Keeps (tb :: t.blocks) w w') (hF : ∀ x ∈ blkF C, w'.heap[x]? = w.heap[x]?) (ho : Own w' (node b ps ns v2 th2 l2 r2)) (hw : (node b ps ns v2 th2 l2 r2).Wf)
    (hP : (node b ps ns v2 th2 l2 r2).blocks.Perm (N ++ (node b ps ns vs th l r).blocks)) (hN : N.Nodup) (hN2 : ∀ x ∈ N, w.heap.size ≤ x)
    (htb : ∀ rb c, w.heap[tb]? = some (.cells (tabC (ptr rb) c) 59 (0, 0)) → w'.heap[tb]? = some (.cells (tabC (ptr rb) ((plug C (node b ps ns v2 th2 l2 r2)).ents.length)) 59 (0, 0))) : Added w tb t w' (plug C (node b ps ns v2 th2 l2 r2)) := by
  subst he
  obtain ⟨rb, rv, rth, rl, rr, e, ht⟩ := hT.root
  obtain ⟨rv2, rth2, rl2, rr2, e2⟩ := root_plug C b ps ns vs th l r e v2 th2 l2 r2
  have own0 := (own_plug C _).1 hT.own
  have pm : (plug C (node b ps ns v2 th2 l2 r2)).blocks.Perm (N ++ (plug C (node b ps ns vs th l r)).blocks) := by
    refine (blocks_plug C _).trans ((hP.append_right _).trans ?_)
    rw [List.append_assoc]
    exact (blocks_plug C _).symm.append_left N
  have lt : ∀ x ∈ tb :: (plug C (node b ps ns vs th l r)).blocks, x < w.heap.size := by
    intro x hx
    rcases List.mem_cons.1 hx with rfl | hx
    · exact lt_of_heap ht
    · exact own_lt hT.own x hx
  refine ⟨⟨⟨rb, rv2, rth2, rl2, rr2, e2, ?_⟩, (own_plug C _).2 ⟨ownF_frame own0.1 hF, ho⟩, (wf_plug C _ hT.wf).2 _ hw (.inl ⟨rfl, rfl⟩), ?_⟩, hK, ?_⟩
  · exact htb rb _ ht
  · have nd := hT.nd
    have e3 : (tb :: (plug C (node b ps ns v2 th2 l2 r2)).blocks).Perm (N ++ (tb :: (plug C (node b ps ns vs th l r)).blocks)) := (pm.cons tb).trans List.perm_middle.symm
    refine e3.nodup_iff.2 (List.nodup_append.2 ⟨hN, nd, ?_⟩)
    intro x hx y hy e
    subst e
    have := hN2 x hx
    have := lt x hy
    omega
  · intro x hx
    rcases List.mem_append.1 (pm.subset hx) with h | h
    · exact .inr (hN2 x h)
    · exact .inl h
set_option maxRecDepth 20000 in
set_option maxHeartbeats 2000000 in
theorem add_no {w : World} {tb : Nat} {t : Tr} (hT : Tab w tb t) (p : BitVec 32) (n v : Int) (hc : chk p n = 1) :
    Calls Try.prog 10 #[ptr tb, .int .u32 p.toNat, .int .i64 n, .int .i64 v] w fun e w' => e = .returned (.int .i64 1) ∧ w' = w := by
  obtain ⟨rb, rv, rth, rl, rr, rfl, ht⟩ := hT.root
  have HC : Hid _ := check_yes ht p n
  rw [hc] at HC
  clear hT ht hc
  go_enter Try.func10, Try.ntmps10
  go_wp2_with (first
    | (go_at_call 23; refine Calls.mono HC.out ?_; rintro e w9 ⟨rfl, rfl⟩; skip)
    | fail)
  go_ret
  exact ⟨rfl, rfl⟩
theorem new_ents {t t' : Tr} {p : BitVec 32} {m : Nat} {v : Int} (hw' : t'.Wf) (hw : t.Wf) (hk : hasKey t.ents p m = false) (hmem : ∀ x, x ∈ t'.ents ↔ x ∈ t.ents ∨ x = (p, m, v)) : t'.ents = ins (p, m, v) t.ents := by
  refine sorted_eq _ _ (ents_sorted _ hw') (sorted_ins _ _ (ents_sorted _ hw) ?_) fun x => ?_
  · intro y hy e
    have : hasKey t.ents p m = true := hasKey_iff.2 ⟨y.2.2, by have e1 : y.1 = p := e.1; have e2 : y.2.1 = m := e.2; rw [← e1, ← e2]; exact hy⟩
    rw [hk] at this; cases this
  · rw [hmem, mem_ins]; exact or_comm
theorem cnt {W : World} {tb rb : Nat} {c : Int} (h : W.heap[tb]? = some (.cells (tabC (ptr rb) c) 59 (0, 0))) (k : Int) : (W.setCell ⟨tb, 1, none⟩ (.int .i64 k)).heap[tb]? = some (.cells (tabC (ptr rb) k) 59 (0, 0)) := row_setCell h 1 _
theorem set_own {W : World} {b : Nat} {p : BitVec 32} {n : Nat} {v : Int} {th : Bool} {k0 k1 : Value} (h : W.heap[b]? = some (.cells (nodC p n v th k0 k1) 57 (0, 0))) (th2 : Bool) (v2 : Int) : ((W.setCell ⟨b, 3, none⟩ (.bool th2)).setCell ⟨b, 2, none⟩ (.int .i64 v2)).heap[b]? = some (.cells (nodC p n v2 th2 k0 k1) 57 (0, 0)) := row_setCell (row_setCell h 3 _) 2 _
theorem way_parts {t : Tr} {C : List Fr} {b : Nat} {ps : BitVec 32} {ns : Nat} {vs : Int} {th : Bool} {l r : Tr} {tb : Nat} (e : plug C (node b ps ns vs th l r) = t) (nd : (tb :: t.blocks).Nodup) : tb ≠ b ∧ b ∉ blkF C ∧ b ∉ l.blocks ∧ b ∉ r.blocks ∧ b ∈ t.blocks ∧ tb ∉ blkF C ∧ (∀ x ∈ blkF C, x ∈ t.blocks) ∧ (∀ x ∈ l.blocks, x ∈ t.blocks) ∧ (∀ x ∈ r.blocks, x ∈ t.blocks) ∧ tb ∉ t.blocks ∧ (∀ x ∈ l.blocks ++ r.blocks, x ∉ blkF C) ∧ (∀ x ∈ l.blocks, x ∉ r.blocks) := by
  have pm := blocks_plug C (node b ps ns vs th l r)
  rw [e] at pm
  have nd2 := (List.nodup_cons.1 nd)
  have nd3 := pm.nodup_iff.1 nd2.2
  have mem : ∀ x, x ∈ t.blocks ↔ x ∈ (node b ps ns vs th l r).blocks ++ blkF C := fun x => pm.mem_iff
  simp only [blocks, List.cons_append, List.nodup_cons, List.mem_append, not_or] at nd3
  obtain ⟨⟨n1, n2⟩, n3⟩ := nd3
  have n4 := List.nodup_append.1 n3
  have n5 := List.nodup_append.1 n4.1
  have hb : b ∈ t.blocks := (mem b).2 (by simp [blocks])
  refine ⟨fun h => nd2.1 (h ▸ hb), n2, n1.1, n1.2, hb, fun h => nd2.1 ((mem tb).2 (by simp [h])), fun x hx => (mem x).2 (by simp [hx]), fun x hx => (mem x).2 (by simp [blocks, hx]), fun x hx => (mem x).2 (by simp [blocks, hx]), nd2.1, fun x hx hy => n4.2.2 x hx x hy rfl, fun x hx hy => n5.2.2 x hx x hy rfl⟩
set_option maxRecDepth 20000 in
set_option maxHeartbeats 2000000 in
theorem add_yes {w : World} {tb : Nat} {t : Tr} (hT : Tab w tb t) (p : BitVec 32) (m : Nat) (v : Int) (hc : chk p m = 0) (hm : m ≤ 32) (hr : rightB p m = true) :
    Calls Try.prog 10 #[ptr tb, .int .u32 p.toNat, .int .i64 m, .int .i64 v] w fun e w' => e = .returned (.int .i64 (adC t.ents p m)) ∧ ∃ t', t'.ents = adL t.ents p m v ∧ Added w tb t w' t' := by
  have hT' := hT
  obtain ⟨rb, rv, rth, rl, rr, rfl, ht⟩ := hT'.root
  obtain ⟨t, hTr⟩ : ∃ t, t = node rb 0#32 0 rv rth rl rr := ⟨_, rfl⟩
  have HC : Hid _ := check_yes ht p m
  rw [hc] at HC
  have HP : Hid _ := path_any ht hT'.own hT'.wf p m hm
  rw [← hTr] at HP ht hT ⊢
  have HT : Hid _ := hT
  have HH : Hid _ := ht
  have hlen := ents_len hT.wf
  clear hT' hc hT hTr
  go_enter Try.func10, Try.ntmps10
  go_wp2_with (first
    | (go_at_call 23; refine Calls.mono HC.out ?_; rintro e w9 ⟨rfl, rfl⟩; skip)
    | fail)
  refine Calls.mono HP.out ?_
  rintro e W ⟨C, b, ps, ns, vs, th, l, r, q, rfl, wt, st, oq, bel⟩
  obtain ⟨g, cap, cur, rfl, g1, g2, g3, g4⟩ := oq_last oq
  obtain ⟨wk1, wk2, wk3⟩ := way_key HT.out.wf wt st hr hm
  obtain ⟨p1, p2, p3, p4, p5, p6, p7, p8, p9, p10, p11, p12⟩ := way_parts wt.t HT.out.nd
  have wfp : (plug C (node b ps ns vs th l r)).Wf := wt.t.symm ▸ HT.out.wf
  have wfs := (wf_plug C _ wfp).1
  have hC : C.length ≤ 32 := by have := way_rises C b ps ns vs th l r wfp; omega
  have oW : Own W t := bel_own HT.out.own bel
  have oS : Own W (node b ps ns vs th l r) := ((own_plug C _).1 (wt.t.symm ▸ oW)).2
  have c1 : W.cell? ⟨b, 1, none⟩ = some (.int .i64 ns) := cell_row oS.1 1
  have tW : W.heap[tb]? = some (.cells (tabC (ptr rb) t.ents.length) 59 (0, 0)) := (bel.block _ (lt_of_heap HH.out)).trans HH.out
  have hl64 : (t.ents.length : Int) ≤ 274877906944 := by omega
  have HW : Hid _ := wk1
  clear HP HC oq wk1
  by_cases hnm : ns = m
  · subst hnm
    have hps := wk2 rfl
    subst hps
    have c2 : W.cell? ⟨b, 2, none⟩ = some (.int .i64 vs) := cell_row oS.1 2
    have f2 := frozen_of_row W _ 2 _ _ oS.1
    have c3 : W.cell? ⟨b, 3, none⟩ = some (.bool th) := cell_row oS.1 3
    have f3 := frozen_of_row W _ 3 _ _ oS.1
    have ct : W.cell? ⟨tb, 1, none⟩ = some (.int .i64 t.ents.length) := cell_row tW 1
    have ft := frozen_of_row W _ 1 _ _ tW
    cases th
    · have HK : Hid (hasKey t.ents ps ns = false) := HW.out
      clear HW
      go_wp2
      go_ret
      have hmem : ∀ x, x ∈ (plug C (node b ps ns v true l r)).ents ↔ x ∈ t.ents ∨ x = (ps, ns, v) := by
        intro x
        rw [← wt.t, mem_plug, mem_plug]
        simp only [ents, List.mem_append, if_true, Bool.false_eq_true, if_false, List.mem_singleton, List.not_mem_nil, false_or]
        grind
      have wf' : (plug C (node b ps ns v true l r)).Wf := (wf_plug C _ wfp).2 _ wfs (.inl ⟨rfl, rfl⟩)
      have he := new_ents wf' HT.out.wf HK.out hmem
      refine ⟨by rw [(ad_no HK.out v).1]; rfl, plug C (node b ps ns v true l r), by rw [(ad_no HK.out v).2]; exact he, ?_⟩
      refine tab_plug HT.out wt.t (N := []) ?_ ?_ ?_ wfs (by simp [blocks]) List.nodup_nil (by simp) ?_
      · refine ((((Keeps.of_below _ bel).trans (Keeps.setCell _ b _ _) ?_).trans (Keeps.setCell _ b _ _) ?_).trans (Keeps.setCell _ tb _ _) ?_) <;> intro x hx <;> simp at hx <;> subst hx <;> simp [p5]
      · intro x hx
        have hxt : x ≠ tb := fun e => p6 (e ▸ hx)
        have hxb : x ≠ b := fun e => p2 (e ▸ hx)
        exact (Below.heap_setCell _ _ _ _ hxt).trans ((Below.heap_setCell _ _ _ _ hxb).trans ((Below.heap_setCell _ _ _ _ hxb).trans (bel.block x (own_lt HT.out.own x (p7 x hx)))))
      · refine ⟨(Below.heap_setCell _ _ _ _ p1.symm).trans (set_own oS.1 true v), own_frame oS.2.1 fun x hx => ?_, own_frame oS.2.2 fun x hx => ?_⟩
        · have hxt : x ≠ tb := fun e => p10 (e ▸ p8 x hx)
          have hxb : x ≠ b := fun e => p3 (e ▸ hx)
          exact (Below.heap_setCell _ _ _ _ hxt).trans ((Below.heap_setCell _ _ _ _ hxb).trans (Below.heap_setCell _ _ _ _ hxb))
        · have hxt : x ≠ tb := fun e => p10 (e ▸ p9 x hx)
          have hxb : x ≠ b := fun e => p4 (e ▸ hx)
          exact (Below.heap_setCell _ _ _ _ hxt).trans ((Below.heap_setCell _ _ _ _ hxb).trans (Below.heap_setCell _ _ _ _ hxb))
      · intro rb' c' h'
        have hh := (bel.block _ (lt_of_heap h')).trans h'
        rw [he, len_ins]
        exact cnt ((Below.heap_setCell _ _ _ _ p1).trans ((Below.heap_setCell _ _ _ _ p1).trans hh)) _
    · have HK : Hid (hasKey t.ents ps ns = true) := by show _ = _; rw [HW.out]; simp
      clear HW
      go_wp2
      go_ret
      exact ⟨by rw [(ad_yes HK.out v).1]; rfl, t, (ad_yes HK.out v).2.symm, Added.refl HT.out bel⟩
  · have hlt : ns < m := by have := wt.n; omega
    have hltI : (ns : Int) < (m : Int) := by omega
    have HK : Hid (hasKey t.ents p m = false) := by show _ = _; rw [HW.out]; simp [hnm]
    obtain ⟨k, hk⟩ : ∃ k, k = kidAt p ns l r := ⟨_, rfl⟩
    have hkb : b ∉ (kidAt p ns l r).blocks := by unfold kidAt; split <;> assumption
    have HG : Hid _ := grow_any oS wfs.1 p m hm hkb
    have kWf : k.Wf := by rw [hk]; unfold kidAt; split; exact wfs.2.2.2.2.2; exact wfs.2.2.2.2.1
    have kKid : Kid ps ns (p.getMsbD ns) k := by
      rw [hk]; unfold kidAt; cases p.getMsbD ns
      · exact wfs.2.2.1
      · exact wfs.2.2.2.1
    have gok := grown_ok hr hm wt.has hlt kKid kWf (hk ▸ st) W.heap.size v true
    rw [← hk] at HG
    have kOwn : Own W k := by rw [hk]; unfold kidAt; split; exact oS.2.2; exact oS.2.1
    have HHK : Hid _ := hk
    clear HW hk
    go_wp2_with fail
    refine Calls.mono HG.out ?_
    rintro e W2 ⟨rfl, oG, rB, kG⟩
    obtain ⟨ka, kb, rN⟩ := grown_row oG
    have c2 : W2.cell? ⟨W.heap.size, 2, none⟩ = some (.int .i64 0) := cell_row rN 2
    have f2 := frozen_of_row W2 _ 2 _ _ rN
    have c3 : W2.cell? ⟨W.heap.size, 3, none⟩ = some (.bool false) := cell_row rN 3
    have f3 := frozen_of_row W2 _ 3 _ _ rN
    have htl : tb < W.heap.size := lt_of_heap tW
    have tW2 : W2.heap[tb]? = some (.cells (tabC (ptr rb) t.ents.length) 59 (0, 0)) := (kG.block tb htl (by simpa using p1)).trans tW
    have ct : W2.cell? ⟨tb, 1, none⟩ = some (.int .i64 t.ents.length) := cell_row tW2 1
    have ft := frozen_of_row W2 _ 1 _ _ tW2
    have hne : tb ≠ W.heap.size := by omega
    go_wp2
    go_ret
    obtain ⟨gr, hgr⟩ : ∃ gr, gr = grown p m k W.heap.size v true := ⟨_, rfl⟩
    have hmem : ∀ x, x ∈ (plug C (rekid b ps ns vs th l r (p.getMsbD ns) gr)).ents ↔ x ∈ t.ents ∨ x = (p, m, v) := by
      intro x
      rw [← wt.t, mem_plug, mem_plug, rekid_mem (y := (p, m, v)) (fun z => by rw [hgr, grown_mem, HHK.out, kidAt_if])]
      grind
    have wfr : (rekid b ps ns vs th l r (p.getMsbD ns) gr).Wf := rekid_wf wfs (hgr ▸ gok.1) (hgr ▸ gok.2)
    have wf' : (plug C (rekid b ps ns vs th l r (p.getMsbD ns) gr)).Wf := (wf_plug C _ wfp).2 _ wfr (.inl ⟨rfl, rfl⟩)
    have he := new_ents wf' HT.out.wf HK.out hmem
    have bw := bel.size
    have hbl : b < W.heap.size := lt_of_heap oS.1
    refine ⟨by rw [(ad_no HK.out v).1]; rfl, plug C (rekid b ps ns vs th l r (p.getMsbD ns) gr), by rw [(ad_no HK.out v).2]; exact he, ?_⟩
    have old : ∀ x, x < W.heap.size → x ≠ b → x ≠ tb → ((W2.setCell ⟨W.heap.size, 3, none⟩ (.bool true)).setCell ⟨W.heap.size, 2, none⟩ (.int .i64 v)).heap[x]? = W.heap[x]? := fun x hx h1 h2 =>
      (Below.heap_setCell _ _ _ _ (show x ≠ W.heap.size by omega)).trans ((Below.heap_setCell _ _ _ _ (show x ≠ W.heap.size by omega)).trans (kG.block x hx (by simpa using h1)))
    refine tab_plug HT.out wt.t (N := newB p m k W.heap.size) ?_ ?_ ?_ wfr ?_ (newB_ge p m k W.heap.size).2 (fun x hx => Nat.le_trans bw ((newB_ge p m k W.heap.size).1 x hx)) ?_
    · refine (((((Keeps.of_below _ bel).trans kG ?_).trans (Keeps.setCell _ W.heap.size _ _) ?_).trans (Keeps.setCell _ W.heap.size _ _) ?_).trans (Keeps.setCell _ tb _ _) ?_)
      · intro x hx; simp at hx; subst hx; simp [p5]
      · intro x hx; simp at hx; subst hx; exact .inr bw
      · intro x hx; simp at hx; subst hx; exact .inr bw
      · intro x hx; simp at hx; subst hx; simp
    · intro x hx
      have hxl := own_lt HT.out.own x (p7 x hx)
      have hxt : x ≠ tb := fun e => p6 (e ▸ hx)
      exact (Below.heap_setCell _ _ _ _ hxt).trans ((old x (by omega) (fun e => p2 (e ▸ hx)) hxt).trans (bel.block x hxl))
    · refine rekid_own ?_ ?_ ?_
      · refine (Below.heap_setCell _ _ _ _ p1.symm).trans ((Below.heap_setCell _ _ _ _ (show b ≠ W.heap.size by omega)).trans ((Below.heap_setCell _ _ _ _ (show b ≠ W.heap.size by omega)).trans ?_))
        rw [hgr, grown_bk p m k W.heap.size v 0 true false]
        exact rB
      · have : ∀ z : Tr, Own W z → (∀ x ∈ z.blocks, x ∈ t.blocks ∧ x ≠ b) → Own (((W2.setCell ⟨W.heap.size, 3, none⟩ (.bool true)).setCell ⟨W.heap.size, 2, none⟩ (.int .i64 v)).setCell ⟨tb, 1, none⟩ (.int .i64 (t.ents.length + 1))) z := fun z hz hx => own_frame hz fun x hxz => by
          obtain ⟨h1, h2⟩ := hx x hxz
          have hxt : x ≠ tb := fun e => p10 (e ▸ h1)
          exact (Below.heap_setCell _ _ _ _ hxt).trans (old x (own_lt oW x h1) h2 hxt)
        cases p.getMsbD ns
        · exact this r oS.2.2 fun x hx => ⟨p9 x hx, fun e => p4 (e ▸ hx)⟩
        · exact this l oS.2.1 fun x hx => ⟨p8 x hx, fun e => p3 (e ▸ hx)⟩
      · rw [hgr]
        have kb : ∀ x ∈ k.blocks, x ∈ t.blocks ∧ x ≠ b := by
          intro x hx
          rw [HHK.out] at hx
          unfold kidAt at hx
          revert hx
          split
          · exact fun hx => ⟨p9 x hx, fun e => p4 (e ▸ hx)⟩
          · exact fun hx => ⟨p8 x hx, fun e => p3 (e ▸ hx)⟩
        refine grown_set oG (fun ka' kb' h' => (Below.heap_setCell _ _ _ _ hne.symm).trans (set_own h' true v)) ?_
        rintro x (rfl | hx)
        · exact (Below.heap_setCell _ _ _ _ (show W.heap.size + 1 ≠ tb by omega)).trans ((Below.heap_setCell _ _ _ _ (show W.heap.size + 1 ≠ W.heap.size by omega)).trans (Below.heap_setCell _ _ _ _ (show W.heap.size + 1 ≠ W.heap.size by omega)))
        · obtain ⟨h1, h2⟩ := kb x hx
          have hxt : x ≠ tb := fun e => p10 (e ▸ h1)
          have hxl := own_lt oW x h1
          exact (Below.heap_setCell _ _ _ _ hxt).trans ((Below.heap_setCell _ _ _ _ (show x ≠ W.heap.size by omega)).trans (Below.heap_setCell _ _ _ _ (show x ≠ W.heap.size by omega)))
    · refine rekid_blocks ?_
      rw [hgr, ← kidAt_if, ← HHK.out]
      exact grown_blocks p m k W.heap.size v true
    · intro rb' c' h'
      have hh := (bel.block _ (lt_of_heap h')).trans h'
      have hh2 := (kG.block tb htl (by simpa using p1)).trans hh
      rw [show plug C (node b ps ns vs th (if p.getMsbD ns then l else gr) (if p.getMsbD ns then gr else r)) = plug C (rekid b ps ns vs th l r (p.getMsbD ns) gr) from rfl, he, len_ins]
      exact cnt ((Below.heap_setCell _ _ _ _ hne).trans ((Below.heap_setCell _ _ _ _ hne).trans hh2)) _
end Go.Proofs.Ytlopnagajhjmmaa
