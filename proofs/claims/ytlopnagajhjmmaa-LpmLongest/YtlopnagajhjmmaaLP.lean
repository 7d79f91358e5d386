/- tidy, Table.Remove. Conditions: as said. -/
import Derived.Test.YtlopnagajhjmmaaLL
namespace Go.Proofs.Ytlopnagajhjmmaa
open Go.RowKit Tr
structure TS (w0 : World) (t0 : Tr) (rb g : Nat) (W : World) (C : List Fr) (b : Nat) (p : BitVec 32) (n : Nat) (v : Int) (th : Bool) (l r : Tr) : Prop where
  own : Own W (plug C (node b p n v th l r))
  wf : (plug C (node b p n v th l r)).Wf
  mem : ∀ x, x ∈ (plug C (node b p n v th l r)).ents ↔ x ∈ t0.ents
  nd : (plug C (node b p n v th l r)).blocks.Nodup
  sub : ∀ x ∈ (plug C (node b p n v th l r)).blocks, x ∈ t0.blocks
  keeps : Keeps t0.blocks w0 W
  row : ∃ cur, W.heap[g]? = some (.cells cur 54 (0, 0))
  cells : ∀ i, i < C.length + 1 → W.cell? ⟨g, i, none⟩ = (pathV C ++ [ptr b])[i]?
  root : ∃ rv rth rl rr, plug C (node b p n v th l r) = node rb 0#32 0 rv rth rl rr
def TidyAt (w0 : World) (t0 : Tr) (rb g len cap : Nat) (a' : Act) (W : World) : Prop :=
  ∃ (C : List Fr) (b : Nat) (p : BitVec 32) (n : Nat) (v : Int) (th : Bool) (l r : Tr) (u3 u4 u5 u6 u7 u8 u9 u10 u11 u12 u13 u14 u15 u16 u17 u18 u19 u20 u21 u22 u23 u24 u25 u26 u27 u28 u29 u30 u31 u32 u33 u34 u35 u36 u37 : Value),
    a' = { tmps := #[.slice (some ⟨g, 0, none⟩) len cap, undef, .int .i64 C.length, u3, u4, u5, u6, u7, u8, u9, u10, u11, u12, u13, u14, u15, u16, u17, u18, u19, u20, u21, u22, u23, u24, u25, u26, u27, u28, u29, u30, u31, u32, u33, u34, u35, u36, u37], defers := [] } ∧ C.length < len ∧ TS w0 t0 rb g W C b p n v th l r
def kidOf (l r : Tr) : Tr := match l with | nil => r | node .. => l
theorem kidOf_bk (l r : Tr) : (kidOf l r).bk = l.bk.or r.bk := by cases l <;> rfl
theorem TS.up {w0 : World} {t0 : Tr} {rb g : Nat} {W : World} {f : Fr} {C : List Fr} {b : Nat} {p : BitVec 32} {n : Nat} {v : Int} {l r : Tr} (h : TS w0 t0 rb g W (f :: C) b p n v false l r) (hk : (l.bk.isSome && r.bk.isSome) = false) (o : Nat) :
    TS w0 t0 rb g ((W.drewN o).setCell ⟨f.b, 4 + bitN p f.n, none⟩ (kp (kidOf l r).bk)) C f.b f.p f.n f.v f.th (if f.side then f.oth else kidOf l r) (if f.side then kidOf l r else f.oth) := by
  obtain ⟨h1, h2, h3, h4, h5, h6, ⟨cur, h7⟩, h8, ⟨rv, rth, rl, rr, h9⟩⟩ := h
  have ws := (wf_plug (f :: C) _ h2).1
  have wu := (wf_plug C (Go.Proofs.Ytlopnagajhjmmaa.up f (node b p n v false l r)) h2).1
  rw [wf_up] at wu
  obtain ⟨a1, a2, a3, a4, a5, a6⟩ := wu
  have hsd : f.side = p.getMsbD f.n := a3.2.2.symm
  have kk : (kidOf l r).Wf ∧ Kid f.p f.n f.side (kidOf l r) := by
    obtain ⟨g1, g2, g3, g4, g5, g6⟩ := ws
    have kd : ∀ (s : Bool) (z : Tr), Kid p n s z → Kid f.p f.n f.side z := by
      intro s z hz
      cases z with
      | nil => trivial
      | node b' p' n' v' th' l' r' =>
        obtain ⟨z1, z2, z3⟩ := hz
        obtain ⟨y1, y2, y3⟩ := a3
        refine ⟨by omega, hasB_trans g1 (by omega) y2 z2, ?_⟩
        rw [hasB_iff g1] at z2
        rw [z2 f.n y1, y3]
    cases l with
    | nil => exact ⟨g6, kd _ _ g4⟩
    | node => exact ⟨g5, kd _ _ g3⟩
  have own := (own_plug (f :: C) _).1 h1
  have oF := own.1
  have oS := own.2
  obtain ⟨oF1, oF2, oF3⟩ := oF
  have pm := blocks_plug (f :: C) (node b p n v false l r)
  have pm2 := blocks_plug (f :: C) (kidOf l r)
  have kb : (l.blocks ++ r.blocks) = (kidOf l r).blocks ∨ (kidOf l r).blocks = l.blocks ++ r.blocks := by
    cases l with
    | nil => left; rfl
    | node => cases r with
      | nil => left; simp [kidOf, blocks]
      | node => simp [bk] at hk
  have kb' : (kidOf l r).blocks = l.blocks ++ r.blocks := by rcases kb with h | h; exact h.symm; exact h
  have nd := pm.nodup_iff.1 h4
  have pm3 : (plug (f :: C) (node b p n v false l r)).blocks.Perm (b :: (plug (f :: C) (kidOf l r)).blocks) := by
    refine pm.trans (List.Perm.trans ?_ (pm2.symm.cons b))
    rw [kb']; simp [blocks]
  have nd3 := List.nodup_cons.1 (pm3.nodup_iff.1 h4)
  have nd4 := pm2.nodup_iff.1 nd3.2
  simp only [blkF] at nd4
  have hfb : f.b ∉ (kidOf l r).blocks ∧ f.b ∉ f.oth.blocks ∧ f.b ∉ blkF C := by
    have n1 := List.nodup_append.1 nd4
    have n2 := List.nodup_cons.1 n1.2.1
    simp only [List.mem_append, not_or] at n2
    exact ⟨fun h => n1.2.2 _ h _ (by simp) rfl, n2.1.1, n2.1.2⟩
  have hgf : g ≠ f.b := fun e => by rw [e, oF1] at h7; injection h7 with h7; injection h7 with _ h7; cases h7
  have hbt : f.b ∈ t0.blocks := h5 _ (pm.symm.subset (by simp [blkF]))
  have other : ∀ x, x ≠ f.b → ((W.drewN o).setCell ⟨f.b, 4 + bitN p f.n, none⟩ (kp (kidOf l r).bk)).heap[x]? = W.heap[x]? := fun x hx => Below.heap_setCell _ _ _ _ hx
  have frow : ((W.drewN o).setCell ⟨f.b, 4 + bitN p f.n, none⟩ (kp (kidOf l r).bk)).heap[f.b]? = some (.cells (frC f (kidOf l r).bk) 57 (0, 0)) := by
    refine (row_setCell (w := W.drewN o) oF1 (4 + bitN p f.n) (kp (kidOf l r).bk)).trans ?_
    congr 2
    unfold frC bitN
    rw [hsd]
    cases p.getMsbD f.n <;> rfl
  have kOwn : Own W (kidOf l r) := by
    cases l with
    | nil => exact oS.2.2
    | node => exact oS.2.1
  have e : plug C (node f.b f.p f.n f.v f.th (if f.side then f.oth else kidOf l r) (if f.side then kidOf l r else f.oth)) = plug (f :: C) (kidOf l r) := rfl
  refine ⟨?_, ?_, ?_, ?_, ?_, ?_, ⟨cur, (other g hgf).trans h7⟩, ?_, ?_⟩
  · rw [e]
    refine (own_plug (f :: C) _).2 ⟨⟨frow, own_frame oF2 fun x hx => other x fun e => hfb.2.1 (e ▸ hx), ownF_frame oF3 fun x hx => other x fun e => hfb.2.2 (e ▸ hx)⟩, own_frame kOwn fun x hx => other x fun e => hfb.1 (e ▸ hx)⟩
  · rw [e]
    exact (wf_plug (f :: C) _ h2).2 _ kk.1 (.inr ⟨f, C, rfl, kk.2⟩)
  · intro x
    rw [e, mem_plug, ← h3 x, mem_plug]
    have : x ∈ (kidOf l r).ents ↔ x ∈ (node b p n v false l r).ents := by
      cases l with
      | nil => simp [kidOf, ents]
      | node => cases r with
        | nil => simp [kidOf, ents]
        | node => simp [bk] at hk
    rw [this]
  · rw [e]; exact nd3.2
  · intro x hx
    rw [e] at hx
    exact h5 x (pm3.symm.subset (by simp [hx]))
  · refine (h6.trans (Keeps.drewN [] _ o) (by simp)).trans (Keeps.setCell _ f.b _ _) ?_
    intro x hx; simp at hx; subst hx; exact .inl hbt
  · intro i hi
    rw [World.cell?_setCell_other _ _ _ _ (fun e => hgf (congrArg Addr.block e).symm)]
    have := h8 i (by simp; omega)
    rw [pathV_cons, List.getElem?_append_left (by rw [List.length_append, pathV_len]; simp; omega)] at this
    exact this
  · exact root_plug C f.b f.p f.n f.v f.th _ _ h9 f.v f.th _ _
set_option maxRecDepth 20000 in
set_option maxHeartbeats 4000000 in
theorem tidy_any {w : World} {t0 : Tr} {rb g len cap : Nat} {C : List Fr} {b : Nat} {p : BitVec 32} {n : Nat} {v : Int} {th : Bool} {l r : Tr} (h : TS w t0 rb g w C b p n v th l r) (hl : len = C.length + 1) :
    Calls Try.prog 29 #[.slice (some ⟨g, 0, none⟩) len cap] w fun e w' => e = .returned (.tuple #[]) ∧ ∃ C b p n v th l r, TS w t0 rb g w' C b p n v th l r := by
  have hlen : len ≤ 33 := by have := way_rises C b p n v th l r h.wf; omega
  have HTS : Hid _ := h
  have hlI : (len : Int) - 1 = C.length := by omega
  have hClen : C.length < len := by omega
  clear h hl
  go_enter Try.func29, Try.ntmps29
  go_wp2
  refine scope_jumps 0 (TidyAt w t0 rb g len cap) (fun a' _ => (intOf (a'.tmps.getD 2 undef)).toNat) rfl ?_ ?_
  · clear hlI hClen HTS
    rintro a' W ⟨C, b, p, n, v, th, l, r, u3, u4, u5, u6, u7, u8, u9, u10, u11, u12, u13, u14, u15, u16, u17, u18, u19, u20, u21, u22, u23, u24, u25, u26, u27, u28, u29, u30, u31, u32, u33, u34, u35, u36, u37, rfl, hCl, ts⟩
    have HTS : Hid _ := ts
    cases C with
    | nil =>
      clear ts
      go_wp2
      simp only [Exit.jump]
      go_end0
      exact ⟨rfl, [], b, p, n, v, th, l, r, HTS.out⟩
    | cons f C =>
      simp only [List.length_cons] at hCl ⊢
      have own := (own_plug (f :: C) _).1 ts.own
      have rowb : W.heap[b]? = some (.cells (nodC p n v th (kp l.bk) (kp r.bk)) 57 (0, 0)) := own.2.1
      have rowf : W.heap[f.b]? = some (.cells (frC f (some b)) 57 (0, 0)) := own.1.1
      have hf32 : f.n ≤ 32 := by have := (wf_plug C (up f (node b p n v th l r)) ts.wf).1; rw [wf_up] at this; exact this.1
      have cg1 : W.cell? ⟨g, C.length + 1, none⟩ = some (ptr b) := by
        rw [ts.cells (C.length + 1) (by simp), List.getElem?_append_right (by rw [pathV_len]; simp), pathV_len]
        simp
      have cg0 : W.cell? ⟨g, C.length, none⟩ = some (ptr f.b) := by
        rw [ts.cells C.length (by simp; omega), pathV_cons, List.getElem?_append_left (by rw [List.length_append, pathV_len]; simp), List.getElem?_append_right (by rw [pathV_len]; exact Nat.le_refl _), pathV_len]
        simp
      have cb0 : W.cell? ⟨b, 0, none⟩ = some (.int .u32 p.toNat) := cell_row rowb 0
      have HN : Hid _ := isNeeded_any rowb
      obtain ⟨z, hz⟩ : ∃ z : Int, ((C.length + 1 : Nat) : Int) = z := ⟨_, rfl⟩
      rw [hz]
      have cz : W.cell? ⟨g, z.toNat, none⟩ = some (ptr b) := by rw [← hz]; exact cg1
      have cz1 : W.cell? ⟨g, z.toNat - 1, none⟩ = some (ptr f.b) := by rw [show z.toNat - 1 = C.length by omega]; exact cg0
      have hz0 : (0 : Int) ≤ z := by omega
      have hz1 : z < (len : Int) := by omega
      have hz2 : (0 : Int) ≤ z - 1 := by omega
      have hz3 : z - 1 < (len : Int) := by omega
      have hz4 : (0 : Int) < z := by omega
      have hz5 : z ≤ 33 := by omega
      have hz6 : (1 : Int) ≤ z := by omega
      have hz7 : z < (len : Int) + 1 := by omega
      have hz8 : z ≤ (len : Int) := by omega
      have HZ : Hid _ := hz
      clear hz hCl
      cases hnd : (th || (l.bk.isSome && r.bk.isSome))
      · rw [hnd] at HN
        have HD : Hid _ := hnd
        clear hnd ts own
        go_wp2_with (first
          | (go_at_call 37; refine Calls.mono HN.out ?_; rintro e w9 ⟨rfl, rfl⟩; skip)
          | fail)
        obtain ⟨kq, hkq⟩ : ∃ kq : Option Addr, kp (kidOf l r).bk = .pointer kq := by
          cases (kidOf l r).bk
          · exact ⟨none, rfl⟩
          · exact ⟨some _, rfl⟩
        have HKQ : Hid _ := hkq
        have HT : Hid (∀ V : World, V.heap = w9.heap → Calls Try.prog 33 #[ptr f.b, .int .u32 p.toNat] V fun e w' => e = .returned (.pointer (some ⟨f.b, 4 + bitN p f.n, none⟩)) ∧ ∃ j, w' = V.drewN j) := fun V hV => toward_any (w := V) (by rw [hV]; exact rowf) hf32 p
        have HO : Hid (∀ V : World, V.heap = w9.heap → Calls Try.prog 38 #[ptr b] V fun e w' => e = .returned (.pointer kq) ∧ w' = V) := fun V hV => by
          rw [← hkq, kidOf_bk]
          exact onlyKid_any (w := V) (by rw [hV]; exact rowb)
        have hgf : g ≠ f.b := fun e => by obtain ⟨cur, h7⟩ := HTS.out.row; rw [e, rowf] at h7; injection h7 with h7; injection h7 with _ h7; cases h7
        have hbf : b ≠ f.b := by
          intro e
          have nd := (blocks_plug (f :: C) (node b p n v th l r)).nodup_iff.1 HTS.out.nd
          simp only [blocks, blkF, List.cons_append, List.nodup_cons] at nd
          exact nd.1 (by simp [e])
        have cf := cell_row rowf (4 + bitN p f.n)
        obtain ⟨old, cf'⟩ : ∃ old : Option Addr, w9.cell? ⟨f.b, 4 + bitN p f.n, none⟩ = some (.pointer old) := by
          rw [cf]; unfold frC bitN
          cases p.getMsbD f.n
          · cases f.side
            · exact ⟨_, rfl⟩
            · cases f.oth.bk
              · exact ⟨none, rfl⟩
              · exact ⟨some _, rfl⟩
          · cases f.side
            · cases f.oth.bk
              · exact ⟨none, rfl⟩
              · exact ⟨some _, rfl⟩
            · exact ⟨_, rfl⟩
        have ff := frozen_of_row w9 _ (4 + bitN p f.n) _ _ rowf
        clear HN cf hkq
        have hwz : IntKind.i64.wrap (z - 1) = z - 1 := by simp [IntKind.wrap, IntKind.bits, IntKind.signed]; omega
        go_region_held3 (fun V => V.cell? ⟨g, z.toNat, none⟩ = some (ptr b) ∧ V.cell? ⟨g, z.toNat - 1, none⟩ = some (ptr f.b) ∧ V.cell? ⟨b, 0, none⟩ = some (.int .u32 p.toNat))
          (first
            | exact ⟨cz, cz1, cb0⟩
            | exact ⟨(World.cell?_setCell_other _ _ _ _ (fun e => hgf (congrArg Addr.block e).symm)).trans cz, (World.cell?_setCell_other _ _ _ _ (fun e => hgf (congrArg Addr.block e).symm)).trans cz1, (World.cell?_setCell_other _ _ _ _ (fun e => hbf (congrArg Addr.block e).symm)).trans cb0⟩
            | fail)
          (first
            | (go_at_call 33; refine Calls.mono (HT.out _ rfl) ?_; rintro e v9 ⟨rfl, k2, rfl⟩; skip)
            | (go_at_call 38; refine Calls.mono (HO.out _ rfl) ?_; rintro e v9 ⟨rfl, rfl⟩; skip)
            | fail)
        go_wp2
        go_step3
        have hth : th = false := by have := HD.out; cases th <;> simp_all
        have hks : (l.bk.isSome && r.bk.isSome) = false := by have := HD.out; rw [hth] at this; simpa using this
        subst hth
        have nx := TS.up HTS.out hks (1 + k2)
        rw [HKQ.out] at nx
        have ez : z - 1 = (C.length : Int) := by have := HZ.out; omega
        rw [ez]
        refine ⟨rfl, ⟨C, f.b, f.p, f.n, f.v, f.th, _, _, _, _, _, _, _, _, _, _, _, _, _, _, _, _, _, _, _, _, _, _, _, _, _, _, _, _, _, _, _, _, _, _, _, _, _, rfl, by have := HZ.out; omega, nx⟩, ?_⟩
        show ((C.length : Int)).toNat < z.toNat
        have := HZ.out
        omega
      · rw [hnd] at HN
        clear hnd ts own
        go_wp2_with (first
          | (go_at_call 37; refine Calls.mono HN.out ?_; rintro e w9 ⟨rfl, rfl⟩; skip)
          | fail)
        simp only [Exit.jump]
        go_end0
        exact ⟨rfl, f :: C, b, p, n, v, th, l, r, HTS.out⟩
  · intro HG
    go_wp2
    go_step3
    rename_i K hK
    exact hK _ _ (HG.out _ _ ⟨C, b, p, n, v, th, l, r, _, _, _, _, _, _, _, _, _, _, _, _, _, _, _, _, _, _, _, _, _, _, _, _, _, _, _, _, _, _, _, _, _, _, _, rfl, hClen, HTS.out⟩)
/-- What Remove answers, and what is left. -/
def reC (L : List Ro) (p : BitVec 32) (m : Nat) : Int := if hasKey L p m then 0 else 4
def reL (L : List Ro) (p : BitVec 32) (m : Nat) : List Ro := L.filter fun x => !(x.1 == p && x.2.1 == m)
theorem reL_sorted {L : List Ro} (h : L.Pairwise ltR) (p : BitVec 32) (m : Nat) : (reL L p m).Pairwise ltR := h.filter _
theorem reL_mem {L : List Ro} {p : BitVec 32} {m : Nat} {x : Ro} : x ∈ reL L p m ↔ x ∈ L ∧ ¬ (x.1 = p ∧ x.2.1 = m) := by
  unfold reL; rw [List.mem_filter]; simp; grind
theorem reL_none {L : List Ro} {p : BitVec 32} {m : Nat} (h : hasKey L p m = false) : reL L p m = L := by
  unfold reL
  rw [List.filter_eq_self]
  intro x hx
  cases hh : (x.1 == p && x.2.1 == m) with
  | false => rfl
  | true =>
    have : hasKey L p m = true := List.any_eq_true.2 ⟨x, hx, hh⟩
    rw [h] at this; cases this
theorem reL_len {L : List Ro} {p : BitVec 32} {m : Nat} {v : Int} (hs : L.Pairwise ltR) (h : (p, m, v) ∈ L) : (reL L p m).length + 1 = L.length := by
  have e : ins (p, m, v) (reL L p m) = L := by
    refine sorted_eq _ _ (sorted_ins _ _ (reL_sorted hs p m) fun y hy => (reL_mem.1 hy).2) hs fun x => ?_
    rw [mem_ins, reL_mem]
    constructor
    · rintro (rfl | h')
      · exact h
      · exact h'.1
    · intro hx
      by_cases g : x.1 = p ∧ x.2.1 = m
      · exact .inl (key_one hs hx h g.1 g.2)
      · exact .inr ⟨hx, g⟩
  have := len_ins (p, m, v) (reL L p m)
  rw [e] at this; omega
set_option maxRecDepth 20000 in
set_option maxHeartbeats 2000000 in
theorem remove_no {w : World} {tb : Nat} {t : Tr} (hT : Tab w tb t) (p : BitVec 32) (n : Int) (hc : chk p n = 1) :
    Calls Try.prog 12 #[ptr tb, .int .u32 p.toNat, .int .i64 n] w fun e w' => e = .returned (.int .i64 1) ∧ w' = w := by
  obtain ⟨rb, rv, rth, rl, rr, rfl, ht⟩ := hT.root
  have HC : Hid _ := check_yes ht p n
  rw [hc] at HC
  clear hT ht hc
  go_enter Try.func12, Try.ntmps12
  go_wp2_with (first
    | (go_at_call 23; refine Calls.mono HC.out ?_; rintro e w9 ⟨rfl, rfl⟩; skip)
    | fail)
  go_ret
  exact ⟨rfl, rfl⟩
set_option maxRecDepth 20000 in
set_option maxHeartbeats 2000000 in
theorem remove_yes {w : World} {tb : Nat} {t : Tr} (hT : Tab w tb t) (p : BitVec 32) (m : Nat) (hc : chk p m = 0) (hm : m ≤ 32) (hr : rightB p m = true) :
    Calls Try.prog 12 #[ptr tb, .int .u32 p.toNat, .int .i64 m] w fun e w' => e = .returned (.int .i64 (reC t.ents p m)) ∧ ∃ t', t'.ents = reL t.ents p m ∧ Added w tb t w' t' := by
  have hT' := hT
  obtain ⟨rb, rv, rth, rl, rr, rfl, ht⟩ := hT'.root
  obtain ⟨t, hTr⟩ : ∃ t, t = node rb 0#32 0 rv rth rl rr := ⟨_, rfl⟩
  have HC : Hid _ := check_yes ht p m
  rw [hc] at HC
  have HP : Hid _ := path_any ht hT'.own hT'.wf p m hm
  rw [← hTr] at HP ht hT ⊢
  have HT : Hid _ := hT
  have HH : Hid _ := ht
  have hlen := ents_len hT.wf
  have HTr : Hid _ := hTr
  clear hT' hc hT hTr
  go_enter Try.func12, Try.ntmps12
  go_wp2_with (first
    | (go_at_call 23; refine Calls.mono HC.out ?_; rintro e w9 ⟨rfl, hw9⟩; rw [hw9]; clear hw9; skip)
    | fail)
  refine Calls.mono HP.out ?_
  rintro e W ⟨C, b, ps, ns, vs, th, l, r, q, rfl, wt, st, oq, bel⟩
  have oq' := oq
  obtain ⟨g, cap, cur, rfl, g1, g2, g3, g4⟩ := oq_last oq
  obtain ⟨wk1, wk2, wk3⟩ := way_key HT.out.wf wt st hr hm
  obtain ⟨p1, p2, p3, p4, p5, p6, p7, p8, p9, p10, p11, p12⟩ := way_parts wt.t HT.out.nd
  have wfp : (plug C (node b ps ns vs th l r)).Wf := wt.t.symm ▸ HT.out.wf
  have wfs := (wf_plug C _ wfp).1
  have hC : C.length ≤ 32 := by have := way_rises C b ps ns vs th l r wfp; omega
  have oW : Own W t := bel_own HT.out.own bel
  have oS : Own W (node b ps ns vs th l r) := ((own_plug C _).1 (wt.t.symm ▸ oW)).2
  have tW : W.heap[tb]? = some (.cells (tabC (ptr rb) t.ents.length) 59 (0, 0)) := (bel.block _ (lt_of_heap HH.out)).trans HH.out
  have hl64 : (t.ents.length : Int) ≤ 274877906944 := by omega
  have HIS : Hid _ := is_any oS.1 m
  cases hk : hasKey t.ents p m
  · rw [← wk1, hk] at HIS
    have HK : Hid _ := hk
    clear HP HC oq oq' wk1 hk
    go_wp2_with (first
      | (go_at_call 28; refine Calls.mono HIS.out ?_; rintro e w9 ⟨rfl, rfl⟩; skip)
      | fail)
    go_ret
    exact ⟨by unfold reC; rw [HK.out]; rfl, t, (reL_none HK.out).symm, Added.refl HT.out bel⟩
  · rw [← wk1, hk] at HIS
    have hb := wk1.symm.trans hk
    obtain ⟨hth, hns⟩ : th = true ∧ ns = m := by simpa using hb
    subst hth
    subst hns
    obtain rfl := wk2 rfl
    have HK : Hid _ := hk
    have inT := wk3 rfl
    clear HP HC oq wk1 hk hb
    have c2 : W.cell? ⟨b, 2, none⟩ = some (.int .i64 vs) := cell_row oS.1 2
    have f2 := frozen_of_row W _ 2 _ _ oS.1
    have c3 : W.cell? ⟨b, 3, none⟩ = some (.bool true) := cell_row oS.1 3
    have f3 := frozen_of_row W _ 3 _ _ oS.1
    have ct : W.cell? ⟨tb, 1, none⟩ = some (.int .i64 t.ents.length) := cell_row tW 1
    have ft := frozen_of_row W _ 1 _ _ tW
    go_wp2_with (first
      | (go_at_call 28; refine Calls.mono HIS.out ?_; rintro e w9 ⟨rfl, hw9⟩; rw [hw9]; clear hw9; skip)
      | fail)
    obtain ⟨W3, hW3⟩ : ∃ W3, W3 = ((W.setCell ⟨b, 3, none⟩ (.bool false)).setCell ⟨b, 2, none⟩ (.int .i64 0)).setCell ⟨tb, 1, none⟩ (.int .i64 (t.ents.length - 1)) := ⟨_, rfl⟩
    rw [← hW3]
    obtain ⟨t1, ht1⟩ : ∃ t1, t1 = plug C (node b ps ns 0 false l r) := ⟨_, rfl⟩
    have bl1 : t1.blocks.Perm t.blocks := by rw [ht1, ← wt.t]; exact (blocks_plug C _).trans (blocks_plug C (node b ps ns vs true l r)).symm
    have wf1 : t1.Wf := by rw [ht1]; exact (wf_plug C _ wfp).2 _ wfs (.inl ⟨rfl, rfl⟩)
    have oth : ∀ x, x ≠ b → x ≠ tb → W3.heap[x]? = W.heap[x]? := fun x h1 h2 => by
      rw [hW3]; exact (Below.heap_setCell _ _ _ _ h2).trans ((Below.heap_setCell _ _ _ _ h1).trans (Below.heap_setCell _ _ _ _ h1))
    have own0 := (own_plug C _).1 (wt.t.symm ▸ oW)
    have own1 : Own W3 t1 := by
      rw [ht1]
      refine (own_plug C _).2 ⟨ownF_frame own0.1 fun x hx => oth x (fun e => p2 (e ▸ hx)) (fun e => p6 (e ▸ hx)), ?_, own_frame oS.2.1 fun x hx => oth x (fun e => p3 (e ▸ hx)) (fun e => p10 (e ▸ p8 x hx)), own_frame oS.2.2 fun x hx => oth x (fun e => p4 (e ▸ hx)) (fun e => p10 (e ▸ p9 x hx))⟩
      rw [hW3]
      exact (Below.heap_setCell _ _ _ _ p1.symm).trans (set_own oS.1 false 0)
    have hgb : g ≠ b := fun e => by rw [e, oS.1] at g2; injection g2 with g2; injection g2 with _ g2; cases g2
    have hgt : g ≠ tb := fun e => by rw [e, tW] at g2; injection g2 with g2; injection g2 with _ g2; cases g2
    have rg : W3.heap[g]? = some (.cells cur 54 (0, 0)) := (oth g hgb hgt).trans g2
    have cells1 : ∀ i, i < C.length + 1 → W3.cell? ⟨g, i, none⟩ = (pathV C ++ [ptr b])[i]? := by
      intro i hi
      rcases oq'.h.2 with ⟨_, e⟩ | ⟨g', cap', cur', hq, q1, q2, q3, q4, q5, q6⟩
      · omega
      · injection hq with hq1 hq2 hq3
        injection hq1 with hq1
        injection hq1 with hq1
        subst hq1
        obtain rfl : cur = cur' := by rw [g2] at q2; injection q2 with q2; injection q2
        rw [cell_row rg, ← q6, List.getElem?_take, if_pos (by omega), Array.getElem?_toList]
    have wt1 : WayTo t1 ps ns C b ps ns 0 false l r := ⟨ht1.symm, wt.on, wt.le, wt.has, wt.n⟩
    have hk1 : hasKey t1.ents ps ns = false := (way_key wf1 wt1 st hr hm).1
    have mem1 : ∀ x, x ∈ t1.ents ↔ x ∈ t.ents ∧ ¬ (x.1 = ps ∧ x.2.1 = ns) := by
      intro x
      have e1 : x ∈ t.ents ↔ x ∈ t1.ents ∨ x = (ps, ns, vs) := by
        rw [ht1, ← wt.t, mem_plug, mem_plug]
        simp only [ents, List.mem_append, if_true, Bool.false_eq_true, if_false, List.mem_singleton, List.not_mem_nil, false_or]
        grind
      rw [e1]
      constructor
      · intro h
        refine ⟨.inl h, fun hx => ?_⟩
        have : hasKey t1.ents ps ns = true := hasKey_iff.2 ⟨x.2.2, by rw [← hx.1, ← hx.2]; exact h⟩
        rw [hk1] at this; cases this
      · rintro ⟨h | h, hx⟩
        · exact h
        · subst h; exact absurd ⟨rfl, rfl⟩ hx
    have rootp := root_plug C b ps ns vs true l r (wt.t.trans HTr.out) 0 false l r
    have ts0 : TS W3 t1 rb g W3 C b ps ns 0 false l r := ⟨ht1 ▸ own1, ht1 ▸ wf1, fun x => by rw [ht1], ht1 ▸ bl1.symm.nodup (List.nodup_cons.1 HT.out.nd).2, fun x hx => by rw [ht1]; exact hx, Keeps.refl _ _, ⟨cur, rg⟩, cells1, rootp⟩
    have HTD : Hid _ := tidy_any (cap := cap) ts0 rfl
    have K3 : Keeps (tb :: t.blocks) w W3 := by
      rw [hW3]
      refine ((((Keeps.of_below _ bel).trans (Keeps.setCell _ b _ _) ?_).trans (Keeps.setCell _ b _ _) ?_).trans (Keeps.setCell _ tb _ _) ?_) <;> intro x hx <;> simp at hx <;> subst hx <;> simp [p5]
    have t3 : W3.heap[tb]? = some (.cells (tabC (ptr rb) (t.ents.length - 1)) 59 (0, 0)) := by
      rw [hW3]; exact cnt ((Below.heap_setCell _ _ _ _ p1).trans ((Below.heap_setCell _ _ _ _ p1).trans tW)) _
    clear hW3
    refine Calls.mono HTD.out ?_
    rintro e W4 ⟨rfl, C2, b2, p2', n2, v2, th2, l2, r2, ts⟩
    go_wp2
    go_ret
    obtain ⟨t2, ht2⟩ : ∃ t2, t2 = plug C2 (node b2 p2' n2 v2 th2 l2 r2) := ⟨_, rfl⟩
    obtain ⟨rv2, rth2, rl2, rr2, hroot⟩ := ts.root
    have ho := ts.own
    have hw2 := ts.wf
    have hmm := ts.mem
    have hnd := ts.nd
    have hsub := ts.sub
    have hkp := ts.keeps
    rw [← ht2] at ho hw2 hmm hnd hsub hroot
    have he : t2.ents = reL t.ents ps ns := by
      refine sorted_eq _ _ (ents_sorted _ hw2) (reL_sorted (ents_sorted _ HT.out.wf) ps ns) fun x => ?_
      rw [hmm, mem1, reL_mem]
    have hsubt : ∀ x ∈ t2.blocks, x ∈ t.blocks := fun x hx => bl1.subset (hsub x hx)
    refine ⟨by unfold reC; rw [HK.out]; rfl, t2, he, ⟨⟨rb, rv2, rth2, rl2, rr2, hroot, ?_⟩, ho, hw2, ?_⟩, ?_, fun x hx => .inl (hsubt x hx)⟩
    · rw [he, show ((reL t.ents ps ns).length : Int) = t.ents.length - 1 by have := reL_len (ents_sorted _ HT.out.wf) inT; omega]
      exact (hkp.block tb (lt_of_heap t3) (fun h => p10 (bl1.subset h))).trans t3
    · exact List.nodup_cons.2 ⟨fun h => p10 (hsubt tb h), hnd⟩
    · exact K3.trans hkp fun x hx => .inl (by simp [bl1.subset hx])
end Go.Proofs.Ytlopnagajhjmmaa
