/- The way to a prefix: Table.path. Conditions: as said. -/
import Derived.Test.YtlopnagajhjmmaaLE
import Derived.Maps.AppendAt
import Derived.OwnWalk
namespace Go.Proofs.Ytlopnagajhjmmaa
open Go.RowKit Tr
/-! A scope with one label to which the run jumps back. -/
theorem scope_jumps {P : Program} {a : Act} {w : World} {Q : Exit → Act → World → Prop} {c rest : Code} (l : Nat) (J : Act → World → Prop) (μ : Act → World → Nat) (hf : findLabel c l = some (Code.skip.seq rest))
    (pass : ∀ a w, J a w → rest.wp P (Exit.jump l (fun a' w' => J a' w' ∧ μ a' w' < μ a w) Q) a w)
    (first : Hid (∀ a w, J a w → rest.wp P (Exit.jump l J Q) a w) → c.wp P (Exit.jump l J Q) a w) : (Code.scope c).wp P Q a w := by
  refine wp_scope_jumps l J μ hf (first ?_) (fun a w hJ => wp_seq (wp_skip (pass a w hJ)))
  intro a w hJ
  refine Code.wp_mono ?_ (pass a w hJ)
  intro e a' w' h
  cases e <;> first | exact h | exact ⟨h.1, h.2.1⟩
theorem label_seq {P : Program} {a : Act} {w : World} {Q : Exit → Act → World → Prop} {l : Nat} {r : Code} (h : r.wp P Q a w) : ((Code.label l).seq r).wp P Q a w :=
  wp_seq (wp_label h)
theorem own_slice {w : World} {B : Nat} {e : TypeId} {v : Value} {n : Nat} {xs : List Value} (h : w.ownsRow B e 1 v n xs) : ∃ a c, v = .slice a n c := by
  rcases h.2 with ⟨e, rfl⟩ | ⟨g, cap, cur, e, _⟩
  · exact ⟨none, 0, e⟩
  · exact ⟨_, _, e⟩
theorem infoP : (Try.prog.info? 54).map (fun i => (i.zero, i.size, i.bytes)) = some (some (.pointer none), 1, 8) := by kernel_rfl
theorem run_list1 (eb : Nat) (w : World) : (Instr.buildSlice 60 1 #[(0, ptr eb)]).run Try.prog w = .ok (.slice (some ⟨w.heap.size, 0, none⟩) 1 1) (w.alloc (.cells #[ptr eb] 54)) := by
  kernel_rfl
theorem run_make33 (w : World) : (Instr.makeSlice 60 (.int .i64 0) (.int .i64 33)).run Try.prog w = .ok (.slice (some ⟨w.heap.size, 0, none⟩) 0 33) (w.alloc (.cells (Array.replicate 33 (.pointer none)) 54)) := by
  first | kernel_rfl | rfl
def pathV (C : List Fr) : List Value := (C.map fun f => ptr f.b).reverse
theorem pathV_len (C : List Fr) : (pathV C).length = C.length := by simp [pathV]
theorem pathV_cons (f : Fr) (C : List Fr) : pathV (f :: C) = pathV C ++ [ptr f.b] := by simp [pathV]
/-- A node on the way to an address, within a length. -/
structure WayTo (t : Tr) (ip : BitVec 32) (m : Nat) (C : List Fr) (b : Nat) (p : BitVec 32) (n : Nat) (v : Int) (th : Bool) (l r : Tr) : Prop where
  t : plug C (node b p n v th l r) = t
  on : ∀ f ∈ C, OnWay ip f
  le : ∀ f ∈ C, f.n ≤ m
  has : hasB p n ip = true
  n : n ≤ m
structure OwnQ (w : World) (B : Nat) (v : Value) (n : Nat) (xs : List Value) : Prop where
  h : w.ownsRow B 54 1 v n xs
theorem ownsRow_drewN {w : World} {B : Nat} {e : TypeId} {v : Value} {n : Nat} {xs : List Value} (h : w.ownsRow B e 1 v n xs) (k : Nat) : (w.drewN k).ownsRow B e 1 v n xs := h
/-- What holds at path's label. -/
def PathAt (w : World) (tb : Nat) (t : Tr) (ip : BitVec 32) (m : Nat) (a' : Act) (w' : World) : Prop :=
  ∃ (C : List Fr) (b : Nat) (p : BitVec 32) (n : Nat) (v : Int) (th : Bool) (l r : Tr) (q : Value) (u9 u10 u11 u12 u13 u14 u15 u16 u17 u18 u19 u20 u21 u22 u23 u24 u25 u26 u27 u28 u29 u30 u31 u32 u33 u34 u35 u36 u37 u38 u39 : Value),
    a' = { tmps := #[ptr tb, .int .u32 ip.toNat, .int .i64 m, undef, undef, undef, .slice none 0 0, q, ptr b, u9, u10, u11, u12, u13, u14, u15, u16, u17, u18, u19, u20, u21, u22, u23, u24, u25, u26, u27, u28, u29, u30, u31, u32, u33, u34, u35, u36, u37, u38, u39], defers := [] } ∧ WayTo t ip m C b p n v th l r ∧ OwnQ w' w.heap.size q C.length (pathV C) ∧ Below w.heap.size w w'
def lenOf : Value → Nat
  | .slice _ n _ => n
  | _ => 0
theorem bel_own {w w' : World} {t : Tr} (h : Own w t) (hb : Below w.heap.size w w') : Own w' t := own_frame h fun b hx => hb.block b (own_lt h b hx)
theorem kid_cell {w : World} {b : Nat} {p : BitVec 32} {n : Nat} {v : Int} {th : Bool} {l r : Tr} (h : Own w (node b p n v th l r)) (ip : BitVec 32) : w.cell? ⟨b, 4 + bitN ip n, none⟩ = some (kp (kidAt ip n l r).bk) := by
  have h4 : w.cell? ⟨b, 4, none⟩ = some (kp l.bk) := cell_row h.1 4
  have h5 : w.cell? ⟨b, 5, none⟩ = some (kp r.bk) := cell_row h.1 5
  unfold bitN kidAt
  cases ip.getMsbD n
  · exact h4
  · exact h5
theorem way_down {t : Tr} {ip : BitVec 32} {m : Nat} {C : List Fr} {b : Nat} {p : BitVec 32} {n : Nat} {v : Int} {th : Bool} {l r : Tr} (h : WayTo t ip m C b p n v th l r) {b' : Nat} {p' : BitVec 32} {n' : Nat} {v' : Int} {th' : Bool} {l' r' : Tr}
    (hk : kidAt ip n l r = node b' p' n' v' th' l' r') (hn : n' ≤ m) (hh : hasB p' n' ip = true) :
    WayTo t ip m ({ b := b, p := p, n := n, v := v, th := th, side := ip.getMsbD n, oth := if ip.getMsbD n then l else r } :: C) b' p' n' v' th' l' r' := by
  refine ⟨?_, ?_, ?_, hh, hn⟩
  · rw [plug, ← hk, ← h.t]
    congr 1
    unfold up kidAt
    cases ip.getMsbD n <;> simp
  · intro f hf
    rcases List.mem_cons.1 hf with rfl | hf
    · exact ⟨h.has, rfl⟩
    · exact h.on f hf
  · intro f hf
    rcases List.mem_cons.1 hf with rfl | hf
    · exact h.n
    · exact h.le f hf
set_option maxRecDepth 20000 in
set_option maxHeartbeats 2000000 in
theorem path_any {w : World} {tb : Nat} {c : Int} {rb : Nat} {rv : Int} {rth : Bool} {rl rr : Tr} (ht : w.heap[tb]? = some (.cells (tabC (ptr rb) c) 59 (0, 0))) (ho : Own w (node rb 0#32 0 rv rth rl rr)) (hw : (node rb 0#32 0 rv rth rl rr).Wf) (ip : BitVec 32) (m : Nat) (hm : m ≤ 32) :
    Calls Try.prog 24 #[ptr tb, .int .u32 ip.toNat, .int .i64 m] w fun e w' => ∃ C b p n v th l r q, e = .returned q ∧ WayTo (node rb 0#32 0 rv rth rl rr) ip m C b p n v th l r ∧ Stops ip m (kidAt ip n l r) ∧ OwnQ w' w.heap.size q (C.length + 1) (pathV C ++ [ptr b]) ∧ Below w.heap.size w w' := by
  have c0 : w.cell? ⟨tb, 0, none⟩ = some (ptr rb) := cell_row ht 0
  have htb := lt_of_heap ht
  obtain ⟨t, hT⟩ : ∃ t, t = node rb 0#32 0 rv rth rl rr := ⟨_, rfl⟩
  have hW : WayTo t ip m [] rb 0#32 0 rv rth rl rr := ⟨hT.symm, by simp, by simp, by rw [hasB_iff (by omega)]; intro i hi; omega, by omega⟩
  rw [← hT] at ho hw ⊢
  have HT : Hid _ := hT
  obtain ⟨i0, hi, hz0, hz1, hz2⟩ := info_parts infoP
  clear ht hT
  go_enter Try.func24, Try.ntmps24
  go_wp2
  refine scope_jumps 0 (PathAt w tb t ip m) (fun a' _ => 33 - lenOf (a'.tmps.getD 7 undef)) rfl ?_ ?_
  · rintro a' W ⟨C, b, p, n, v, th, l, r, q, u9, u10, u11, u12, u13, u14, u15, u16, u17, u18, u19, u20, u21, u22, u23, u24, u25, u26, u27, u28, u29, u30, u31, u32, u33, u34, u35, u36, u37, u38, u39, rfl, wt, oq, bel⟩
    have wfp : (plug C (node b p n v th l r)).Wf := wt.t ▸ hw
    obtain ⟨hC, hn32, _, _⟩ := way_rises C b p n v th l r wfp
    have oW : Own W (node b p n v th l r) := ((own_plug C _).1 (wt.t.symm ▸ bel_own ho bel)).2
    have hbl : b < w.heap.size := own_lt ((own_plug C _).1 (wt.t.symm ▸ ho)).2 b (by simp [blocks])
    have hsz := bel.size
    obtain ⟨qa0, qc0, rfl⟩ := own_slice oq.h
    have HOW : Hid _ := World.ownsRow.alloc oq.h (.cells #[ptr b] 54)
    have HC1 : Hid _ := cell_one_new W (ptr b) 54
    have H1C : Hid (∀ u ∈ [ptr b], u.oneCell' = true) := fun u hu => by simp at hu; subst hu; rfl
    have HMX : Hid (C.length + 1 ≤ maxLen) := (by unfold maxLen; omega : C.length + 1 ≤ maxLen)
    have HBA : Hid (w.heap.size ≤ (W.alloc (.cells #[ptr b] 54)).heap.size) := (by simp; omega : w.heap.size ≤ (W.alloc (.cells #[ptr b] 54)).heap.size)
    have hqb := run_list1 b
    go_wp2_with (first
      | (at_builtin; refine wpList_append_own_at _ rfl _ _ 60 rfl w.heap.size 54 i0 (.pointer none) 1 8 Try.underlying60 hi hz0 hz1 hz2 rfl (by decide) (.slice qa0 C.length qc0) C.length (pathV C) rfl HOW.out ⟨W.heap.size, 0, none⟩ 1 1 [ptr b] rfl rfl HC1.out H1C.out HMX.out (by omega) HBA.out ?_)
      | fail)
    intro v' W1 ho1 hg _ _
    obtain ⟨qa, qc, rfl⟩ := own_slice ho1
    have b1 : Below w.heap.size w W1 := ((bel.alloc hsz _).grown hg (by simp; omega) (fun k hk => (World.ownsRow.lt HOW.out k hk).1))
    have o1 : Own W1 (node b p n v th l r) := ((own_plug C _).1 (wt.t.symm ▸ bel_own ho b1)).2
    have HO1 : OwnQ W1 w.heap.size (.slice qa (C.length + 1) qc) (C.length + 1) (pathV C ++ [ptr b]) := ⟨ho1⟩
    have HTW : Hid _ := toward_any o1.1 hn32 ip
    have hkc := kid_cell o1 ip
    clear HOW HC1 H1C HMX HBA hqb ho1 hg oq oW
    cases hk : kidAt ip n l r with
    | nil =>
      rw [hk] at hkc
      have hkc' : W1.cell? ⟨b, 4 + bitN ip n, none⟩ = some (.pointer none) := hkc
      clear hkc
      go_wp2_with (first
        | (go_at_call 33; refine Calls.mono HTW.out ?_; rintro e w9 ⟨rfl, kk, rfl⟩; skip)
        | fail)
      simp only [Exit.jump]
      go_ret
      exact ⟨C, b, p, n, v, th, l, r, _, rfl, wt, by rw [hk]; trivial, ⟨ownsRow_drewN HO1.h _⟩, below_drewN b1 _⟩
    | node b' p' n' v' th' l' r' =>
      rw [hk] at hkc
      have hkc' : W1.cell? ⟨b, 4 + bitN ip n, none⟩ = some (ptr b') := hkc
      clear hkc
      have ok1 : Own W1 (node b' p' n' v' th' l' r') := by
        rw [← hk]; unfold kidAt; split
        · exact o1.2.2
        · exact o1.2.1
      have wfk : (node b' p' n' v' th' l' r').Wf := by
        have := (wf_plug C _ wfp).1
        rw [← hk]; unfold kidAt; split
        · exact this.2.2.2.2.2
        · exact this.2.2.2.2.1
      have c1 : W1.cell? ⟨b', 1, none⟩ = some (.int .i64 n') := cell_row ok1.1 1
      by_cases hnm : n' ≤ m
      · have hnm' : (n' : Int) ≤ (m : Int) := by omega
        have HHS : Hid (∀ kk, Calls Try.prog 34 #[ptr b', .int .u32 ip.toNat] (W1.drewN kk) fun e w' => e = .returned (.bool (hasB p' n' ip)) ∧ ∃ k, w' = (W1.drewN kk).drewN k) := fun kk => has_any (w := W1.drewN kk) (show (W1.drewN kk).heap[b']? = _ from ok1.1) wfk.1 ip
        cases hb : hasB p' n' ip
        · rw [hb] at HHS
          go_wp2_with (first
            | (go_at_call 33; refine Calls.mono HTW.out ?_; rintro e w9 ⟨rfl, kk, rfl⟩; skip)
            | (go_at_call 34; refine Calls.mono (HHS.out _) ?_; rintro e w9 ⟨rfl, k2, rfl⟩; skip)
            | fail)
          simp only [Exit.jump]
          go_ret
          exact ⟨C, b, p, n, v, th, l, r, _, rfl, wt, by rw [hk]; exact .inr hb, ⟨ownsRow_drewN HO1.h _⟩, below_drewN b1 _⟩
        · rw [hb] at HHS
          go_wp2_with (first
            | (go_at_call 33; refine Calls.mono HTW.out ?_; rintro e w9 ⟨rfl, kk, rfl⟩; skip)
            | (go_at_call 34; refine Calls.mono (HHS.out _) ?_; rintro e w9 ⟨rfl, k2, rfl⟩; skip)
            | fail)
          go_step3
          refine ⟨rfl, ⟨_, b', p', n', v', th', l', r', _, _, _, _, _, _, _, _, _, _, _, _, _, _, _, _, _, _, _, _, _, _, _, _, _, _, _, _, _, _, _, _, rfl, way_down wt hk hnm hb, ⟨?_⟩, below_drewN b1 _⟩, ?_⟩
          · rw [pathV_cons]; exact ownsRow_drewN HO1.h _
          · show 33 - (C.length + 1) < 33 - C.length
            omega
      · have hnm' : ¬ (n' : Int) ≤ (m : Int) := by omega
        go_wp2_with (first
          | (go_at_call 33; refine Calls.mono HTW.out ?_; rintro e w9 ⟨rfl, kk, rfl⟩; skip)
          | fail)
        simp only [Exit.jump]
        go_ret
        exact ⟨C, b, p, n, v, th, l, r, _, rfl, wt, by rw [hk]; exact .inl (by omega), ⟨ownsRow_drewN HO1.h _⟩, below_drewN b1 _⟩
  · intro HG
    have hmk := run_make33 w
    go_wp2
    go_step3
    rename_i K hK
    refine hK _ _ (HG.out _ _ ⟨[], rb, 0#32, 0, rv, rth, rl, rr, _, _, _, _, _, _, _, _, _, _, _, _, _, _, _, _, _, _, _, _, _, _, _, _, _, _, _, _, _, _, _, _, rfl, hW, ⟨?_⟩, below1 _ _⟩)
    exact ⟨rfl, .inr ⟨w.heap.size, 33, Array.replicate 33 (.pointer none), rfl, Nat.le_refl _, heap_alloc_new _ _, by simp, by simp [maxLen], by simp, rfl⟩⟩
end Go.Proofs.Ytlopnagajhjmmaa
