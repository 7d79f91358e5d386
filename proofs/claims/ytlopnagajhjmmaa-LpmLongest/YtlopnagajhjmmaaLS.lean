/- Table.routes: the prefixes in their order. Conditions: as said. -/
import Derived.Test.YtlopnagajhjmmaaLR
namespace Go.Proofs.Ytlopnagajhjmmaa
open Go.RowKit Tr
/-! A scope with one label to which the run jumps back, with a number that falls. -/
theorem least {P : Nat → Prop} (h : ∃ n, P n) : ∃ n, P n ∧ ∀ m, P m → n ≤ m := by
  obtain ⟨n, hn⟩ := h
  induction n using Nat.strongRecOn with
  | _ n ih =>
    by_cases hh : ∃ m, m < n ∧ P m
    · obtain ⟨m, h1, h2⟩ := hh
      exact ih m h1 h2
    · exact ⟨n, hn, fun m hm => by
        rcases Nat.lt_or_ge m n with g | g
        · exact absurd ⟨m, g, hm⟩ hh
        · exact g⟩
open Classical in
noncomputable def leastOf (P : Nat → Prop) : Nat := if h : ∃ n, P n then Classical.choose (least h) else 0
theorem leastOf_spec {P : Nat → Prop} (h : ∃ n, P n) : P (leastOf P) ∧ ∀ m, P m → leastOf P ≤ m := by
  unfold leastOf
  rw [dif_pos h]
  exact Classical.choose_spec (least h)
theorem scope_jumps_n {P : Program} {a : Act} {w : World} {Q : Exit → Act → World → Prop} {c rest : Code} (l : Nat) (J : Nat → Act → World → Prop) (hf : findLabel c l = some (Code.skip.seq rest))
    (pass : ∀ n a w, J n a w → rest.wp P (Exit.jump l (fun a' w' => ∃ m, m < n ∧ J m a' w') Q) a w)
    (first : Hid (∀ a w, (∃ n, J n a w) → rest.wp P (Exit.jump l (fun a' w' => ∃ n, J n a' w') Q) a w) → c.wp P (Exit.jump l (fun a' w' => ∃ n, J n a' w') Q) a w) : (Code.scope c).wp P Q a w := by
  refine scope_jumps l (fun a w => ∃ n, J n a w) (fun a w => leastOf fun n => J n a w) hf ?_ first
  intro a w hJ
  obtain ⟨h1, _⟩ := leastOf_spec hJ
  refine Code.wp_mono ?_ (pass _ a w h1)
  intro e a' w' h
  cases e <;> first | exact h | (obtain ⟨hl, m, hm, hJm⟩ := h; exact ⟨hl, ⟨m, hJm⟩, Nat.lt_of_le_of_lt ((leastOf_spec ⟨m, hJm⟩).2 m hJm) hm⟩)
/-! Sizes. -/
def sz : Tr → Nat
  | nil => 0
  | node _ _ _ _ _ l r => 1 + sz l + sz r
def full : Tr → Tr
  | nil => nil
  | node b p n v _ l r => node b p n v true (full l) (full r)
theorem full_kid {p : BitVec 32} {n : Nat} {s : Bool} : ∀ {t : Tr}, Kid p n s t → Kid p n s (full t)
  | nil, _ => trivial
  | node _ _ _ _ _ _ _, h => h
theorem full_wf : ∀ {t : Tr}, t.Wf → (full t).Wf
  | nil, _ => trivial
  | node _ _ _ _ _ _ _, ⟨h1, h2, h3, h4, h5, h6⟩ => ⟨h1, h2, full_kid h3, full_kid h4, full_wf h5, full_wf h6⟩
theorem full_len : ∀ t : Tr, (full t).ents.length = sz t
  | nil => rfl
  | node _ _ _ _ _ l r => by simp [full, ents, sz, full_len l, full_len r]; omega
theorem sz_le {t : Tr} (h : t.Wf) : sz t ≤ 274877906944 := by rw [← full_len]; exact ents_len (full_wf h)
def stN : List Tr → Nat
  | [] => 0
  | s :: st => (2 * sz s + 1) + stN st
theorem stN_len : ∀ st : List Tr, st.length ≤ stN st
  | [] => Nat.le_refl _
  | s :: st => by have := stN_len st; simp [stN]; omega
def stV (st : List Tr) : List Value := (st.map fun s => kp s.bk).reverse
def roV (L : List Ro) : List Value := L.flatMap fun x => [.int .u32 x.1.toNat, .int .i64 x.2.1, .int .i64 x.2.2]
theorem roV_append (L M : List Ro) : roV (L ++ M) = roV L ++ roV M := by simp [roV]
theorem roV_len (L : List Ro) : (roV L).length = L.length * 3 := by
  induction L with
  | nil => rfl
  | cons x L ih => simp only [roV, List.flatMap_cons, List.length_append] at *; rw [ih]; simp; omega
structure OwnR (w : World) (B : Nat) (v : Value) (n : Nat) (xs : List Value) : Prop where
  h : w.ownsRow B 37 3 v n xs
theorem infoR : (Try.prog.info? 37).map (fun i => (i.zero, i.size, i.bytes)) = some (some (.agg #[.int .u32 0, .int .i64 0, .int .i64 0]), 3, 24) := by kernel_rfl
theorem rows_apart {w : World} {B B' : Nat} {e e' : TypeId} {s s' : Nat} {v v' : Value} {n n' : Nat} {xs xs' : List Value} (h : w.ownsRow B e s v n xs) (h' : w.ownsRow B' e' s' v' n' xs') (ht : e ≠ e') : v.ownBlock = none ∨ v.ownBlock ≠ v'.ownBlock := by
  rcases h.2 with ⟨rfl, _⟩ | ⟨g, cap, cur, rfl, _, h2, _⟩
  · exact .inl rfl
  · rcases h'.2 with ⟨rfl, _⟩ | ⟨g', cap', cur', rfl, _, h2', _⟩
    · exact .inr (by simp [Value.ownBlock])
    · refine .inr fun e0 => ?_
      simp [Value.ownBlock] at e0
      subst e0
      rw [h2] at h2'
      injection h2' with h2'
      injection h2' with _ h2'
      exact ht h2'
theorem own_slice3 {w : World} {B : Nat} {e : TypeId} {s : Nat} {v : Value} {n : Nat} {xs : List Value} (h : w.ownsRow B e s v n xs) : ∃ a c, v = .slice a n c := by
  rcases h.2 with ⟨e, rfl⟩ | ⟨g, cap, cur, e, _⟩
  · exact ⟨none, 0, e⟩
  · exact ⟨_, _, e⟩
/-- The last one of a row, and the row without it. -/
theorem row_pop {w : World} {B : Nat} {v : Value} {n : Nat} {xs : List Value} {x : Value} (h : w.ownsRow B 54 1 v (n + 1) (xs ++ [x])) : ∃ g cap, v = .slice (some ⟨g, 0, none⟩) (n + 1) cap ∧ n + 1 ≤ cap ∧ w.cell? ⟨g, n, none⟩ = some x ∧ w.ownsRow B 54 1 (.slice (some ⟨g, 0, none⟩) n cap) n xs := by
  have hl : xs.length = n := by have := h.1; simp at this; omega
  rcases h.2 with ⟨_, e⟩ | ⟨g, cap, cur, rfl, q1, q2, q3, q4, q5, q6⟩
  · omega
  · have key : (cur.toList.take ((n + 1) * 1))[n]? = cur.toList[n]? := by rw [List.getElem?_take, if_pos (by omega)]
    refine ⟨g, cap, rfl, q3, ?_, by omega, .inr ⟨g, cap, cur, rfl, q1, q2, by omega, q4, q5, ?_⟩⟩
    · rw [cell_row q2, ← Array.getElem?_toList, ← key, q6, List.getElem?_append_right (by omega), hl]
      simp
    · have := congrArg (List.take n) q6
      rw [List.take_take, show min n ((n + 1) * 1) = n * 1 by omega, List.take_left' hl] at this
      exact this
def RoutesAt (w : World) (tb : Nat) (t : Tr) (k : Nat) (a' : Act) (W : World) : Prop :=
  ∃ (acc : List Ro) (st : List Tr) (o td : Value) (u5 u6 u7 u8 u9 u10 u11 u12 u13 u14 u15 u16 u17 u18 u19 u20 u21 u22 u23 u24 u25 u26 u27 u28 u29 u30 u31 u32 u33 u34 u35 u36 u37 u38 u39 u40 u41 u42 u43 u44 u45 u46 u47 u48 u49 u50 u51 u52 u53 u54 : Value),
    a' = { tmps := #[ptr tb, undef, .slice none 0 0, o, td, u5, u6, u7, u8, u9, u10, u11, u12, u13, u14, u15, u16, u17, u18, u19, u20, u21, u22, u23, u24, u25, u26, u27, u28, u29, u30, u31, u32, u33, u34, u35, u36, u37, u38, u39, u40, u41, u42, u43, u44, u45, u46, u47, u48, u49, u50, u51, u52, u53, u54], defers := [] } ∧ k = stN st ∧ Hid (acc ++ st.flatMap ents = t.ents ∧ stN st ≤ 2 * sz t + 1 ∧ (∀ s ∈ st, Own w s)) ∧ OwnR W w.heap.size o acc.length (roV acc) ∧ OwnQ W w.heap.size td st.length (stV st) ∧ Below w.heap.size w W
theorem run_listk (a b : Option Nat) (w : World) : (Instr.buildSlice 60 2 #[(0, kp a), (1, kp b)]).run Try.prog w = .ok (.slice (some ⟨w.heap.size, 0, none⟩) 2 2) (w.alloc (.cells #[kp a, kp b] 54)) := by
  cases a <;> cases b <;> kernel_rfl
theorem run_listr (x : Ro) (w : World) : (Instr.buildSlice 26 1 #[(0, .agg #[.int .u32 x.1.toNat, .int .i64 x.2.1, .int .i64 x.2.2])]).run Try.prog w = .ok (.slice (some ⟨w.heap.size, 0, none⟩) 1 1) (w.alloc (.cells #[.int .u32 x.1.toNat, .int .i64 x.2.1, .int .i64 x.2.2] 37)) := by
  kernel_rfl
theorem cells_new3 (w : World) (a b c : Value) (t : TypeId) : ∀ j u, [a, b, c][j]? = some u → (w.alloc (.cells #[a, b, c] t)).cell? ((⟨w.heap.size, 0, none⟩ : Addr).add j) = some u := by
  intro j u h
  rw [plain_add3, cell_row (heap_alloc_new _ _), Nat.zero_add, ← Array.getElem?_toList]
  exact h
theorem cells_new2 (w : World) (a b : Value) (t : TypeId) : ∀ j u, [a, b][j]? = some u → (w.alloc (.cells #[a, b] t)).cell? ((⟨w.heap.size, 0, none⟩ : Addr).add j) = some u := by
  intro j u h
  rw [plain_add3, cell_row (heap_alloc_new _ _), Nat.zero_add, ← Array.getElem?_toList]
  exact h
theorem wp_append_run {op : Oper} {a : Act} {w w' : World} {K : Act → World → Prop} {Q : Exit → Act → World → Prop} (s x : Operand) (t : TypeId) (ho : op.op = Op.call { callee := Callee.builtin Builtin.append, args := #[s, x], argTypes := #[t, t] })
    (sv xv : Value) (hs : a.eval s = sv) (hx : a.eval x = xv) (v : Value) (hr : (Builtin.append_ #[t, t] op.type #[sv, xv]).run Try.prog w = .ok v w')
    (h : K (a.put op.dst v) w') : op.wp Try.prog a w K Q := by
  unfold Oper.wp
  simp [execOp, ho, resolve, invoke, builtin, hs, hx, hr, Result.andThen]
  exact h
theorem kp_ptr (a : Option Nat) : ∃ x : Option Addr, kp a = .pointer x := by cases a; exact ⟨none, rfl⟩; exact ⟨some _, rfl⟩
theorem kp_one (a : Option Nat) : (kp a).oneCell' = true := by cases a <;> rfl
set_option linter.unusedSimpArgs false in
set_option maxRecDepth 20000 in
set_option maxHeartbeats 4000000 in
theorem routes_any {w : World} {tb : Nat} {t : Tr} (hT : Tab w tb t) :
    Calls Try.prog 32 #[ptr tb] w fun e w' => ∃ q, e = .returned q ∧ OwnR w' w.heap.size q t.ents.length (roV t.ents) ∧ Below w.heap.size w w' := by
  have hT' := hT
  obtain ⟨rb, rv, rth, rl, rr, rfl, ht⟩ := hT'.root
  obtain ⟨t, hTr⟩ : ∃ t, t = node rb 0#32 0 rv rth rl rr := ⟨_, rfl⟩
  have HM : Hid _ := isMade_yes ht
  have c0 : w.cell? ⟨tb, 0, none⟩ = some (ptr rb) := cell_row ht 0
  rw [← hTr] at hT ⊢
  have hlen := ents_len hT.wf
  have hsz := sz_le hT.wf
  have HT : Hid _ := hT
  have hbk : Hid (t.bk = some rb) := by rw [hTr]; rfl
  obtain ⟨i0, hi, hz0, hz1, hz2⟩ := info_parts infoP
  obtain ⟨i1, hj, hy0, hy1, hy2⟩ := info_parts infoR
  have hq1 := run_list1 rb
  clear hT hT' ht hTr
  go_enter Try.func32, Try.ntmps32
  go_wp2_with fail
  refine scope_jumps_n 0 (RoutesAt w tb t) rfl ?_ ?_
  · clear HM c0 hbk hq1
    rintro k a' W ⟨acc, st, o, td, u5, u6, u7, u8, u9, u10, u11, u12, u13, u14, u15, u16, u17, u18, u19, u20, u21, u22, u23, u24, u25, u26, u27, u28, u29, u30, u31, u32, u33, u34, u35, u36, u37, u38, u39, u40, u41, u42, u43, u44, u45, u46, u47, u48, u49, u50, u51, u52, u53, u54, rfl, rfl, hfl, ho, htd, bel⟩
    cases st with
    | nil =>
      obtain ⟨oa, oc, rfl⟩ := own_slice3 ho.h
      obtain ⟨ta, tc, rfl⟩ := own_slice3 htd.h
      simp only [List.length_nil]
      go_wp2
      simp only [Exit.jump]
      go_ret
      have e : acc = t.ents := by have := hfl.out.1; simpa using this
      exact ⟨_, rfl, e ▸ ho, bel⟩
    | cons s st =>
      have e0 : stV (s :: st) = stV st ++ [kp s.bk] := by simp [stV]
      have hd := htd.h
      rw [e0] at hd
      obtain ⟨g, cap, rfl, hcap, hcell, hrest⟩ := row_pop hd
      have hstl : st.length + 1 ≤ 549755813889 := by have h1 := stN_len (s :: st); have h2 := hfl.out.2.1; simp at h1; omega
      have hI1 : (st.length : Int) < (st.length : Int) + 1 := by omega
      have hI2 : (st.length : Int) ≤ (cap : Int) := by omega
      clear hd htd
      simp only [List.length_cons]
      cases s with
      | nil =>
        have hcell' : W.cell? ⟨g, st.length, none⟩ = some (.pointer none) := hcell
        clear hcell
        go_wp2
        go_step3
        refine ⟨rfl, stN st, by simp [stN], acc, st, o, _, _, _, _, _, _, _, _, _, _, _, _, _, _, _, _, _, _, _, _, _, _, _, _, _, _, _, _, _, _, _, _, _, _, _, _, _, _, _, _, _, _, _, _, _, _, _, _, _, _, _, rfl, rfl, ⟨by have := hfl.out.1; simpa [ents] using this, by have := hfl.out.2.1; simp [stN] at this; omega, fun s hs => hfl.out.2.2 s (by simp [hs])⟩, ho, ⟨hrest⟩, bel⟩
      | node b p n v th l r =>
        have hcell' : W.cell? ⟨g, st.length, none⟩ = some (ptr b) := hcell
        have oS : Own W (node b p n v th l r) := bel_own (hfl.out.2.2 _ (by simp)) bel
        have c3 : W.cell? ⟨b, 3, none⟩ = some (.bool th) := cell_row oS.1 3
        clear hcell
        obtain ⟨oa, oc, rfl⟩ := own_slice3 ho.h
        cases th
        · go_wp2
          obtain ⟨kl, hkl⟩ := kp_ptr l.bk
          obtain ⟨kr, hkr⟩ := kp_ptr r.bk
          have HKL : Hid _ := hkl
          have HKR : Hid _ := hkr
          have c4 : W.cell? ⟨b, 4, none⟩ = some (.pointer kl) := (cell_row oS.1 4).trans (congrArg some hkl)
          have c5 : W.cell? ⟨b, 5, none⟩ = some (.pointer kr) := (cell_row oS.1 5).trans (congrArg some hkr)
          have hbW : b < W.heap.size := lt_of_heap oS.1
          obtain ⟨A, hA⟩ : ∃ A, A = W.drew.alloc (.cells #[.pointer kr, .pointer kl] 54) := ⟨_, rfl⟩
          have hzA : W.drew.heap.size = W.heap.size := rfl
          obtain ⟨v', W2, hap, ho2, hg2, _, hob⟩ := run_append_own_at (P := Try.prog) A w.heap.size 60 60 54 i0 (.pointer none) 1 8 Try.underlying60 hi hz0 hz1 hz2 rfl (by decide) (.slice (some ⟨g, 0, none⟩) st.length cap) st.length (stV st) (by rw [hA]; exact World.ownsRow.alloc (show W.drew.ownsRow _ _ _ _ _ _ from hrest) _) ⟨W.heap.size, 0, none⟩ 2 2 [.pointer kr, .pointer kl] rfl (by rw [hA]; exact cells_new2 W.drew _ _ _) (by intro u hu; simp at hu; rcases hu with rfl | rfl <;> rfl) (by unfold maxLen; omega) (by omega) (by rw [hA]; simp; have := bel.size; omega)
          obtain ⟨g', cap', rfl⟩ := own_slice ho2
          have bA : Below W.heap.size W A := by rw [hA]; exact (below1 W.drew _).trans (Below.refl _ _) |> fun h => ⟨h.os, h.tape, h.output, h.size, h.block⟩
          have bA' : Below w.heap.size w A := bel.trans (bA.mono bel.size)
          have b2 : Below w.heap.size w W2 := bA'.grown hg2 (by have := bA'.size; omega) (fun k hk => (World.ownsRow.lt hrest k hk).1)
          have hAz : A.heap.size = W.heap.size + 1 := by rw [hA]; simp
          have hgb : g ≠ b := fun e => by
            rcases hrest.2 with ⟨e1, _⟩ | ⟨g9, cap9, cur9, e1, _, h9, _⟩
            · cases e1
            · injection e1 with e1; injection e1 with e1; injection e1 with e1; subst e1; rw [e, oS.1] at h9; injection h9 with h9; injection h9 with _ h9; cases h9
          have d4 : A.cell? ⟨b, 4, none⟩ = some (.pointer kl) := (bA.cell (p := ⟨b, 4, none⟩) hbW).trans c4
          have d5 : A.cell? ⟨b, 5, none⟩ = some (.pointer kr) := (bA.cell (p := ⟨b, 5, none⟩) hbW).trans c5
          have hbne : some b ≠ Value.ownBlock (.slice (some ⟨g, 0, none⟩) st.length cap) := by simp [Value.ownBlock]; exact fun e => hgb e.symm
          have e4 : W2.cell? ⟨b, 4, none⟩ = some (.pointer kl) := hg2.cell d4 hbne
          have e5 : W2.cell? ⟨b, 5, none⟩ = some (.pointer kr) := hg2.cell d5 hbne
          rw [hA] at hap
          have HAP : Hid _ := hap
          clear hap
          have oR2 : OwnR W2 w.heap.size (.slice oa acc.length oc) acc.length (roV acc) := ⟨(World.ownsRow.alloc (show W.drew.ownsRow _ _ _ _ _ _ from ho.h) (.cells #[.pointer kr, .pointer kl] 54)).kept (by rw [← hA]; exact hg2) (rows_apart ho.h hrest (by decide))⟩
          have st2 : stV st ++ [.pointer kr, .pointer kl] = stV (l :: r :: st) := by simp [stV, hkl, hkr]
          rw [st2] at ho2
          clear hkl hkr hA st2 bA bA' hAz hbne hgb d4 d5 hob hg2 hzA
          go_region_held3 (fun V => V.cell? ⟨b, 4, none⟩ = some (.pointer kl) ∧ V.cell? ⟨b, 5, none⟩ = some (.pointer kr))
            (first
              | exact ⟨c4, c5⟩
              | exact ⟨e4, e5⟩
              | exact ⟨((below1 W.drew _).cell (p := ⟨b, 4, none⟩) hbW).trans c4, ((below1 W.drew _).cell (p := ⟨b, 5, none⟩) hbW).trans c5⟩
              | fail)
            (first
              | (refine wp_append_run _ _ 60 rfl _ _ rfl rfl _ HAP.out ?_)
              | fail)
          go_wp2
          go_step3
          refine ⟨rfl, stN (l :: r :: st), by simp [stN, sz]; omega, acc, l :: r :: st, _, _, _, _, _, _, _, _, _, _, _, _, _, _, _, _, _, _, _, _, _, _, _, _, _, _, _, _, _, _, _, _, _, _, _, _, _, _, _, _, _, _, _, _, _, _, _, _, _, _, _, _, rfl, rfl, ⟨by have := hfl.out.1; simpa [ents] using this, by have := hfl.out.2.1; simp [stN, sz] at this ⊢; omega, fun s hs => ?_⟩, oR2, ⟨ho2⟩, b2⟩
          have own0 := hfl.out.2.2 (node b p n v false l r) (by simp)
          simp only [List.mem_cons] at hs
          rcases hs with rfl | rfl | hs
          · exact own0.2.1
          · exact own0.2.2
          · exact hfl.out.2.2 s (by simp [hs])
        · have hacc : acc.length + 1 ≤ 274877906945 := by
            have h1 := congrArg List.length hfl.out.1
            simp only [List.length_append] at h1
            omega
          have RB : Hid _ := oS.1
          have HOW : Hid _ := World.ownsRow.alloc ho.h (.cells #[.int .u32 p.toNat, .int .i64 n, .int .i64 v] 37)
          have HC1 : Hid _ := cells_new3 W (.int .u32 p.toNat) (.int .i64 n) (.int .i64 v) 37
          have H1C : Hid (∀ u ∈ [Value.int .u32 p.toNat, .int .i64 n, .int .i64 v], u.oneCell' = true) := fun u hu => by simp at hu; rcases hu with rfl | rfl | rfl <;> rfl
          have HMX : Hid (acc.length + 1 ≤ maxLen) := (by unfold maxLen; omega : acc.length + 1 ≤ maxLen)
          have HBA : Hid (w.heap.size ≤ (W.alloc (.cells #[.int .u32 p.toNat, .int .i64 n, .int .i64 v] 37)).heap.size) := (by have := bel.size; simp; omega : w.heap.size ≤ (W.alloc (.cells #[.int .u32 p.toNat, .int .i64 n, .int .i64 v] 37)).heap.size)
          go_wp2_with (first
            | refine wpList_load_as rfl 37 _ rfl b 0 3 rfl (nodC p n v true (kp l.bk) (kp r.bk)) #[.int .u32 p.toNat, .int .i64 n, .int .i64 v] 57 _ RB.out Try.underlying37 rfl rfl rfl size3 ?_
            | (at_builtin; refine wpList_append_own_at _ rfl _ _ 26 rfl w.heap.size 37 i1 (.agg #[.int .u32 0, .int .i64 0, .int .i64 0]) 3 24 Try.underlying26 hj hy0 hy1 hy2 rfl (by decide) (.slice oa acc.length oc) acc.length (roV acc) rfl HOW.out ⟨W.heap.size, 0, none⟩ 1 1 [.int .u32 p.toNat, .int .i64 n, .int .i64 v] rfl rfl HC1.out H1C.out HMX.out (by omega) HBA.out ?_)
            | fail)
          intro v' W1 ho1 hg1 _ _
          obtain ⟨oa1, oc1, rfl⟩ := own_slice3 ho1
          have b1 : Below w.heap.size w W1 := ((bel.alloc bel.size _).grown hg1 (by have := bel.size; simp; omega) (fun k hk => (World.ownsRow.lt HOW.out k hk).1))
          have oS1 : Own W1 (node b p n v true l r) := bel_own (hfl.out.2.2 _ (by simp)) b1
          have rest1 : W1.ownsRow w.heap.size 54 1 (.slice (some ⟨g, 0, none⟩) st.length cap) st.length (stV st) := (World.ownsRow.alloc hrest _).kept hg1 (rows_apart hrest ho.h (by decide))
          have oo1 : OwnR W1 w.heap.size (.slice oa1 (acc.length + 1) oc1) (acc.length + 1) (roV acc ++ [.int .u32 p.toNat, .int .i64 n, .int .i64 v]) := ⟨ho1⟩
          clear HOW HC1 H1C HMX HBA RB ho1 hg1 hrest ho hcell' c3 oS
          go_wp2
          obtain ⟨kl, hkl⟩ := kp_ptr l.bk
          obtain ⟨kr, hkr⟩ := kp_ptr r.bk
          have HKL : Hid _ := hkl
          have HKR : Hid _ := hkr
          have c4 : W1.cell? ⟨b, 4, none⟩ = some (.pointer kl) := (cell_row oS1.1 4).trans (congrArg some hkl)
          have c5 : W1.cell? ⟨b, 5, none⟩ = some (.pointer kr) := (cell_row oS1.1 5).trans (congrArg some hkr)
          have hbW : b < W1.heap.size := lt_of_heap oS1.1
          obtain ⟨A, hA⟩ : ∃ A, A = W1.drew.alloc (.cells #[.pointer kr, .pointer kl] 54) := ⟨_, rfl⟩
          have hzA : W1.drew.heap.size = W1.heap.size := rfl
          obtain ⟨v', W2, hap, ho2, hg2, _, hob⟩ := run_append_own_at (P := Try.prog) A w.heap.size 60 60 54 i0 (.pointer none) 1 8 Try.underlying60 hi hz0 hz1 hz2 rfl (by decide) (.slice (some ⟨g, 0, none⟩) st.length cap) st.length (stV st) (by rw [hA]; exact World.ownsRow.alloc (show W1.drew.ownsRow _ _ _ _ _ _ from rest1) _) ⟨W1.heap.size, 0, none⟩ 2 2 [.pointer kr, .pointer kl] rfl (by rw [hA]; exact cells_new2 W1.drew _ _ _) (by intro u hu; simp at hu; rcases hu with rfl | rfl <;> rfl) (by unfold maxLen; omega) (by omega) (by rw [hA]; simp; have := b1.size; omega)
          obtain ⟨g', cap', rfl⟩ := own_slice ho2
          have bA : Below W1.heap.size W1 A := by rw [hA]; exact (below1 W1.drew _).trans (Below.refl _ _) |> fun h => ⟨h.os, h.tape, h.output, h.size, h.block⟩
          have bA' : Below w.heap.size w A := b1.trans (bA.mono b1.size)
          have b2 : Below w.heap.size w W2 := bA'.grown hg2 (by have := bA'.size; omega) (fun k hk => (World.ownsRow.lt rest1 k hk).1)
          have hAz : A.heap.size = W1.heap.size + 1 := by rw [hA]; simp
          have hgb : g ≠ b := fun e => by
            rcases rest1.2 with ⟨e1, _⟩ | ⟨g9, cap9, cur9, e1, _, h9, _⟩
            · cases e1
            · injection e1 with e1; injection e1 with e1; injection e1 with e1; subst e1; rw [e, oS1.1] at h9; injection h9 with h9; injection h9 with _ h9; cases h9
          have d4 : A.cell? ⟨b, 4, none⟩ = some (.pointer kl) := (bA.cell (p := ⟨b, 4, none⟩) hbW).trans c4
          have d5 : A.cell? ⟨b, 5, none⟩ = some (.pointer kr) := (bA.cell (p := ⟨b, 5, none⟩) hbW).trans c5
          have hbne : some b ≠ Value.ownBlock (.slice (some ⟨g, 0, none⟩) st.length cap) := by simp [Value.ownBlock]; exact fun e => hgb e.symm
          have e4 : W2.cell? ⟨b, 4, none⟩ = some (.pointer kl) := hg2.cell d4 hbne
          have e5 : W2.cell? ⟨b, 5, none⟩ = some (.pointer kr) := hg2.cell d5 hbne
          rw [hA] at hap
          have HAP : Hid _ := hap
          clear hap
          have oR2 : OwnR W2 w.heap.size (.slice oa1 (acc.length + 1) oc1) (acc.length + 1) (roV acc ++ [.int .u32 p.toNat, .int .i64 n, .int .i64 v]) := ⟨(World.ownsRow.alloc (show W1.drew.ownsRow _ _ _ _ _ _ from oo1.h) (.cells #[.pointer kr, .pointer kl] 54)).kept (by rw [← hA]; exact hg2) (rows_apart oo1.h rest1 (by decide))⟩
          have st2 : stV st ++ [.pointer kr, .pointer kl] = stV (l :: r :: st) := by simp [stV, hkl, hkr]
          rw [st2] at ho2
          clear hkl hkr hA st2 bA bA' hAz hbne hgb d4 d5 hob hg2 hzA
          go_region_held3 (fun V => V.cell? ⟨b, 4, none⟩ = some (.pointer kl) ∧ V.cell? ⟨b, 5, none⟩ = some (.pointer kr))
            (first
              | exact ⟨c4, c5⟩
              | exact ⟨e4, e5⟩
              | exact ⟨((below1 W1.drew _).cell (p := ⟨b, 4, none⟩) hbW).trans c4, ((below1 W1.drew _).cell (p := ⟨b, 5, none⟩) hbW).trans c5⟩
              | fail)
            (first
              | (refine wp_append_run _ _ 60 rfl _ _ rfl rfl _ HAP.out ?_)
              | fail)
          go_wp2
          go_step3
          have ea : roV acc ++ [.int .u32 p.toNat, .int .i64 n, .int .i64 v] = roV (acc ++ [(p, n, v)]) := by rw [roV_append]; rfl
          have el : acc.length + 1 = (acc ++ [(p, n, v)]).length := by simp
          rw [ea] at oR2
          refine ⟨rfl, stN (l :: r :: st), by simp [stN, sz]; omega, acc ++ [(p, n, v)], l :: r :: st, _, _, _, _, _, _, _, _, _, _, _, _, _, _, _, _, _, _, _, _, _, _, _, _, _, _, _, _, _, _, _, _, _, _, _, _, _, _, _, _, _, _, _, _, _, _, _, _, _, _, _, _, rfl, rfl, ⟨by have := hfl.out.1; simpa [ents] using this, by have := hfl.out.2.1; simp [stN, sz] at this ⊢; omega, fun s hs => ?_⟩, el ▸ oR2, ⟨ho2⟩, b2⟩
          have own0 := hfl.out.2.2 (node b p n v true l r) (by simp)
          simp only [List.mem_cons] at hs
          rcases hs with rfl | rfl | hs
          · exact own0.2.1
          · exact own0.2.2
          · exact hfl.out.2.2 s (by simp [hs])
  · intro HG
    go_wp2_with (first
      | (go_at_call 30; refine Calls.mono HM.out ?_; rintro e w9 ⟨rfl, hw9⟩; rw [hw9]; clear hw9; skip)
      | fail)
    go_step3
    rename_i K hK
    refine hK _ _ (HG.out _ _ ⟨2 * sz t + 1, [], [t], .slice none 0 0, .slice (some ⟨w.heap.size, 0, none⟩) 1 1, _, _, _, _, _, _, _, _, _, _, _, _, _, _, _, _, _, _, _, _, _, _, _, _, _, _, _, _, _, _, _, _, _, _, _, _, _, _, _, _, _, _, _, _, _, _, _, _, _, _, rfl, by simp [stN], ⟨by simp, by simp [stN], by intro s hs; simp at hs; subst hs; exact HT.out.own⟩, ⟨World.ownsRow_nil _ _ _ _⟩, ⟨?_⟩, below1 _ _⟩)
    refine ⟨rfl, .inr ⟨w.heap.size, 1, _, rfl, Nat.le_refl _, heap_alloc_new _ _, Nat.le_refl _, by simp [maxLen], rfl, ?_⟩⟩
    simp [stV, hbk.out, kp]
end Go.Proofs.Ytlopnagajhjmmaa
