/- What do does with a list of actions: its invariant, its parts. Conditions: as said. -/
import Derived.Test.YtnahhmcmahbnkaaGreatDoorGXHtoXI
import Derived.Test.YtnahhmcmahbnkaaGreatDoorMB
import Derived.Lib.Hide
namespace Go.Proofs.YtnahhmcmahbnkaaGreatDoor
open Go.RowKit
theorem least {p : Nat → Prop} (h : ∃ n, p n) : ∃ n, p n ∧ ∀ m, p m → n ≤ m := by
  obtain ⟨n, hn⟩ := h
  induction n using Nat.strongRecOn with
  | _ n ih =>
    by_cases h : ∃ m, m < n ∧ p m
    · obtain ⟨m, hm, hp⟩ := h
      exact ih m hm hp
    · exact ⟨n, hn, fun m hp => by
        rcases Nat.lt_or_ge m n with h1 | h1
        · exact absurd ⟨m, h1, hp⟩ h
        · exact h1⟩
open Classical in
noncomputable def lst (p : Nat → Prop) : Nat := if h : ∃ n, p n then (least h).choose else 0
theorem lst_spec {p : Nat → Prop} (h : ∃ n, p n) : p (lst p) ∧ ∀ m, p m → lst p ≤ m := by
  unfold lst
  rw [dif_pos h]
  exact (least h).choose_spec
/-- A scope with a label to which the run jumps back, by a number that falls. -/
theorem scope_falls {P : Program} {a : Act} {w : World} {Q : Exit → Act → World → Prop} {c rest : Code} (l : Nat) (J : Nat → Act → World → Prop) (hf : findLabel c l = some (Code.skip.seq rest))
    (pass : ∀ n a w, J n a w → rest.wp P (Exit.jump l (fun a' w' => ∃ m, m < n ∧ J m a' w') Q) a w)
    (first : Hid (∀ n a w, J n a w → rest.wp P (Exit.jump l (fun a' w' => ∃ m, J m a' w') Q) a w) → c.wp P (Exit.jump l (fun a' w' => ∃ m, J m a' w') Q) a w) : (Code.scope c).wp P Q a w := by
  refine scope_jumps l (fun a' w' => ∃ m, J m a' w') (fun a' w' => lst fun m => J m a' w') hf (fun a w hJ => ?_) (fun _ => first (fun n a w hJ => ?_))
  · obtain ⟨h1, h2⟩ := lst_spec hJ
    refine Code.wp_mono ?_ (pass _ a w h1)
    intro e a' w' h
    cases e with
    | goto l' =>
      obtain ⟨e, m, hm, hj⟩ := h
      exact ⟨e, ⟨m, hj⟩, Nat.lt_of_le_of_lt ((lst_spec ⟨m, hj⟩).2 m hj) hm⟩
    | _ => exact h
  · refine Code.wp_mono ?_ (pass n a w hJ)
    intro e a' w' h
    cases e with
    | goto l' =>
      obtain ⟨e, m, _, hj⟩ := h
      exact ⟨e, m, hj⟩
    | _ => exact h
/-- What a run of do holds on to: W is the world that it began in. -/
structure DoI (w0 W : World) (pb n : Nat) (T : Nat → Nat) (tv : Value) (rb : Nat) (wr : World) (l : List AOp) (v : Value) (s : Array Value) (q : Nat) (o : SentL) (sv : Value) (B : Nat) (old : Array Value) : Prop where
  base : Below w0.heap.size w0 wr
  run : wr.heap[rb]? = some (.cells (runC pb tv sv q) 89 (0, 0))
  own : wr.ownsRow w0.heap.size 66 51 sv o.length (sentsC o)
  acts : ActsAt n T l B W v
  st : St s
  sx : wr.heap[W.heap.size]? = some (.cells s 38 (0, 0))
  ax : wr.heap[W.heap.size + 1]? = some (.cells old 49 (0, 0))
  old15 : old.size = 15
  go : q ≤ 4096
  mv : Mv w0.heap.size W.heap.size W wr
section
variable {w0 W : World} {pb n : Nat} {T : Nat → Nat} {tv : Value} {rb : Nat} {wr : World} {l : List AOp} {v : Value} {s : Array Value} {q : Nat} {o : SentL} {sv : Value} {B : Nat} {old : Array Value}
theorem own_same {m k C : Nat} {w w' : World} {v : Value} {xs : List Value} (hown : w.ownsRow C 66 m v k xs) (h : ∀ g, g < w.heap.size → w'.heap[g]? = w.heap[g]?) : w'.ownsRow C 66 m v k xs := by
  refine ⟨hown.1, ?_⟩
  rcases hown.2 with h0 | ⟨g, cap, cur, rfl, hb, hc, h1⟩
  · exact .inl h0
  · exact .inr ⟨g, cap, cur, rfl, hb, (h g (lt_of_heap hc)).trans hc, h1⟩
theorem own_put {m k C x : Nat} {w w' : World} {v : Value} {xs : List Value} {A : Array Value} {t : TypeId} {r : Nat × Nat} (hown : w.ownsRow C 66 m v k xs) (hx : w.heap[x]? = some (.cells A t r)) (ht : t ≠ 66) (h : ∀ g, g ≠ x → w'.heap[g]? = w.heap[g]?) : w'.ownsRow C 66 m v k xs := by
  refine ⟨hown.1, ?_⟩
  rcases hown.2 with h0 | ⟨g, cap, cur, rfl, hb, hc, h1⟩
  · exact .inl h0
  · refine .inr ⟨g, cap, cur, rfl, hb, (h g (fun e => ?_)).trans hc, h1⟩
    subst e
    rw [hx] at hc
    cases hc
    exact ht rfl
theorem ne_type {w : World} {x y : Nat} {A A' : Array Value} {t t' : TypeId} {r r' : Nat × Nat} (hx : w.heap[x]? = some (.cells A t r)) (hy : w.heap[y]? = some (.cells A' t' r')) (ht : t ≠ t') : x ≠ y := fun e => by
  subst e
  rw [hx] at hy
  cases hy
  exact ht rfl
theorem DoI.size (h : DoI w0 W pb n T tv rb wr l v s q o sv B old) : W.heap.size + 1 < wr.heap.size := lt_of_heap h.ax
/-- Behind a callee that leaves all alone. -/
theorem DoI.below (h : DoI w0 W pb n T tv rb wr l v s q o sv B old) {w2 : World} (hb : Below wr.heap.size wr w2) : DoI w0 W pb n T tv rb w2 l v s q o sv B old :=
  ⟨h.base.trans (hb.mono h.base.size), (hb.block _ (lt_of_heap h.run)).trans h.run, own_same h.own (fun g hg => hb.block g hg), h.acts, h.st, (hb.block _ (lt_of_heap h.sx)).trans h.sx, (hb.block _ (lt_of_heap h.ax)).trans h.ax, h.old15, h.go, h.mv.trans (Mv.ofBelow hb h.base.size)⟩
/-- Behind a run within. -/
theorem DoI.inner (h : DoI w0 W pb n T tv rb wr l v s q o sv B old) {w2 : World} {q2 : Nat} {o2 : SentL} {sv2 : Value} (hm : Mv w0.heap.size wr.heap.size wr w2) (hr : w2.heap[rb]? = some (.cells (runC pb tv sv2 q2) 89 (0, 0))) (ho : w2.ownsRow w0.heap.size 66 51 sv2 o2.length (sentsC o2)) (hq : q2 ≤ 4096) :
    DoI w0 W pb n T tv rb w2 l v s q2 o2 sv2 B old :=
  ⟨h.base.trans hm.below, hr, ho, h.acts, h.st, hm.cells (lt_of_heap h.sx) h.sx (by decide) (by decide), hm.cells (lt_of_heap h.ax) h.ax (by decide) (by decide), h.old15, hq, h.mv.trans (hm.mono (by have := h.size; omega))⟩
/-- The State is stored. -/
theorem DoI.putS (h : DoI w0 W pb n T tv rb wr l v s q o sv B old) (hW : w0.heap.size ≤ W.heap.size) {w2 : World} {s2 : Array Value} (hs : St s2) (z1 : w2.heap[W.heap.size]? = some (.cells s2 38 (0, 0))) (z2 : ∀ k, k ≠ W.heap.size → w2.heap[k]? = wr.heap[k]?) (z4 : Below W.heap.size wr w2) :
    DoI w0 W pb n T tv rb w2 l v s2 q o sv B old :=
  ⟨h.base.trans (z4.mono hW), (z2 _ (ne_type h.run h.sx (by decide))).trans h.run, own_put h.own h.sx (by decide) z2, h.acts, hs, z1, (z2 _ (by omega)).trans h.ax, h.old15, h.go,
    h.mv.trans (Mv.change (x := W.heap.size) (z4.mono hW) (fun g _ hg => z2 g hg) (.inl (Nat.le_refl _)))⟩
/-- An action is taken from the list. -/
theorem DoI.take (h : DoI w0 W pb n T tv rb wr l v s q o sv B old) (hW : w0.heap.size ≤ W.heap.size) {w2 : World} {A : Array Value} {l2 : List AOp} {v2 : Value} (hA : A.size = 15) (ha : ActsAt n T l2 B W v2) (z1 : w2.heap[W.heap.size + 1]? = some (.cells A 49 (0, 0))) (z2 : ∀ k, k ≠ W.heap.size + 1 → w2.heap[k]? = wr.heap[k]?) (z4 : Below (W.heap.size + 1) wr w2) :
    DoI w0 W pb n T tv rb w2 l2 v2 s q o sv B A :=
  ⟨h.base.trans (z4.mono (by omega)), (z2 _ (ne_type h.run h.ax (by decide))).trans h.run, own_put h.own h.ax (by decide) z2, ha, h.st, (z2 _ (by omega)).trans h.sx, z1, hA, h.go,
    h.mv.trans (Mv.change (x := W.heap.size + 1) (z4.mono (by omega)) (fun g _ hg => z2 g hg) (.inl (by omega)))⟩
/-- A cell of the run is stored. -/
theorem DoI.putR (h : DoI w0 W pb n T tv rb wr l v s q o sv B old) (hrb : w0.heap.size ≤ rb) {j : Nat} {x : Value} {q2 : Nat} (hj : (runC pb tv sv q).setIfInBounds j x = runC pb tv sv q2) (hq : q2 ≤ 4096) :
    DoI w0 W pb n T tv rb (wr.setCell ⟨rb, j, none⟩ x) l v s q2 o sv B old := by
  have z2 : ∀ g, g ≠ rb → (wr.setCell ⟨rb, j, none⟩ x).heap[g]? = wr.heap[g]? := fun g hg => Below.heap_setCell _ _ _ _ hg
  have z4 : Below rb wr (wr.setCell ⟨rb, j, none⟩ x) := (Below.refl rb wr).setCell (Nat.le_refl _) _
  exact ⟨h.base.trans (z4.mono hrb), by rw [← hj]; exact row_setCell h.run j x, own_put h.own h.run (by decide) z2, h.acts, h.st, (z2 _ (ne_type h.sx h.run (by decide))).trans h.sx, (z2 _ (ne_type h.ax h.run (by decide))).trans h.ax, h.old15, hq,
    h.mv.trans (Mv.change (x := rb) (z4.mono hrb) (fun g _ hg => z2 g hg) (.inr (.inr ⟨_, _, h.run⟩)))⟩
/-- A Sent is appended, and the run's list stored. -/
theorem DoI.sent (h : DoI w0 W pb n T tv rb wr l v s q o sv B old) (hrb : w0.heap.size ≤ rb) {w2 : World} {sv2 : Value} {p : Int} (ho : w2.ownsRow w0.heap.size 66 51 sv2 (o.length + 1) (sentsC o ++ sentC (p, s))) (hg : wr.grownBy w2 sv.ownBlock) :
    DoI w0 W pb n T tv rb (w2.setCell ⟨rb, 2, none⟩ sv2) l v s q (o ++ [(p, s)]) sv2 B old := by
  have hm : Mv w0.heap.size W.heap.size wr w2 := grown_mv h.base.size h.own hg
  have hr : w2.heap[rb]? = some (.cells (runC pb tv sv q) 89 (0, 0)) := grown_cells h.own hg h.run (by decide)
  have hx := grown_cells h.own hg h.sx (by decide)
  have ha := grown_cells h.own hg h.ax (by decide)
  have z2 : ∀ g, g ≠ rb → (w2.setCell ⟨rb, 2, none⟩ sv2).heap[g]? = w2.heap[g]? := fun g hg => Below.heap_setCell _ _ _ _ hg
  have z4 : Below rb w2 (w2.setCell ⟨rb, 2, none⟩ sv2) := (Below.refl rb w2).setCell (Nat.le_refl _) _
  have ho2 : w2.ownsRow w0.heap.size 66 51 sv2 (o ++ [(p, s)]).length (sentsC (o ++ [(p, s)])) := by
    have e : sentsC (o ++ [(p, s)]) = sentsC o ++ sentC (p, s) := by simp [sentsC]
    rw [List.length_append, e]
    exact ho
  exact ⟨(h.base.trans hm.below).trans (z4.mono hrb), row_setCell hr 2 sv2, own_put ho2 hr (by decide) z2, h.acts, h.st, (z2 _ (ne_type hx hr (by decide))).trans hx, (z2 _ (ne_type ha hr (by decide))).trans ha, h.old15, h.go,
    (h.mv.trans hm).trans (Mv.change (x := rb) (z4.mono hrb) (fun g _ hg => z2 g hg) (.inr (.inr ⟨_, _, hr⟩)))⟩
end
theorem size51 : (Tryz.prog.info? 66).map (·.size) = some 51 := by kernel_rfl
theorem lit51 {A : Array Value} (h : A.size = 51) : ∃ a0 a1 a2 a3 a4 a5 a6 a7 a8 a9 a10 a11 a12 a13 a14 a15 a16 a17 a18 a19 a20 a21 a22 a23 a24 a25 a26 a27 a28 a29 a30 a31 a32 a33 a34 a35 a36 a37 a38 a39 a40 a41 a42 a43 a44 a45 a46 a47 a48 a49 a50, A = #[a0, a1, a2, a3, a4, a5, a6, a7, a8, a9, a10, a11, a12, a13, a14, a15, a16, a17, a18, a19, a20, a21, a22, a23, a24, a25, a26, a27, a28, a29, a30, a31, a32, a33, a34, a35, a36, a37, a38, a39, a40, a41, a42, a43, a44, a45, a46, a47, a48, a49, a50] := by
  obtain ⟨l⟩ := A
  have hl : l.length = 51 := by simpa using h
  obtain ⟨a0, l0, rfl, k0⟩ := list_cons hl
  obtain ⟨a1, l1, rfl, k1⟩ := list_cons k0
  obtain ⟨a2, l2, rfl, k2⟩ := list_cons k1
  obtain ⟨a3, l3, rfl, k3⟩ := list_cons k2
  obtain ⟨a4, l4, rfl, k4⟩ := list_cons k3
  obtain ⟨a5, l5, rfl, k5⟩ := list_cons k4
  obtain ⟨a6, l6, rfl, k6⟩ := list_cons k5
  obtain ⟨a7, l7, rfl, k7⟩ := list_cons k6
  obtain ⟨a8, l8, rfl, k8⟩ := list_cons k7
  obtain ⟨a9, l9, rfl, k9⟩ := list_cons k8
  obtain ⟨a10, l10, rfl, k10⟩ := list_cons k9
  obtain ⟨a11, l11, rfl, k11⟩ := list_cons k10
  obtain ⟨a12, l12, rfl, k12⟩ := list_cons k11
  obtain ⟨a13, l13, rfl, k13⟩ := list_cons k12
  obtain ⟨a14, l14, rfl, k14⟩ := list_cons k13
  obtain ⟨a15, l15, rfl, k15⟩ := list_cons k14
  obtain ⟨a16, l16, rfl, k16⟩ := list_cons k15
  obtain ⟨a17, l17, rfl, k17⟩ := list_cons k16
  obtain ⟨a18, l18, rfl, k18⟩ := list_cons k17
  obtain ⟨a19, l19, rfl, k19⟩ := list_cons k18
  obtain ⟨a20, l20, rfl, k20⟩ := list_cons k19
  obtain ⟨a21, l21, rfl, k21⟩ := list_cons k20
  obtain ⟨a22, l22, rfl, k22⟩ := list_cons k21
  obtain ⟨a23, l23, rfl, k23⟩ := list_cons k22
  obtain ⟨a24, l24, rfl, k24⟩ := list_cons k23
  obtain ⟨a25, l25, rfl, k25⟩ := list_cons k24
  obtain ⟨a26, l26, rfl, k26⟩ := list_cons k25
  obtain ⟨a27, l27, rfl, k27⟩ := list_cons k26
  obtain ⟨a28, l28, rfl, k28⟩ := list_cons k27
  obtain ⟨a29, l29, rfl, k29⟩ := list_cons k28
  obtain ⟨a30, l30, rfl, k30⟩ := list_cons k29
  obtain ⟨a31, l31, rfl, k31⟩ := list_cons k30
  obtain ⟨a32, l32, rfl, k32⟩ := list_cons k31
  obtain ⟨a33, l33, rfl, k33⟩ := list_cons k32
  obtain ⟨a34, l34, rfl, k34⟩ := list_cons k33
  obtain ⟨a35, l35, rfl, k35⟩ := list_cons k34
  obtain ⟨a36, l36, rfl, k36⟩ := list_cons k35
  obtain ⟨a37, l37, rfl, k37⟩ := list_cons k36
  obtain ⟨a38, l38, rfl, k38⟩ := list_cons k37
  obtain ⟨a39, l39, rfl, k39⟩ := list_cons k38
  obtain ⟨a40, l40, rfl, k40⟩ := list_cons k39
  obtain ⟨a41, l41, rfl, k41⟩ := list_cons k40
  obtain ⟨a42, l42, rfl, k42⟩ := list_cons k41
  obtain ⟨a43, l43, rfl, k43⟩ := list_cons k42
  obtain ⟨a44, l44, rfl, k44⟩ := list_cons k43
  obtain ⟨a45, l45, rfl, k45⟩ := list_cons k44
  obtain ⟨a46, l46, rfl, k46⟩ := list_cons k45
  obtain ⟨a47, l47, rfl, k47⟩ := list_cons k46
  obtain ⟨a48, l48, rfl, k48⟩ := list_cons k47
  obtain ⟨a49, l49, rfl, k49⟩ := list_cons k48
  obtain ⟨a50, l50, rfl, k50⟩ := list_cons k49
  obtain rfl := List.length_eq_zero_iff.1 k50
  exact ⟨a0, a1, a2, a3, a4, a5, a6, a7, a8, a9, a10, a11, a12, a13, a14, a15, a16, a17, a18, a19, a20, a21, a22, a23, a24, a25, a26, a27, a28, a29, a30, a31, a32, a33, a34, a35, a36, a37, a38, a39, a40, a41, a42, a43, a44, a45, a46, a47, a48, a49, a50, rfl⟩
set_option maxRecDepth 100000 in
theorem run_buildS {A : Array Value} (h : A.size = 51) (w : World) : (Instr.buildSlice 57 1 #[(0, .agg A)]).run Tryz.prog w = .ok (.slice (some ⟨w.heap.size, 0, none⟩) 1 1) (w.alloc (.cells A 66)) := by
  obtain ⟨a0, a1, a2, a3, a4, a5, a6, a7, a8, a9, a10, a11, a12, a13, a14, a15, a16, a17, a18, a19, a20, a21, a22, a23, a24, a25, a26, a27, a28, a29, a30, a31, a32, a33, a34, a35, a36, a37, a38, a39, a40, a41, a42, a43, a44, a45, a46, a47, a48, a49, a50, rfl⟩ := lit51 h
  kernel_rfl
theorem op_buildS {op : Oper} {a : Act} {w : World} {K : Act → World → Prop} {Q : Exit → Act → World → Prop} (x : Operand) (ho : op.op = .buildSlice 57 1 #[(0, x)])
    (A : Array Value) (hx : a.eval x = .agg A) (hs : A.size = 51) (h : K (a.put op.dst (.slice (some ⟨w.heap.size, 0, none⟩) 1 1)) (w.alloc (.cells A 66))) : op.wp Tryz.prog a w K Q := by
  unfold Oper.wp execOp
  have := run_buildS hs w
  simp only [ho, List.map_toArray, List.map_cons, List.map_nil, hx, Sem.run_bind, this, Result.andThen_ok]
  exact h
abbrev seC (p : Int) (s : Array Value) : Array Value := #[.bool false, .int .i64 p] ++ s
theorem seC_one (p : Int) {s : Array Value} (h : s.all (·.oneCell') = true) : (seC p s).all (·.oneCell') = true := by
  show (#[Value.bool false, .int .i64 p] ++ s).all (·.oneCell') = true
  rw [Array.all_append, h, Bool.and_true]; kernel_rfl
theorem seC_list (p : Int) (s : Array Value) : (seC p s).toList = sentC (p, s) := by simp [seC, sentC]
set_option maxRecDepth 100000 in
theorem built_sent (p : Int) (s : Array Value) (h : s.size = 49) : Tryz.prog.built 66 [(0, .bool false), (1, .int .i64 p), (2, .agg s)] = some (seC p s) := by
  have h2 : (seC p s).size = 51 := by simp [seC, h]
  obtain ⟨l⟩ := s
  have hl : l.length = 49 := by simpa using h
  obtain ⟨a0, l0, rfl, k0⟩ := list_cons hl
  obtain ⟨a1, l1, rfl, k1⟩ := list_cons k0
  obtain ⟨a2, l2, rfl, k2⟩ := list_cons k1
  obtain ⟨a3, l3, rfl, k3⟩ := list_cons k2
  obtain ⟨a4, l4, rfl, k4⟩ := list_cons k3
  obtain ⟨a5, l5, rfl, k5⟩ := list_cons k4
  obtain ⟨a6, l6, rfl, k6⟩ := list_cons k5
  obtain ⟨a7, l7, rfl, k7⟩ := list_cons k6
  obtain ⟨a8, l8, rfl, k8⟩ := list_cons k7
  obtain ⟨a9, l9, rfl, k9⟩ := list_cons k8
  obtain ⟨a10, l10, rfl, k10⟩ := list_cons k9
  obtain ⟨a11, l11, rfl, k11⟩ := list_cons k10
  obtain ⟨a12, l12, rfl, k12⟩ := list_cons k11
  obtain ⟨a13, l13, rfl, k13⟩ := list_cons k12
  obtain ⟨a14, l14, rfl, k14⟩ := list_cons k13
  obtain ⟨a15, l15, rfl, k15⟩ := list_cons k14
  obtain ⟨a16, l16, rfl, k16⟩ := list_cons k15
  obtain ⟨a17, l17, rfl, k17⟩ := list_cons k16
  obtain ⟨a18, l18, rfl, k18⟩ := list_cons k17
  obtain ⟨a19, l19, rfl, k19⟩ := list_cons k18
  obtain ⟨a20, l20, rfl, k20⟩ := list_cons k19
  obtain ⟨a21, l21, rfl, k21⟩ := list_cons k20
  obtain ⟨a22, l22, rfl, k22⟩ := list_cons k21
  obtain ⟨a23, l23, rfl, k23⟩ := list_cons k22
  obtain ⟨a24, l24, rfl, k24⟩ := list_cons k23
  obtain ⟨a25, l25, rfl, k25⟩ := list_cons k24
  obtain ⟨a26, l26, rfl, k26⟩ := list_cons k25
  obtain ⟨a27, l27, rfl, k27⟩ := list_cons k26
  obtain ⟨a28, l28, rfl, k28⟩ := list_cons k27
  obtain ⟨a29, l29, rfl, k29⟩ := list_cons k28
  obtain ⟨a30, l30, rfl, k30⟩ := list_cons k29
  obtain ⟨a31, l31, rfl, k31⟩ := list_cons k30
  obtain ⟨a32, l32, rfl, k32⟩ := list_cons k31
  obtain ⟨a33, l33, rfl, k33⟩ := list_cons k32
  obtain ⟨a34, l34, rfl, k34⟩ := list_cons k33
  obtain ⟨a35, l35, rfl, k35⟩ := list_cons k34
  obtain ⟨a36, l36, rfl, k36⟩ := list_cons k35
  obtain ⟨a37, l37, rfl, k37⟩ := list_cons k36
  obtain ⟨a38, l38, rfl, k38⟩ := list_cons k37
  obtain ⟨a39, l39, rfl, k39⟩ := list_cons k38
  obtain ⟨a40, l40, rfl, k40⟩ := list_cons k39
  obtain ⟨a41, l41, rfl, k41⟩ := list_cons k40
  obtain ⟨a42, l42, rfl, k42⟩ := list_cons k41
  obtain ⟨a43, l43, rfl, k43⟩ := list_cons k42
  obtain ⟨a44, l44, rfl, k44⟩ := list_cons k43
  obtain ⟨a45, l45, rfl, k45⟩ := list_cons k44
  obtain ⟨a46, l46, rfl, k46⟩ := list_cons k45
  obtain ⟨a47, l47, rfl, k47⟩ := list_cons k46
  obtain ⟨a48, l48, rfl, k48⟩ := list_cons k47
  obtain rfl := List.length_eq_zero_iff.1 k48
  clear h h2
  show _ = _
  kernel_rfl
theorem sent_info : ∃ i z, Tryz.prog.info? 66 = some i ∧ i.zero = some z ∧ i.size = 51 ∧ z.cells.size = 51 ∧ i.bytes ≤ 1000 := by
  have h : (Tryz.prog.info? 66).map (fun i => (i.zero.map (·.cells.size), i.size, Nat.ble i.bytes 1000)) = some (some 51, 51, true) := by kernel_rfl
  cases hi : Tryz.prog.info? 66 with
  | none => rw [hi] at h; cases h
  | some i =>
    rw [hi] at h
    simp only [Option.map_some, Option.some.injEq, Prod.mk.injEq] at h
    obtain ⟨h1, h2, h3⟩ := h
    cases hz : i.zero with
    | none => rw [hz] at h1; cases h1
    | some z =>
      rw [hz] at h1
      exact ⟨i, z, rfl, hz, h2, by simpa using h1, Nat.le_of_ble_eq_true h3⟩
theorem op_append {op : Oper} {a : Act} {w : World} {K : Act → World → Prop} {Q : Exit → Act → World → Prop} (x y : Operand) (ho : op.op = .call { callee := .builtin .append, args := #[x, y], argTypes := #[57, 57] })
    (base : Nat) (v : Value) (n : Nat) (xs : List Value) (hs : a.eval x = v) (hown : w.ownsRow base 66 51 v n xs) (g : Nat) (A : Array Value) (hx : a.eval y = .slice (some ⟨g, 0, none⟩) 1 1) (hA : A.size = 51) (hg : w.heap[g]? = some (.cells A 66 (0, 0))) (h1 : A.all (·.oneCell') = true)
    (hn : n ≤ 1000000) (hbase : base ≤ w.heap.size)
    (h : ∀ v' w', w'.ownsRow base 66 51 v' (n + 1) (xs ++ A.toList) → w.grownBy w' v.ownBlock → K (a.put op.dst v') w') : op.wp Tryz.prog a w K Q := by
  obtain ⟨i, z, hi, hz, hsz, hzs, hby⟩ := sent_info
  obtain ⟨v', w', hr, h2, h3, _, _⟩ := run_append_own_at (P := Tryz.prog) w base 57 op.type 66 i z 51 i.bytes Tryz.underlying57 hi hz hsz rfl hzs (by omega) v n xs hown ⟨g, 0, none⟩ 1 1 A.toList (by simp [hA]) (fun j u hu => by
    have e : w.cell? ⟨g, j, none⟩ = A[j]? := cell_row hg j
    rw [Array.getElem?_toList] at hu
    have e2 : (⟨g, 0, none⟩ : Addr).add j = ⟨g, j, none⟩ := by
      unfold Addr.add
      split
      · rename_i h0
        have h1 : j = 0 := by first | exact h0 | simpa using h0
        subst h1; rfl
      · simp
    rw [e2, e, hu]) (fun u hu => Array.all_eq_true'.1 h1 u (by simpa using hu)) (by unfold maxLen; omega) (Nat.le_trans (Nat.mul_le_mul (show n + 1 ≤ 1000001 by omega) hby) (by omega)) hbase
  unfold Oper.wp execOp
  simp only [ho, resolve, invoke, builtin, Sem.run_bind, Sem.run_pure, Result.andThen_ok, List.map_toArray, List.map_cons, List.map_nil, hs, hx, hr]
  exact h v' w' h2 h3
theorem yields_tail {ops : Array Oper} {S : World → Prop} {op : Oper} {a : Act} (hw : Region.wanted op (yielded ops a.tmps) = true) (x : Operand) (ho : op.op = .slice 44 x (some (.const (.int .i64 1))) none none)
    (va : Option Addr) (ln vk : Nat) (hx : a.eval x = .slice va ln vk) (h1 : 1 ≤ ln) : YieldsIf Tryz.prog ops S op (sliced va 1 ln vk 15) a :=
  .inl ⟨hw, fun w _ => by
    have e : (Instr.sliceAt 44 (.slice va ln vk) (some (.int .i64 1)) none none).run Tryz.prog w = .ok (sliced va 1 ln vk 15) w := by
      rw [run_sliceAt_slice (P := Tryz.prog) w 44 _ _ _ _ (by kernel_rfl), run_slice_l (P := Tryz.prog) w 44 va ln vk (by kernel_rfl) .i64 1 (by omega) (by omega)]
      have : (sizeOf (Tryz.prog.elem 44)).run Tryz.prog w = .ok 15 w := by kernel_rfl
      rw [this]; rfl
    unfold execOp
    have hc : a.eval (.const (.int .i64 1)) = .int .i64 1 := rfl
    simp only [ho, hx, Sem.run_bind, Option.map_some, Option.map_none, hc, e, Sem.run_pure, Result.andThen_ok]⟩
theorem yields_load_act {ops : Array Oper} {S : World → Prop} {op : Oper} {a : Act} (hw : Region.wanted op (yielded ops a.tmps) = true) (x : Operand) (ho : op.op = .load 49 x)
    (g off : Nat) (hx : a.eval x = .pointer (some ⟨g, off, none⟩)) (D A : Array Value) (hS : ∀ w, S w → w.heap[g]? = some (.cells D 49 (0, 0))) (hA : D.extract off (off + 15) = A) (h15 : A.size = 15) : YieldsIf Tryz.prog ops S op (.agg A) a := by
  subst hA
  have := yieldsIf_load_mid (P := Tryz.prog) (ops := ops) (S := S) (op := op) (a := a) hw 49 x ho g off hx (D.extract off (off + 15)).toList _ (fun w hw' => World.rangeAt_of_block (hS w hw') off 15) Tryz.underlying49 rfl (by rw [Array.length_toList, h15]; kernel_rfl)
  rw [Array.toArray_toList] at this
  exact this
end Go.Proofs.YtnahhmcmahbnkaaGreatDoor
