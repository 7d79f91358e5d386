/- do of a run: what it does with a list of actions. Conditions: as said. -/
import Derived.Test.YtnahhmcmahbnkaaGreatDoorXK
import Derived.Test.YtnahhmcmahbnkaaGreatDoorGWGtoQV
import Derived.Deep.DeepMust
import Derived.Deep.RegionHeld
import Derived.Lib.Hide
namespace Go.Proofs.YtnahhmcmahbnkaaGreatDoor
open Go.RowKit
theorem runO_goes {F : Nat → List AOp} : ∀ {f : Nat} {l : List AOp} {s : Array Value} {g : Nat} {o : SentL} {b : Bool} {g' : Nat} {o' : SentL}, g ≤ 4096 → runO F f l s g o = some (b, g', o') → g' ≤ 4096 := by
  intro f
  induction f with
  | zero => intro l s g o b g' o' _ h; simp [runO] at h
  | succ f ih =>
    intro l s g o b g' o' hg h
    cases l with
    | nil => simp [runO] at h; omega
    | cons x r =>
      cases x with
      | out p => exact ih hg h
      | go i =>
        simp only [runO] at h
        split at h
        · simp at h; omega
        · exact ih (by omega) h
      | hop =>
        simp only [runO] at h
        split at h
        · exact ih hg h
        · simp at h
      | clone ps =>
        simp only [runO] at h
        split at h
        · rename_i h1
          exact ih (ih hg h1) h
        · exact ih hg h
theorem PrgAt.fix {w0 w : World} {pb n : Nat} {T : Nat → Nat} {P : Nat → Int} {R : Nat → Nat → World → Value → Prop} {A : Array Value} {m g cap : Nat} {D : Array Value} (h : PrgAt w0 pb n T P R A m g cap D) (hb : Below w0.heap.size w0 w) : PrgAt w pb n T P (fun i B _ v => R i B w0 v) A m g cap D :=
  ⟨(hb.block _ (lt_of_heap h.row)).trans h.row, h.map, h.ord, (hb.block _ (lt_of_heap h.ptrs)).trans h.ptrs, fun i hi => by
    obtain ⟨k, cb, r, ac, B, h1, h2, h3, h4, h5, h6⟩ := h.at_ i hi
    exact ⟨k, cb, r, ac, B, h1, h2, h3.of hb, h4, (hb.block _ (lt_of_heap h5)).trans h5, h6⟩⟩
theorem run_put (pb : Nat) (tv sv : Value) (q : Nat) : (runC pb tv sv q).setIfInBounds 3 (.int .i64 ((q : Int) + 1)) = runC pb tv sv (q + 1) := by simp [runC]
set_option linter.unusedSimpArgs false in
set_option linter.unusedVariables false in
set_option maxRecDepth 100000 in
set_option maxHeartbeats 16000000 in
theorem do_any {w0 : World} {pb n : Nat} {T : Nat → Nat} {P : Nat → Int} {F : Nat → List AOp} {A0 : Array Value} {m0 g0 cap0 : Nat} {D0 : Array Value} (hC : PrgAt w0 pb n T P (fun i => ActsAt n T (F i)) A0 m0 g0 cap0 D0) (hn : n ≤ 65536) (hT : ∀ i, i < n → T i < 64) (tv : Value) (rb : Nat) (hrb : w0.heap.size ≤ rb) :
    ∀ (f : Nat) (W : World) (l0 : List AOp) (v0 : Value) (s0 : Array Value) (q0 : Nat) (o0 : SentL) (sv0 : Value) (B0 : Nat) (b : Bool) (q1 : Nat) (o1 : SentL), Below w0.heap.size w0 W → W.heap[rb]? = some (.cells (runC pb tv sv0 q0) 89 (0, 0)) → W.ownsRow w0.heap.size 66 51 sv0 o0.length (sentsC o0) → ActsAt n T l0 B0 W v0 → St s0 → q0 ≤ 4096 → runO F f l0 s0 q0 o0 = some (b, q1, o1) → o1.length ≤ 1000000 →
    Calls Tryz.prog 20 #[.pointer (some ⟨rb, 0, none⟩), v0, .agg s0] W fun e w' => e = .returned (.bool b) ∧ ∃ sv1, w'.heap[rb]? = some (.cells (runC pb tv sv1 q1) 89 (0, 0)) ∧ w'.ownsRow w0.heap.size 66 51 sv1 o1.length (sentsC o1) ∧ Mv w0.heap.size W.heap.size W w' := by
  intro f
  induction f using Nat.strongRecOn with
  | _ f ih =>
  intro W l0 v0 s0 q0 o0 sv0 B0 b q1 o1 hb hr ho ha hs hq hres hmax
  have HIH : Hid _ := ih
  have HC : Hid (PrgAt w0 pb n T P (fun i => ActsAt n T (F i)) A0 m0 g0 cap0 D0) := hC
  have HT : Hid _ := hT
  have HRB : Hid (w0.heap.size ≤ rb) := hrb
  have HBW : Hid (Below w0.heap.size w0 W) := hb
  have HMAX : Hid (o1.length ≤ 1000000) := hmax
  have HN : Hid (n ≤ 65536) := hn
  have S00 : Hid (DoI w0 W pb n T tv rb ((W.alloc (.cells s0 38)).alloc (.cells (Ac.leafA 0) 49)) l0 v0 s0 q0 o0 sv0 B0 (Ac.leafA 0)) := by
    have b2 := below2 W (.cells s0 38) (.cells (Ac.leafA 0) 49)
    exact ⟨hb.trans (b2.mono hb.size), (b2.block _ (lt_of_heap hr)).trans hr, own_same ho (fun g hg => b2.block g hg), ha, hs, two_first _ _ _, two_last _ _ _, by kernel_rfl, hq, Mv.ofBelow b2 hb.size⟩
  have HRES : Hid _ := hres
  unfold Ac.leafA at S00
  clear ih hC hT hrb hb hr ho ha hs hq hres hmax hn
  go_enter Tryz.func20, Tryz.ntmps20
  go_wp2
  refine scope_falls 0 (fun k a wr => ∃ (l : List AOp) (v : Value) (s : Array Value) (q : Nat) (o : SentL) (sv : Value) (B : Nat) (old : Array Value) (u3 u4 u9 u10 u11 u12 u13 u14 u15 u16 u17 u18 u19 u20 u21 u22 u23 u24 u25 u26 u27 u28 u29 u30 u31 u32 u33 u34 u35 u36 u37 u38 u39 u40 u41 u42 u43 u44 u45 u46 u47 u48 u49 u50 u51 u52 u53 u54 u55 u56 u57 u58 u59 u60 u61 u62 u63 u64 u65 u66 u67 u68 u69 u70 u71 u72 u73 u74 u75 u76 u77 u78 : Value), (DoI w0 W pb n T tv rb wr l v s q o sv B old ∧ k ≤ f ∧ runO F k l s q o = some (b, q1, o1)) ∧ a = { tmps := #[.pointer (some ⟨rb, 0, none⟩), v, .agg s0, u3, u4, .pointer (some ⟨W.heap.size, 0, none⟩), .bool false, .pointer (some ⟨W.heap.size + 1, 0, none⟩), .bool true, u9, u10, u11, u12, u13, u14, u15, u16, u17, u18, u19, u20, u21, u22, u23, u24, u25, u26, u27, u28, u29, u30, u31, u32, u33, u34, u35, u36, u37, u38, u39, u40, u41, u42, u43, u44, u45, u46, u47, u48, u49, u50, u51, u52, u53, u54, u55, u56, u57, u58, u59, u60, u61, u62, u63, u64, u65, u66, u67, u68, u69, u70, u71, u72, u73, u74, u75, u76, u77, u78], defers := [] }) rfl ?_ ?_
  rotate_left
  · intro HG
    go_wp2
    go_step3
    rename_i K hK
    refine hK _ _ (HG.out f _ _ ?_)
    exact ⟨l0, v0, s0, q0, o0, sv0, B0, _, _, _, _, _, _, _, _, _, _, _, _, _, _, _, _, _, _, _, _, _, _, _, _, _, _, _, _, _, _, _, _, _, _, _, _, _, _, _, _, _, _, _, _, _, _, _, _, _, _, _, _, _, _, _, _, _, _, _, _, _, _, _, _, _, _, _, _, _, _, _, _, _, ⟨S00.out, Nat.le_refl f, HRES.out⟩, rfl⟩
  · rintro k a wr ⟨l, v, s, q, o, sv, B, old, u3, u4, u9, u10, u11, u12, u13, u14, u15, u16, u17, u18, u19, u20, u21, u22, u23, u24, u25, u26, u27, u28, u29, u30, u31, u32, u33, u34, u35, u36, u37, u38, u39, u40, u41, u42, u43, u44, u45, u46, u47, u48, u49, u50, u51, u52, u53, u54, u55, u56, u57, u58, u59, u60, u61, u62, u63, u64, u65, u66, u67, u68, u69, u70, u71, u72, u73, u74, u75, u76, u77, u78, ⟨hI, hkf, hres⟩, rfl⟩
    clear HRES S00
    cases k with
    | zero => simp [runO] at hres
    | succ k =>
    cases l with
    | nil =>
      obtain ⟨va, vk, hv⟩ := hI.acts.slice
      simp only [List.length_nil] at hv
      subst hv
      simp only [runO, Option.some.injEq, Prod.mk.injEq] at hres
      obtain ⟨rfl, rfl, rfl⟩ := hres
      have HI : Hid _ := hI
      clear hI
      go_wp2
      simp only [Exit.jump]
      go_ret
      first | exact ⟨rfl, sv, HI.out.run, HI.out.own, HI.out.mv⟩ | (trace_state; fail)
    | cons x r =>
      obtain ⟨va, vk, hv⟩ := hI.acts.slice
      simp only [List.length_cons] at hv
      subst hv
      obtain ⟨ga, oa, Da, rfl, hBg, hga, hrow⟩ := hI.acts.head
      have htl := hI.acts.tail
      obtain ⟨ln, hln⟩ : ∃ ln, ln = r.length + 1 := ⟨_, rfl⟩
      obtain ⟨v2, hv2⟩ : ∃ v2, v2 = sliced (some ⟨ga, oa * 15, none⟩) 1 ln vk 15 := ⟨_, rfl⟩
      rw [← hln, ← hv2] at htl
      rw [← hln] at hI ⊢
      obtain ⟨A, hA⟩ : ∃ A, A = Da.extract (oa * 15) (oa * 15 + 15) := ⟨_, rfl⟩
      rw [← hA] at hrow
      have HROW : Hid (RowAt n T B W x A) := hrow
      have HA1 : Hid (A.size = 15 ∧ A.all (·.oneCell') = true) := row_one hrow
      have HEX : Hid (Da.extract (oa * 15) (oa * 15 + 15) = A) := hA.symm
      have HTL : Hid (ActsAt n T r B W v2) := htl
      have HGA : Hid (W.heap[ga]? = some (.cells Da 49 (0, 0))) := hga
      have HV2 : Hid (sliced (some ⟨ga, oa * 15, none⟩) 1 ln vk 15 = v2) := hv2.symm
      have HRES : Hid (runO F (k + 1) (x :: r) s q o = some (b, q1, o1)) := hres
      have HI0 : Hid _ := hI.below (w2 := wr.drew) ((Below.refl _ _).drew)
      have HI : Hid _ := hI
      have hl1 : 1 ≤ ln := by omega
      have hl4 : 0 < ln := by omega
      have hl0 : ¬ ((ln : Int) = 0) := by omega
      have hl2 : (0 : Int) < (ln : Int) := by omega
      have hl3 : (1 : Int) ≤ (ln : Int) := by omega
      have HW0 : Hid (w0.heap.size ≤ W.heap.size) := HBW.out.size
      have KC : Hid (∀ w : World, Mv w0.heap.size W.heap.size W w → w.heap[rb]? = some (.cells (runC pb tv sv q) 89 (0, 0)) → w.heap[ga]? = some (.cells Da 49 (0, 0)) ∧ w.heap[rb]? = some (.cells (runC pb tv sv q) 89 (0, 0))) := fun w h1 h2 => ⟨h1.cells (lt_of_heap HGA.out) HGA.out (by decide) (by decide), h2⟩
      clear hI hga hrow htl hA hv2 hBg hln hres
      go_wp2_with fail
      refine wp_region_held_drew (S := fun w : World => w.heap[ga]? = some (.cells Da 49 (0, 0)) ∧ w.heap[rb]? = some (.cells (runC pb tv sv q) 89 (0, 0))) (by kernel_rfl) ?_ (fun hHeld => ?_)
      · exact KC.out _ HI0.out.mv HI0.out.run
      obtain ⟨V1, hV1⟩ : ∃ V1, V1 = wr.drew := ⟨_, rfl⟩
      rw [← hV1] at HI0 hHeld ⊢
      clear hV1 HI
      refine wpAnyH_take (i := 0) (v := ?_) rfl (by kernel_rfl) (by kernel_rfl) (by kernel_rfl) (fun _ _ _ h => h) (Or.inl ⟨by rfl, ?_⟩) (by assumption) ?_
      rotate_left
      · (intro w hSw; (try dsimp only at hSw); go_simp; try with_reducible rfl)
      try simp only [List.getElem_toArray, List.getElem_cons_zero, List.getElem_cons_succ, Act.put, List.setIfInBounds_toArray, List.set_cons_zero, List.set_cons_succ]
      refine wpAnyH_take (i := 1) (v := ?_) rfl (by kernel_rfl) (by kernel_rfl) (by kernel_rfl) (fun _ _ _ h => h) (Or.inl ⟨by rfl, ?_⟩) (by assumption) ?_
      rotate_left
      · (intro w hSw; (try dsimp only at hSw); go_simp; try with_reducible rfl)
      try simp only [List.getElem_toArray, List.getElem_cons_zero, List.getElem_cons_succ, Act.put, List.setIfInBounds_toArray, List.set_cons_zero, List.set_cons_succ]
      refine wpAnyH_take (i := 2) (v := .agg A) rfl (by kernel_rfl) (by kernel_rfl) (by kernel_rfl) (fun _ _ _ h => h) (yields_load_act (by rfl) _ rfl ga (oa * 15) rfl Da A (fun _ h => h.1) HEX.out HA1.out.1) (by assumption) ?_
      try simp only [List.getElem_toArray, List.getElem_cons_zero, List.getElem_cons_succ, Act.put, List.setIfInBounds_toArray, List.set_cons_zero, List.set_cons_succ]
      refine wpAnyH_take (i := 3) (v := ?_) rfl (by kernel_rfl) (by kernel_rfl) (by kernel_rfl) (fun _ _ _ h => h) (Or.inl ⟨by rfl, ?_⟩) (by assumption) ?_
      rotate_left
      · (intro w hSw; (try dsimp only at hSw); go_simp; try with_reducible rfl)
      try simp only [List.getElem_toArray, List.getElem_cons_zero, List.getElem_cons_succ, Act.put, List.setIfInBounds_toArray, List.set_cons_zero, List.set_cons_succ]
      refine wpAnyH_take (i := 4) (v := v2) rfl (by kernel_rfl) (by kernel_rfl) (by kernel_rfl) (fun _ _ _ h => h) (HV2.out ▸ yields_tail (by rfl) _ rfl (some ⟨ga, oa * 15, none⟩) ln vk rfl hl1) (by assumption) ?_
      try simp only [List.getElem_toArray, List.getElem_cons_zero, List.getElem_cons_succ, Act.put, List.setIfInBounds_toArray, List.set_cons_zero, List.set_cons_succ]
      refine wpAnyH_ready (rs := [5]) (by kernel_rfl) (by simp) ?_
      refine AllReadyH.cons (o := _) rfl (fun K hK => ?_) AllReadyH.nil
      refine wp_store_row 49 _ _ rfl (W.heap.size + 1) old A 49 rfl rfl HI0.out.ax (by rw [HA1.out.1]; kernel_rfl) (HI0.out.old15.trans HA1.out.1.symm) HA1.out.2 ?_
      intro V2 z1 z2 z3 z4
      have M : Hid (DoI w0 W pb n T tv rb V2 r v2 s q o sv B A) := HI0.out.take HW0.out HA1.out.1 HTL.out z1 z2 z4
      clear z1 z2 z3 z4 HI0
      refine hK.out _ _ (KC.out _ M.out.mv M.out.run) (fun hHeld2 => ?_)
      clear hK K hHeld
      have hHeld := hHeld2
      clear hHeld2
      try simp only [List.getElem_toArray, List.getElem_cons_zero, List.getElem_cons_succ, Act.put, List.setIfInBounds_toArray, List.set_cons_zero, List.set_cons_succ]
      refine wpAnyH_take (i := 6) (v := ?_) rfl (by kernel_rfl) (by kernel_rfl) (by kernel_rfl) (fun _ _ _ h => h) (Or.inl ⟨by rfl, ?_⟩) (by assumption) ?_
      rotate_left
      · (intro w hSw; (try dsimp only at hSw); go_simp; try with_reducible rfl)
      try simp only [List.getElem_toArray, List.getElem_cons_zero, List.getElem_cons_succ, Act.put, List.setIfInBounds_toArray, List.set_cons_zero, List.set_cons_succ]
      clear hHeld KC HEX HV2 HGA
      refine wpAnyH_done (by kernel_rfl) ?_ _
      cases x with
      | out p =>
        obtain rfl := HROW.out
        have c0 : V2.cell? ⟨W.heap.size + 1, 0, none⟩ = some (.int .i64 6) := cell_row M.out.ax 0
        have hres2 : runO F k r s q (o ++ [(p, s)]) = some (b, q1, o1) := HRES.out
        have HR2 : Hid _ := hres2
        have HLE : Hid (o.length ≤ 1000000) := by
          have h1 := runO_mono hres2
          have h2 := HMAX.out
          show _ ≤ _
          simp at h1; omega
        clear hres2 HRES
        go_wp2_with fail
        refine region_but (fun w : World => (w.heap[W.heap.size]? = some (.cells s 38 (0, 0)) ∧ w.cell? ⟨rb, 2, none⟩ = some sv) ∧ w.cell? ⟨W.heap.size + 1, 0, none⟩ = some (.int .i64 6) ∧ w.cell? ⟨W.heap.size + 1, 6, none⟩ = some (.int .i64 p)) 16 (by kernel_rfl) ?_
        have KO : Hid (∀ (w : World) o sv, DoI w0 W pb n T tv rb w r v2 s q o sv B (Ac.outA p) → (w.heap[W.heap.size]? = some (.cells s 38 (0, 0)) ∧ w.cell? ⟨rb, 2, none⟩ = some sv) ∧ w.cell? ⟨W.heap.size + 1, 0, none⟩ = some (.int .i64 6) ∧ w.cell? ⟨W.heap.size + 1, 6, none⟩ = some (.int .i64 p)) := fun w o sv h => ⟨⟨h.sx, cell_row h.run 2⟩, cell_row h.ax 0, cell_row h.ax 6⟩
        have M1 : Hid (DoI w0 W pb n T tv rb V2.drew r v2 s q o sv B (Ac.outA p)) := M.out.below ((Below.refl _ _).drew)
        have hHeld := KO.out _ _ _ M1.out
        obtain ⟨V3, hV3⟩ : ∃ V3, V3 = V2.drew := ⟨_, rfl⟩
        rw [← hV3] at M1 hHeld ⊢
        clear hV3 M c0
        refine HeldBut.take (i := 0) (v := ?_) rfl (by kernel_rfl) (by kernel_rfl) (by kernel_rfl) (by kernel_rfl) (fun _ _ _ h => h) (Or.inl ⟨by rfl, ?_⟩) (by assumption) ?_
        rotate_left
        · (intro w hSw; (try dsimp only at hSw); go_simp; try with_reducible rfl)
        try simp only [List.getElem_toArray, List.getElem_cons_zero, List.getElem_cons_succ, Act.put, List.setIfInBounds_toArray, List.set_cons_zero, List.set_cons_succ]
        refine HeldBut.take (i := 1) (v := ?_) rfl (by kernel_rfl) (by kernel_rfl) (by kernel_rfl) (by kernel_rfl) (fun _ _ _ h => h) (Or.inl ⟨by rfl, ?_⟩) (by assumption) ?_
        rotate_left
        · (intro w hSw; (try dsimp only at hSw); go_simp; try with_reducible rfl)
        try simp only [List.getElem_toArray, List.getElem_cons_zero, List.getElem_cons_succ, Act.put, List.setIfInBounds_toArray, List.set_cons_zero, List.set_cons_succ]
        refine HeldBut.take (i := 2) (v := ?_) rfl (by kernel_rfl) (by kernel_rfl) (by kernel_rfl) (by kernel_rfl) (fun _ _ _ h => h) (Or.inl ⟨by rfl, ?_⟩) (by assumption) ?_
        rotate_left
        · (intro w hSw; (try dsimp only at hSw); go_simp; try with_reducible rfl)
        try simp only [List.getElem_toArray, List.getElem_cons_zero, List.getElem_cons_succ, Act.put, List.setIfInBounds_toArray, List.set_cons_zero, List.set_cons_succ]
        refine HeldBut.take (i := 3) (v := ?_) rfl (by kernel_rfl) (by kernel_rfl) (by kernel_rfl) (by kernel_rfl) (fun _ _ _ h => h) (Or.inl ⟨by rfl, ?_⟩) (by assumption) ?_
        rotate_left
        · (intro w hSw; (try dsimp only at hSw); go_simp; try with_reducible rfl)
        try simp only [List.getElem_toArray, List.getElem_cons_zero, List.getElem_cons_succ, Act.put, List.setIfInBounds_toArray, List.set_cons_zero, List.set_cons_succ]
        refine HeldBut.take (i := 4) (v := ?_) rfl (by kernel_rfl) (by kernel_rfl) (by kernel_rfl) (by kernel_rfl) (fun _ _ _ h => h) (Or.inl ⟨by rfl, ?_⟩) (by assumption) ?_
        rotate_left
        · (intro w hSw; (try dsimp only at hSw); go_simp; try with_reducible rfl)
        try simp only [List.getElem_toArray, List.getElem_cons_zero, List.getElem_cons_succ, Act.put, List.setIfInBounds_toArray, List.set_cons_zero, List.set_cons_succ]
        refine HeldBut.take (i := 5) (v := ?_) rfl (by kernel_rfl) (by kernel_rfl) (by kernel_rfl) (by kernel_rfl) (fun _ _ _ h => h) (Or.inl ⟨by rfl, ?_⟩) (by assumption) ?_
        rotate_left
        · (intro w hSw; (try dsimp only at hSw); go_simp; try with_reducible rfl)
        try simp only [List.getElem_toArray, List.getElem_cons_zero, List.getElem_cons_succ, Act.put, List.setIfInBounds_toArray, List.set_cons_zero, List.set_cons_succ]
        refine HeldBut.take (i := 6) (v := ?_) rfl (by kernel_rfl) (by kernel_rfl) (by kernel_rfl) (by kernel_rfl) (fun _ _ _ h => h) (Or.inl ⟨by rfl, ?_⟩) (by assumption) ?_
        rotate_left
        · (intro w hSw; (try dsimp only at hSw); go_simp; try with_reducible rfl)
        try simp only [List.getElem_toArray, List.getElem_cons_zero, List.getElem_cons_succ, Act.put, List.setIfInBounds_toArray, List.set_cons_zero, List.set_cons_succ]
        refine HeldBut.take (i := 7) (v := ?_) rfl (by kernel_rfl) (by kernel_rfl) (by kernel_rfl) (by kernel_rfl) (fun _ _ _ h => h) (Or.inl ⟨by rfl, ?_⟩) (by assumption) ?_
        rotate_left
        · (intro w hSw; (try dsimp only at hSw); go_simp; try with_reducible rfl)
        try simp only [List.getElem_toArray, List.getElem_cons_zero, List.getElem_cons_succ, Act.put, List.setIfInBounds_toArray, List.set_cons_zero, List.set_cons_succ]
        refine HeldBut.take (i := 8) (v := ?_) rfl (by kernel_rfl) (by kernel_rfl) (by kernel_rfl) (by kernel_rfl) (fun _ _ _ h => h) (Or.inl ⟨by rfl, ?_⟩) (by assumption) ?_
        rotate_left
        · (intro w hSw; (try dsimp only at hSw); go_simp; try with_reducible rfl)
        try simp only [List.getElem_toArray, List.getElem_cons_zero, List.getElem_cons_succ, Act.put, List.setIfInBounds_toArray, List.set_cons_zero, List.set_cons_succ]
        refine HeldBut.take (i := 9) (v := ?_) rfl (by kernel_rfl) (by kernel_rfl) (by kernel_rfl) (by kernel_rfl) (fun _ _ _ h => h) (Or.inl ⟨by rfl, ?_⟩) (by assumption) ?_
        rotate_left
        · (intro w hSw; (try dsimp only at hSw); go_simp; try with_reducible rfl)
        try simp only [List.getElem_toArray, List.getElem_cons_zero, List.getElem_cons_succ, Act.put, List.setIfInBounds_toArray, List.set_cons_zero, List.set_cons_succ]
        refine HeldBut.take (i := 10) (v := .agg s) rfl (by kernel_rfl) (by kernel_rfl) (by kernel_rfl) (by kernel_rfl) (fun _ _ _ h => h) (yields_load49 (by rfl) _ rfl W.heap.size rfl s (fun _ h => h.1.1) M1.out.st.size) (by assumption) ?_
        try simp only [List.getElem_toArray, List.getElem_cons_zero, List.getElem_cons_succ, Act.put, List.setIfInBounds_toArray, List.set_cons_zero, List.set_cons_succ]
        refine HeldBut.take (i := 11) (v := .agg (seC p s)) rfl (by kernel_rfl) (by kernel_rfl) (by kernel_rfl) (by kernel_rfl) (fun _ _ _ h => h) (yields_build (by rfl) 66 _ rfl _ (by rw [List.map_toArray]; exact built_sent p s M1.out.st.size)) (by assumption) ?_
        try simp only [List.getElem_toArray, List.getElem_cons_zero, List.getElem_cons_succ, Act.put, List.setIfInBounds_toArray, List.set_cons_zero, List.set_cons_succ]
        refine HeldBut.ready (rs := [12]) (by kernel_rfl) (by simp) ?_
        refine AllBut.cons (o := _) rfl (fun K hK => ?_) AllBut.nil
        refine op_buildS _ rfl (seC p s) rfl (by simp [seC, M1.out.st.size]) ?_
        obtain ⟨V4, hV4⟩ : ∃ V4, V4 = V3.alloc (.cells (seC p s) 66) := ⟨_, rfl⟩
        obtain ⟨xs, hxs⟩ : ∃ xs, xs = V3.heap.size := ⟨_, rfl⟩
        have M2 : Hid (DoI w0 W pb n T tv rb V4 r v2 s q o sv B (Ac.outA p)) := by show DoI _ _ _ _ _ _ _ _ _ _ _ _ _ _ _ _; rw [hV4]; exact M1.out.below (below1 _ _)
        have HS4 : Hid (V4.heap[xs]? = some (.cells (seC p s) 66 (0, 0))) := by show _ = _; rw [hV4, hxs]; exact heap_alloc_new _ _
        rw [← hV4, ← hxs]
        clear hV4 hxs M1
        have hHeld3 := KO.out _ _ _ M2.out
        refine hK.out _ _ (.inr hHeld3) ?_
        clear hK K hHeld
        have hHeld := hHeld3
        clear hHeld3
        try simp only [List.getElem_toArray, List.getElem_cons_zero, List.getElem_cons_succ, Act.put, List.setIfInBounds_toArray, List.set_cons_zero, List.set_cons_succ]
        refine HeldBut.ready (rs := [13]) (by kernel_rfl) (by simp) ?_
        refine AllBut.cons (o := _) rfl (fun K hK => ?_) AllBut.nil
        refine op_append _ _ rfl w0.heap.size sv o.length (sentsC o) rfl M2.out.own xs (seC p s) rfl (by simp [seC, M2.out.st.size]) HS4.out (seC_one p M2.out.st.one) HLE.out M2.out.base.size ?_
        intro sv2 V5 ho5 hg5
        have HO5 : Hid (V5.ownsRow w0.heap.size 66 51 sv2 (o.length + 1) (sentsC o ++ sentC (p, s))) := by show World.ownsRow _ _ _ _ _ _ _; rw [← seC_list]; exact ho5
        have HG5 : Hid (V4.grownBy V5 sv.ownBlock) := hg5
        have hform : ∃ xa xm xk, sv2 = .slice xa xm xk := by
          rcases ho5.2 with ⟨e, _⟩ | ⟨g, cap, cur, e, _⟩
          · exact ⟨_, _, _, e⟩
          · exact ⟨_, _, _, e⟩
        obtain ⟨xa, xm, xk, rfl⟩ := hform
        have HR5 : Hid (V5.heap[rb]? = some (.cells (runC pb tv sv q) 89 (0, 0))) := grown_cells M2.out.own hg5 M2.out.run (by decide)
        have hH5 : (V5.heap[W.heap.size]? = some (.cells s 38 (0, 0)) ∧ V5.cell? ⟨rb, 2, none⟩ = some sv) ∧ V5.cell? ⟨W.heap.size + 1, 0, none⟩ = some (.int .i64 6) ∧ V5.cell? ⟨W.heap.size + 1, 6, none⟩ = some (.int .i64 p) := by
          have hx := grown_cells M2.out.own hg5 M2.out.sx (by decide)
          have ha := grown_cells M2.out.own hg5 M2.out.ax (by decide)
          exact ⟨⟨hx, cell_row HR5.out 2⟩, cell_row ha 0, cell_row ha 6⟩
        clear ho5 hg5
        have hHeld3 := hH5
        refine hK.out _ _ (.inr hHeld3) ?_
        clear hK K hHeld
        have hHeld := hHeld3
        clear hHeld3
        try simp only [List.getElem_toArray, List.getElem_cons_zero, List.getElem_cons_succ, Act.put, List.setIfInBounds_toArray, List.set_cons_zero, List.set_cons_succ]
        refine HeldBut.ready (rs := [14]) (by kernel_rfl) (by simp) ?_
        refine AllBut.cons (o := _) rfl (fun K hK => ?_) AllBut.nil
        go_simp
        have hHeld3 := hHeld
        refine hK.out _ _ (.inr hHeld3) ?_
        clear hK K hHeld
        have hHeld := hHeld3
        clear hHeld3
        try simp only [List.getElem_toArray, List.getElem_cons_zero, List.getElem_cons_succ, Act.put, List.setIfInBounds_toArray, List.set_cons_zero, List.set_cons_succ]
        refine HeldBut.take (i := 15) (v := ?_) rfl (by kernel_rfl) (by kernel_rfl) (by kernel_rfl) (by kernel_rfl) (fun _ _ _ h => h) (Or.inl ⟨by rfl, ?_⟩) (by assumption) ?_
        rotate_left
        · (intro w hSw; (try dsimp only at hSw); go_simp; try with_reducible rfl)
        try simp only [List.getElem_toArray, List.getElem_cons_zero, List.getElem_cons_succ, Act.put, List.setIfInBounds_toArray, List.set_cons_zero, List.set_cons_succ]
        refine HeldBut.ready (rs := [16]) (by kernel_rfl) (by simp) ?_
        refine AllBut.cons (o := _) rfl (fun K hK => ?_) AllBut.nil
        have c2 := hHeld.1.2
        have f2 : V5.frozen? ⟨rb, 2, none⟩ = false := frozen_of_row V5 rb 2 _ _ HR5.out
        go_simp
        have M6 : Hid (DoI w0 W pb n T tv rb (V5.setCell ⟨rb, 2, none⟩ (.slice xa xm xk)) r v2 s q (o ++ [(p, s)]) (.slice xa xm xk) B (Ac.outA p)) := M2.out.sent HRB.out HO5.out HG5.out
        obtain ⟨V6, hV6⟩ : ∃ V6, V6 = V5.setCell ⟨rb, 2, none⟩ (.slice xa xm xk) := ⟨_, rfl⟩
        rw [← hV6] at M6 ⊢
        clear hV6 c2 f2 hHeld HR5 HG5 HO5 M2 HS4
        refine hK.out _ _ (.inl rfl) ?_
        clear hK K
        try simp only [List.getElem_toArray, List.getElem_cons_zero, List.getElem_cons_succ, Act.put, List.setIfInBounds_toArray, List.set_cons_zero, List.set_cons_succ]
        refine HeldBut.done (by kernel_rfl) ?_ _
        go_wp2_with fail
        go_step3
        exact ⟨rfl, k, Nat.lt_succ_self k, r, v2, s, q, o ++ [(p, s)], .slice xa xm xk, B, Ac.outA p, _, _, _, _, _, _, _, _, _, _, _, _, _, _, _, _, _, _, _, _, _, _, _, _, _, _, _, _, _, _, _, _, _, _, _, _, _, _, _, _, _, _, _, _, _, _, _, _, _, _, _, _, _, _, _, _, _, _, _, _, _, _, _, _, _, _, _, _, _, _, _, _, ⟨M6.out, Nat.le_of_succ_le hkf, HR2.out⟩, rfl⟩
      | go i =>
        obtain ⟨rfl, hi⟩ := HROW.out
        have c0 : V2.cell? ⟨W.heap.size + 1, 0, none⟩ = some (.int .i64 4) := cell_row M.out.ax 0
        by_cases hq : q = 4096
        · have hres2 : some (false, q, o) = some (b, q1, o1) := by have h := HRES.out; simp only [runO, if_pos hq] at h; exact h
          simp only [Option.some.injEq, Prod.mk.injEq] at hres2
          obtain ⟨rfl, rfl, rfl⟩ := hres2
          have c3 : V2.cell? ⟨rb, 3, none⟩ = some (.int .i64 4096) := by rw [cell_row M.out.run 3, hq]; rfl
          go_wp2
          simp only [Exit.jump]
          go_ret
          first | exact ⟨rfl, sv, M.out.run, M.out.own, M.out.mv⟩ | (trace_state; fail)
        have hres2 : runO F k (F i) s (q + 1) o = some (b, q1, o1) := by have h := HRES.out; simp only [runO, if_neg hq] at h; exact h
        have HR2 : Hid _ := hres2
        clear hres2 HRES
        have c3 : V2.cell? ⟨rb, 3, none⟩ = some (.int .i64 (q : Int)) := cell_row M.out.run 3
        have f3 : V2.frozen? ⟨rb, 3, none⟩ = false := frozen_of_row V2 rb 3 _ _ M.out.run
        have hq2 : q ≤ 4095 := by have := M.out.go; omega
        have hq3 : ¬ ((q : Int) = 4096) := by omega
        have hq4 : (q : Int) ≤ 4095 := by omega
        have HI5 : Hid (i < n ∧ T i < 64) := ⟨hi, HT.out i hi⟩
        have M1 : Hid (DoI w0 W pb n T tv rb (V2.setCell ⟨rb, 3, none⟩ (.int .i64 ((q : Int) + 1))) r v2 s (q + 1) o sv B (Ac.goA (T i : Int))) := M.out.putR HRB.out (run_put pb tv sv q) (by omega)
        go_wp2_with fail
        obtain ⟨V3, hV3⟩ : ∃ V3, V3 = V2.setCell ⟨rb, 3, none⟩ (.int .i64 ((q : Int) + 1)) := ⟨_, rfl⟩
        rw [← hV3] at M1 ⊢
        clear hV3 M c0 c3 f3
        have KG : Hid (∀ w : World, DoI w0 W pb n T tv rb w r v2 s (q + 1) o sv B (Ac.goA (T i : Int)) → (w.heap[W.heap.size]? = some (.cells s 38 (0, 0)) ∧ w.cell? ⟨rb, 0, none⟩ = some (.pointer (some ⟨pb, 0, none⟩))) ∧ w.cell? ⟨W.heap.size + 1, 5, none⟩ = some (.int .i64 (T i : Int))) := fun w h => ⟨⟨h.sx, cell_row h.run 0⟩, cell_row h.ax 5⟩
        have M2 : Hid (DoI w0 W pb n T tv rb V3.drew r v2 s (q + 1) o sv B (Ac.goA (T i : Int))) := M1.out.below ((Below.refl _ _).drew)
        refine wp_region_held_drew (S := fun w : World => (w.heap[W.heap.size]? = some (.cells s 38 (0, 0)) ∧ w.cell? ⟨rb, 0, none⟩ = some (.pointer (some ⟨pb, 0, none⟩))) ∧ w.cell? ⟨W.heap.size + 1, 5, none⟩ = some (.int .i64 (T i : Int))) (by kernel_rfl) ?_ (fun hHeld => ?_)
        · exact KG.out _ M2.out
        obtain ⟨V4, hV4⟩ : ∃ V4, V4 = V3.drew := ⟨_, rfl⟩
        rw [← hV4] at M2 hHeld ⊢
        clear hV4 M1
        refine wpAnyH_take (i := 0) (v := ?_) rfl (by kernel_rfl) (by kernel_rfl) (by kernel_rfl) (fun _ _ _ h => h) (Or.inl ⟨by rfl, ?_⟩) (by assumption) ?_
        rotate_left
        · (intro w hSw; (try dsimp only at hSw); go_simp; try with_reducible rfl)
        try simp only [List.getElem_toArray, List.getElem_cons_zero, List.getElem_cons_succ, Act.put, List.setIfInBounds_toArray, List.set_cons_zero, List.set_cons_succ]
        refine wpAnyH_take (i := 1) (v := ?_) rfl (by kernel_rfl) (by kernel_rfl) (by kernel_rfl) (fun _ _ _ h => h) (Or.inl ⟨by rfl, ?_⟩) (by assumption) ?_
        rotate_left
        · (intro w hSw; (try dsimp only at hSw); go_simp; try with_reducible rfl)
        try simp only [List.getElem_toArray, List.getElem_cons_zero, List.getElem_cons_succ, Act.put, List.setIfInBounds_toArray, List.set_cons_zero, List.set_cons_succ]
        refine wpAnyH_take (i := 2) (v := ?_) rfl (by kernel_rfl) (by kernel_rfl) (by kernel_rfl) (fun _ _ _ h => h) (Or.inl ⟨by rfl, ?_⟩) (by assumption) ?_
        rotate_left
        · (intro w hSw; (try dsimp only at hSw); go_simp; try with_reducible rfl)
        try simp only [List.getElem_toArray, List.getElem_cons_zero, List.getElem_cons_succ, Act.put, List.setIfInBounds_toArray, List.set_cons_zero, List.set_cons_succ]
        refine wpAnyH_take (i := 3) (v := ?_) rfl (by kernel_rfl) (by kernel_rfl) (by kernel_rfl) (fun _ _ _ h => h) (Or.inl ⟨by rfl, ?_⟩) (by assumption) ?_
        rotate_left
        · (intro w hSw; (try dsimp only at hSw); go_simp; try with_reducible rfl)
        try simp only [List.getElem_toArray, List.getElem_cons_zero, List.getElem_cons_succ, Act.put, List.setIfInBounds_toArray, List.set_cons_zero, List.set_cons_succ]
        refine wpAnyH_take (i := 4) (v := ?_) rfl (by kernel_rfl) (by kernel_rfl) (by kernel_rfl) (fun _ _ _ h => h) (Or.inl ⟨by rfl, ?_⟩) (by assumption) ?_
        rotate_left
        · (intro w hSw; (try dsimp only at hSw); go_simp; try with_reducible rfl)
        try simp only [List.getElem_toArray, List.getElem_cons_zero, List.getElem_cons_succ, Act.put, List.setIfInBounds_toArray, List.set_cons_zero, List.set_cons_succ]
        refine wpAnyH_take (i := 5) (v := ?_) rfl (by kernel_rfl) (by kernel_rfl) (by kernel_rfl) (fun _ _ _ h => h) (Or.inl ⟨by rfl, ?_⟩) (by assumption) ?_
        rotate_left
        · (intro w hSw; (try dsimp only at hSw); go_simp; try with_reducible rfl)
        try simp only [List.getElem_toArray, List.getElem_cons_zero, List.getElem_cons_succ, Act.put, List.setIfInBounds_toArray, List.set_cons_zero, List.set_cons_succ]
        refine wpAnyH_take (i := 6) (v := .agg s) rfl (by kernel_rfl) (by kernel_rfl) (by kernel_rfl) (fun _ _ _ h => h) (yields_load49 (by rfl) _ rfl W.heap.size rfl s (fun _ h => h.1.1) M2.out.st.size) (by assumption) ?_
        try simp only [List.getElem_toArray, List.getElem_cons_zero, List.getElem_cons_succ, Act.put, List.setIfInBounds_toArray, List.set_cons_zero, List.set_cons_succ]
        refine wpAnyH_ready (rs := [7]) (by kernel_rfl) (by simp) ?_
        refine AllReadyH.cons (o := _) rfl (fun K hK => ?_) AllReadyH.nil
        go_simp
        refine Calls.mono (find_prg (HC.out.fix M2.out.base) HN.out i HI5.out.1 HI5.out.2 s M2.out.st) ?_
        rintro e V5 ⟨⟨ac, B5, rfl, hac⟩, hb5⟩
        have M5 : Hid (DoI w0 W pb n T tv rb V5 r v2 s (q + 1) o sv B (Ac.goA (T i : Int))) := M2.out.below hb5
        have HAC : Hid (ActsAt n T (F i) B5 W ac) := hac.of (fun g _ _ _ h2 => HBW.out.block g (lt_of_heap h2))
        clear hb5 hac M2
        go_wp2_with fail
        refine hK.out _ _ (KG.out _ M5.out) (fun hHeld2 => ?_)
        clear hK K hHeld
        have hHeld := hHeld2
        clear hHeld2
        try simp only [List.getElem_toArray, List.getElem_cons_zero, List.getElem_cons_succ, Act.put, List.setIfInBounds_toArray, List.set_cons_zero, List.set_cons_succ]
        refine wpAnyH_take (i := 8) (v := ?_) rfl (by kernel_rfl) (by kernel_rfl) (by kernel_rfl) (fun _ _ _ h => h) (Or.inl ⟨by rfl, ?_⟩) (by assumption) ?_
        rotate_left
        · (intro w hSw; (try dsimp only at hSw); go_simp; try with_reducible rfl)
        try simp only [List.getElem_toArray, List.getElem_cons_zero, List.getElem_cons_succ, Act.put, List.setIfInBounds_toArray, List.set_cons_zero, List.set_cons_succ]
        clear hHeld KG
        refine wpAnyH_done (by kernel_rfl) ?_ _
        have M6 : Hid (DoI w0 W pb n T tv rb V5 (F i) ac s (q + 1) o sv B5 (Ac.goA (T i : Int))) := { M5.out with acts := HAC.out }
        go_wp2_with fail
        go_step3
        exact ⟨rfl, k, Nat.lt_succ_self k, F i, ac, s, q + 1, o, sv, B5, Ac.goA (T i : Int), _, _, _, _, _, _, _, _, _, _, _, _, _, _, _, _, _, _, _, _, _, _, _, _, _, _, _, _, _, _, _, _, _, _, _, _, _, _, _, _, _, _, _, _, _, _, _, _, _, _, _, _, _, _, _, _, _, _, _, _, _, _, _, _, _, _, _, _, _, _, _, _, ⟨M6.out, Nat.le_of_succ_le hkf, HR2.out⟩, rfl⟩
      | hop =>
        obtain rfl := HROW.out
        have c0 : V2.cell? ⟨W.heap.size + 1, 0, none⟩ = some (.int .i64 3) := cell_row M.out.ax 0
        have h0 : Ac.hopE s = 0 := by
          have h := HRES.out
          simp only [runO] at h
          split at h
          · assumption
          · cases h
        have hres2 : runO F k r (Ac.hopR s) q o = some (b, q1, o1) := by have h := HRES.out; simp only [runO, if_pos h0] at h; exact h
        have HR2 : Hid _ := hres2
        have HCH : Hid _ := change_hop (.pointer (some ⟨rb, 0, none⟩)) s M.out.st h0 V2
        have HSS : Hid (St (Ac.hopR s)) := st_hop M.out.st h0
        have HIS : Hid _ := info_size M.out.st.size
        clear hres2 HRES h0
        go_wp2_with (first
          | refine wpList_load_row rfl 38 _ rfl W.heap.size rfl 38 s (0, 0) _ M.out.sx Tryz.underlying38 rfl HIS.out ?_
          | refine wpList_load_row rfl 49 _ rfl (W.heap.size + 1) rfl 49 (Ac.leafA 3) (0, 0) _ M.out.ax Tryz.underlying49 rfl (by kernel_rfl) ?_
          | fail)
        refine Calls.mono HCH.out ?_
        rintro e V3 ⟨rfl, hb3⟩
        have M3 : Hid (DoI w0 W pb n T tv rb V3 r v2 s q o sv B (Ac.leafA 3)) := M.out.below hb3
        clear hb3 M c0 HCH
        go_wp2_with (first
          | refine wpList_store_row rfl 38 _ _ rfl W.heap.size s (Ac.hopR s) 38 rfl rfl M3.out.sx (info_size HSS.out.size) (M3.out.st.size.trans HSS.out.size.symm) HSS.out.one ?_
          | fail)
        intro V4 z1 z2 z3 z4
        have M4 : Hid (DoI w0 W pb n T tv rb V4 r v2 (Ac.hopR s) q o sv B (Ac.leafA 3)) := M3.out.putS HW0.out HSS.out z1 z2 z4
        clear z1 z2 z3 z4 M3
        go_wp2_with fail
        go_step3
        exact ⟨rfl, k, Nat.lt_succ_self k, r, v2, Ac.hopR s, q, o, sv, B, Ac.leafA 3, _, _, _, _, _, _, _, _, _, _, _, _, _, _, _, _, _, _, _, _, _, _, _, _, _, _, _, _, _, _, _, _, _, _, _, _, _, _, _, _, _, _, _, _, _, _, _, _, _, _, _, _, _, _, _, _, _, _, _, _, _, _, _, _, _, _, _, _, _, _, _, _, ⟨M4.out, Nat.le_of_succ_le hkf, HR2.out⟩, rfl⟩
      | clone ps =>
        obtain ⟨kv, rfl, hkids⟩ := HROW.out
        have c0 : V2.cell? ⟨W.heap.size + 1, 0, none⟩ = some (.int .i64 5) := cell_row M.out.ax 0
        obtain ⟨X, hX⟩ : ∃ X, X = runO F k (ps.map .out) s q o := ⟨_, rfl⟩
        have hres2 := HRES.out
        simp only [runO] at hres2
        rw [← hX] at hres2
        cases X with
        | none => simp at hres2
        | some y =>
        obtain ⟨bb, q2, o2⟩ := y
        have c7 : V2.cell? ⟨W.heap.size + 1, 7, none⟩ = some kv := cell_row M.out.ax 7
        have HIS : Hid _ := info_size M.out.st.size
        have hlen : o2.length ≤ o1.length := by
          cases bb with
          | true => exact runO_mono hres2
          | false => simp only [Option.some.injEq, Prod.mk.injEq] at hres2; rw [hres2.2.2]; exact Nat.le_refl _
        have HQ2 : Hid (q2 ≤ 4096) := runO_goes M.out.go hX.symm
        have HCALL : Hid _ := HIH.out k (by omega) V2 (ps.map .out) kv s q o sv B bb q2 o2 M.out.base M.out.run M.out.own (M.out.mv.acts (outs_acts hkids)) M.out.st M.out.go hX.symm (Nat.le_trans hlen HMAX.out)
        have HR2 : Hid _ := hres2
        clear hlen hX hres2 HRES hkids
        go_wp2_with (first
          | refine wpList_load_row rfl 38 _ rfl W.heap.size rfl 38 s (0, 0) _ M.out.sx Tryz.underlying38 rfl HIS.out ?_
          | fail)
        refine Calls.mono HCALL.out ?_
        rintro e V3 ⟨rfl, sv2, hr3, ho3, hm3⟩
        have M3 : Hid (DoI w0 W pb n T tv rb V3 r v2 s q2 o2 sv2 B (Ac.cloneA kv)) := M.out.inner hm3 hr3 ho3 HQ2.out
        clear hr3 ho3 hm3 M c0 c7 HCALL
        cases bb with
        | false =>
          have hres3 : some (false, q2, o2) = some (b, q1, o1) := HR2.out
          simp only [Option.some.injEq, Prod.mk.injEq] at hres3
          obtain ⟨rfl, rfl, rfl⟩ := hres3
          go_wp2
          simp only [Exit.jump]
          go_ret
          first | exact ⟨rfl, sv2, M3.out.run, M3.out.own, M3.out.mv⟩ | (trace_state; fail)
        | true =>
          have HR3 : Hid (runO F k r s q2 o2 = some (b, q1, o1)) := HR2.out
          go_wp2_with fail
          go_step3
          exact ⟨rfl, k, Nat.lt_succ_self k, r, v2, s, q2, o2, sv2, B, Ac.cloneA kv, _, _, _, _, _, _, _, _, _, _, _, _, _, _, _, _, _, _, _, _, _, _, _, _, _, _, _, _, _, _, _, _, _, _, _, _, _, _, _, _, _, _, _, _, _, _, _, _, _, _, _, _, _, _, _, _, _, _, _, _, _, _, _, _, _, _, _, _, _, _, _, _, ⟨M3.out, Nat.le_of_succ_le hkf, HR3.out⟩, rfl⟩
end Go.Proofs.YtnahhmcmahbnkaaGreatDoor
