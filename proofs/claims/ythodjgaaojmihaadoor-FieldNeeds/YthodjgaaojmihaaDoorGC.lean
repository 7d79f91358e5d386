/- The walk of FieldNeeds. Conditions: as said. -/
import Derived.Test.YthodjgaaojmihaaDoorGB
import Derived.Test.YthodjgaaojmihaaDoorFJ
namespace Go.Proofs.YthodjgaaojmihaaDoor
open Go.RowKit
set_option maxRecDepth 20000
set_option linter.unusedSimpArgs false
@[irreducible] def StopP (p : Prop) : Prop := p
theorem StopP.out {p : Prop} (h : StopP p) : p := by unfold StopP at h; exact h
theorem StopP.mk {p : Prop} (h : p) : StopP p := by unfold StopP; exact h
theorem isSt {P : Program} {ops : Array Oper} {rest : List Oper} {op : Oper} {a : Act} {w : World} {Q : Exit → Act → World → Prop} (ty : TypeId) (x y : Operand) (_ : op.op = .store ty x y) (_ : op.guard = none) (h : wpList P ops Q (op :: rest) a w) : wpList P ops Q (op :: rest) a w := h
theorem isBd {P : Program} {ops : Array Oper} {rest : List Oper} {op : Oper} {a : Act} {w : World} {Q : Exit → Act → World → Prop} (ty : TypeId) (x : Array (Nat × Operand)) (_ : op.op = .build ty x) (_ : op.guard = none) (h : wpList P ops Q (op :: rest) a w) : wpList P ops Q (op :: rest) a w := h
theorem isLd {P : Program} {ops : Array Oper} {rest : List Oper} {op : Oper} {a : Act} {w : World} {Q : Exit → Act → World → Prop} (ty : TypeId) (x : Operand) (_ : op.op = .load ty x) (h : wpList P ops Q (op :: rest) a w) : wpList P ops Q (op :: rest) a w := h
theorem zeroEq (W : World) : (binOp .eql 34 (.agg zeroPk) (.agg zeroPk)).run Tryd.prog W = .ok (.bool true) W := by kernel_rfl
set_option maxHeartbeats 2000000 in
theorem needs_no (w : World) (a : Option Addr) (n cap : Nat) (zs : List Int) (h : BS w a n zs) (hcap : n ≤ cap) (hm : cap ≤ 9223372036854775807) (f : Int) (hf : (f != 0) = true) (hp : parseR zs = (zeroPkR, f)) :
    Calls Tryd.prog 3 #[.slice a n cap] w fun e w' => e = .returned (.bool true) ∧ Below w.heap.size w w' := by
  have H : Hid (BS w a n zs) := h
  have HD : Hid (∀ W, BS W a n zs → Calls Tryd.prog 4 #[.slice a n cap] W fun e w' => e = .returned (.tuple #[.agg zeroPk, .int .i64 f]) ∧ Below W.heap.size W w') := fun W hB => by
    have := parse_any W a n cap zs hB hcap hm
    rw [hp, pv_mk, zeroPkR_ps] at this
    exact this
  have ZQ : Hid (zeroPk.size = 36) := zsize
  have OQ : Hid (zeroPk.all (·.oneCell') = true) := one36
  clear h hp
  go_enter Tryd.func3, Tryd.ntmps3
  go_wp2_with fail
  refine (HD.out w H.out).mono ?_
  rintro e W1 ⟨rfl, hb⟩
  have B_1 : Hid (Below w.heap.size w W1) := hb
  clear hb HD
  go_wp2_with (first
    | ((with_reducible (refine isSt 34 _ _ rfl rfl ?_)); refine Ca.wpList_store_new rfl 34 _ _ rfl zeroPk zeroPk _ rfl rfl rfl (info36 ZQ.out) (Eq.trans (b := 36) rfl ZQ.out.symm) OQ.out ?_; refine StopP.out ?_)
    | fail)
  have hbA := below1 W1 (.cells zeroPk 34)
  have B_2 : Hid (Below w.heap.size w (W1.alloc (.cells zeroPk 34))) := B_1.out.trans (hbA.mono B_1.out.size)
  have A_2 : Hid ((W1.alloc (.cells zeroPk 34)).heap[W1.heap.size]? = some (.cells zeroPk 34 (0, 0))) := heap_alloc_new W1 _
  obtain ⟨W2, hW⟩ : ∃ V, (W1.alloc (.cells zeroPk 34)) = V := ⟨_, rfl⟩
  obtain ⟨g3, hg⟩ : ∃ n, W1.heap.size = n := ⟨_, rfl⟩
  rw [hW] at B_2 A_2 ⊢
  rw [hg] at A_2 ⊢
  clear hW hg hbA B_1
  refine StopP.mk ?_
  go_wp2_with fail
  refine (Fl.lives_any _).mono ?_
  rintro e W3 ⟨rfl, hb⟩
  have B_3 : Hid (Below w.heap.size w W3) := B_2.out.trans (hb.mono B_2.out.size)
  have A_3 : Hid (W3.heap[g3]? = some (.cells zeroPk 34 (0, 0))) := (hb.block _ (Ca.lt_of_heap A_2.out)).trans A_2.out
  clear hb B_2 A_2
  have HE : ∀ W, (binOp .eql 34 (.agg zeroPk) (.agg zeroPk)).run Tryd.prog W = .ok (.bool true) W := zeroEq
  go_wp2_with (first
    | ((with_reducible (refine isLd 34 _ rfl ?_)); refine wpList_load_row rfl 34 _ rfl g3 rfl 34 zeroPk (0, 0) _ A_3.out Tryd.underlying34 rfl (info36 zsize) ?_)
    | ((with_reducible (refine isBd 34 _ rfl rfl ?_)); refine Ca.wpList_build_as rfl 34 _ rfl zeroPk (by rw [List.map_toArray]; show Tryd.prog.built 34 [] = _; kernel_rfl) ?_)
    | fail)
  go_ret
  exact ⟨rfl, B_3.out⟩
set_option maxHeartbeats 4000000 in
theorem needs_yes (w : World) (a : Option Addr) (n cap : Nat) (zs : List Int) (h : BS w a n zs) (hcap : n ≤ cap) (hm : cap ≤ 9223372036854775807) (x : PkR) (hp : parseR zs = (x, 0)) :
    Calls Tryd.prog 3 #[.slice a n cap] w fun e w' => e = .returned (.bool true) ∧ Below w.heap.size w w' := by
  have hx := parse_n zs h.fits x hp
  have H : Hid (BS w a n zs) := h
  have HD : Hid (∀ W, BS W a n zs → Calls Tryd.prog 4 #[.slice a n cap] W fun e w' => e = .returned (.tuple #[.agg x.ps, .int .i64 0]) ∧ Below W.heap.size W w') := fun W hB => by
    have := parse_any W a n cap zs hB hcap hm
    rw [hp, pv_mk] at this
    exact this
  have ZQ : Hid (x.ps.size = 36) := rfl
  have OQ : Hid (x.ps.all (·.oneCell') = true) := by show _ = _; kernel_rfl
  have FRQ : Hid (x.ps[14]? = some (.int .i64 x.fr)) := rfl
  have hbld := stC_built x
  have ZC : Hid ((stC x).size = 49) := rfl
  have OC : Hid ((stC x).all (·.oneCell') = true) := stC_one x
  have G3 : Hid _ := fun w => get3 hx w
  have G12T : Hid (x.ii = true → ∀ w, Calls Tryd.prog 7 #[.agg (stC x), .int .i64 12] w fun e w' => e = .returned (.tuple #[.int .u64 x.pr, .int .i64 0]) ∧ Below w.heap.size w w') := fun hi w => by
    have := get12 hx w
    rw [hi] at this
    exact this
  have G12F : Hid (x.ii = false → ∀ w, Calls Tryd.prog 7 #[.agg (stC x), .int .i64 12] w fun e w' => e = .returned (.tuple #[.int .u64 0, .int .i64 81]) ∧ Below w.heap.size w w') := fun hi w => by
    have := get12 hx w
    rw [hi] at this
    exact this
  have EQ0 : Hid (bits .and .u64 x.et 65535 = x.et) := and16u hx.i64.2.1
  have EQ1 : Hid (bits .and .u64 x.pr 255 = x.pr) := and8u hx.i64.2.2.2.2.2.2.2
  have HAS : Hid (∀ (f : Nat), 1 ≤ f → f ≤ 28 → ∀ W, Calls Tryd.prog 8 #[.agg (stC x), .int .i64 f] W fun e w' => e = .returned (.bool (Fl.ofB (Fl.fOf f) x.ia x.ii x.l.k)) ∧ Below W.heap.size W w') := fun f h1 h2 W => Fl.has_any f h1 h2 _ (stN hx) W
  have OND : Hid (∀ (f : Nat), (Fl.ofB (Fl.fOf f) x.ia x.ii x.l.k = true → nd x (Fl.fOf f) = true) ∧ (nd x (Fl.fOf f) = true → Fl.ofB (Fl.fOf f) x.ia x.ii x.l.k = false → (f = 18 ∨ f = 19) ∨ wholeB x.fr = false)) := fun f => by
    obtain ⟨a1, a2⟩ := ofB_nd hx (Fl.fOf f) (Fl.fOf_le f)
    exact ⟨a1, fun h1 h2 => (a2 h1 h2).imp (fOf_four f) id⟩
  obtain ⟨q, hq⟩ : ∃ p, x.ps = p := ⟨_, rfl⟩
  obtain ⟨cs, hcs⟩ : ∃ p, stC x = p := ⟨_, rfl⟩
  rw [hq] at HD ZQ OQ FRQ hbld
  rw [hcs] at hbld ZC OC G3 G12T G12F HAS
  clear hx hq hcs
  clear h hp
  go_enter Tryd.func3, Tryd.ntmps3
  go_wp2_with fail
  refine (HD.out w H.out).mono ?_
  rintro e W1 ⟨rfl, hb⟩
  have B_1 : Hid (Below w.heap.size w W1) := hb
  clear hb HD
  go_wp2_with (first
    | ((with_reducible (refine isSt 34 _ _ rfl rfl ?_)); refine Ca.wpList_store_new rfl 34 _ _ rfl zeroPk q _ rfl rfl rfl (info36 ZQ.out) (Eq.trans (b := 36) rfl ZQ.out.symm) OQ.out ?_; refine StopP.out ?_)
    | fail)
  have hbA := below1 W1 (.cells q 34)
  have B_2 : Hid (Below w.heap.size w (W1.alloc (.cells q 34))) := B_1.out.trans (hbA.mono B_1.out.size)
  have A_2 : Hid ((W1.alloc (.cells q 34)).heap[W1.heap.size]? = some (.cells q 34 (0, 0))) := heap_alloc_new W1 _
  obtain ⟨W2, hW⟩ : ∃ V, (W1.alloc (.cells q 34)) = V := ⟨_, rfl⟩
  obtain ⟨g3, hg⟩ : ∃ n, W1.heap.size = n := ⟨_, rfl⟩
  rw [hW] at B_2 A_2 ⊢
  rw [hg] at A_2 ⊢
  clear hW hg hbA B_1
  refine StopP.mk ?_
  go_wp2_with fail
  refine (Fl.lives_any _).mono ?_
  rintro e W3 ⟨rfl, hb⟩
  have B_3 : Hid (Below w.heap.size w W3) := B_2.out.trans (hb.mono B_2.out.size)
  have A_3 : Hid (W3.heap[g3]? = some (.cells q 34 (0, 0))) := (hb.block _ (Ca.lt_of_heap A_2.out)).trans A_2.out
  clear hb B_2 A_2
  go_wp2_with (first
    | ((with_reducible (refine isLd 34 _ rfl ?_)); refine wpList_load_row rfl 34 _ rfl g3 rfl 34 q (0, 0) _ A_3.out Tryd.underlying34 rfl (info36 ZQ.out) ?_; refine Ca.wpList_build_as rfl 43 _ rfl cs (by rw [List.map_toArray]; show Tryd.prog.built 43 [(0, .agg q)] = _; exact hbld) ?_)
    | ((with_reducible (refine isSt 43 _ _ rfl rfl ?_)); refine Ca.wpList_store_new rfl 43 _ _ rfl Fl.zeroC cs _ rfl rfl rfl (Fl.info_size ZC.out) (Eq.trans (b := 49) rfl ZC.out.symm) OC.out ?_; refine StopP.out ?_)
    | fail)
  have hbA := below1 W3 (.cells cs 43)
  have B_4 : Hid (Below w.heap.size w (W3.alloc (.cells cs 43))) := B_3.out.trans (hbA.mono B_3.out.size)
  have A_4 : Hid ((W3.alloc (.cells cs 43)).heap[g3]? = some (.cells q 34 (0, 0))) := (hbA.block _ (Ca.lt_of_heap A_3.out)).trans A_3.out
  have C_4 : Hid ((W3.alloc (.cells cs 43)).heap[W3.heap.size]? = some (.cells cs 43 (0, 0))) := heap_alloc_new W3 _
  obtain ⟨W4, hW⟩ : ∃ V, (W3.alloc (.cells cs 43)) = V := ⟨_, rfl⟩
  obtain ⟨g5, hg⟩ : ∃ n, W3.heap.size = n := ⟨_, rfl⟩
  rw [hW] at B_4 A_4 C_4 ⊢
  rw [hg] at C_4 ⊢
  clear hW hg hbA B_3 A_3 hbld
  refine StopP.mk ?_
  go_wp2_with fail
  go_loopw [6] (fun i wr => ∃ k : Nat, 1 ≤ k ∧ k ≤ 29 ∧ i = .int .i64 k ∧ Below W4.heap.size W4 wr) (fun i _ => 29 - (intOf i).toNat)
  case atStart => exact ⟨1, by omega, by omega, rfl, Below.refl _ _⟩
  case round =>
    obtain ⟨k, hk1, hk2, rfl, hb⟩ := hrel
    have B_k : Hid (Below W4.heap.size W4 wr) := hb
    have A_k : Hid (wr.heap[g3]? = some (.cells q 34 (0, 0))) := (hb.block _ (Ca.lt_of_heap A_4.out)).trans A_4.out
    have C_k : Hid (wr.heap[g5]? = some (.cells cs 43 (0, 0))) := (hb.block _ (Ca.lt_of_heap C_4.out)).trans C_4.out
    clear hb
    by_cases hlt : k ≤ 28
    · have hkI : (k : Int) ≤ 28 := by omega
      go_wp2_with fail
      refine (Fl.needs_any k hk1 hlt _).mono ?_
      rintro e V1 ⟨v, rfl, hns, hv⟩
      have B_1 : Hid (Below W4.heap.size W4 V1) := B_k.out.trans (hv.mono B_k.out.size)
      have A_1 : Hid (V1.heap[g3]? = some (.cells q 34 (0, 0))) := (hv.block _ (Ca.lt_of_heap A_k.out)).trans A_k.out
      have C_1 : Hid (V1.heap[g5]? = some (.cells cs 43 (0, 0))) := (hv.block _ (Ca.lt_of_heap C_k.out)).trans C_k.out
      clear hv B_k A_k C_k
      have OK := OND.out k
      have HK := HAS.out k hk1 hlt
      obtain ⟨o, ho⟩ : ∃ o, Fl.fOf k = o := ⟨_, rfl⟩
      rw [ho] at hns OK HK
      clear ho
      have OKH : Hid _ := OK
      have HKH : Hid _ := HK
      clear OK HK
      obtain ⟨L, hL⟩ : ∃ L, Fl.needLen o = L := ⟨_, rfl⟩
      have hL2 : L ≤ 2 := by rw [← hL]; exact needLen_le o
      obtain ⟨g0, hv, hrow⟩ : ∃ g0 : Option Addr, v = .slice g0 L L ∧ (0 < L → ∃ g, g0 = some ⟨g, 0, none⟩ ∧ V1.heap[g]? = some (.cells (Fl.needC o) 49 (0, 0))) := by
        rcases hns with ⟨h0, h1⟩ | ⟨g, h1, h2⟩
        · exact ⟨none, by rw [h1, ← hL, h0], fun h => by omega⟩
        · exact ⟨_, by rw [h1, hL], fun _ => ⟨g, rfl, h2⟩⟩
      subst hv
      have HROW : Hid _ := hrow
      have HL : Hid (Fl.needLen o = L) := hL
      clear hns hrow hL
      go_wp2_with fail
      go_loopw [7, 9] (fun b i wr => ∃ j : Nat, j ≤ L ∧ b = .bool (ndk x o j) ∧ i = .int .i64 j ∧ Below V1.heap.size V1 wr) (fun _ i _ => L - (intOf i).toNat)
      case atStart => exact ⟨0, by omega, rfl, rfl, Below.refl _ _⟩
      case round =>
        obtain ⟨j, hj, rfl, rfl, hb⟩ := hrel
        have B_u : Hid (Below V1.heap.size V1 wr) := hb
        have A_u : Hid (wr.heap[g3]? = some (.cells q 34 (0, 0))) := (hb.block _ (Ca.lt_of_heap A_1.out)).trans A_1.out
        have C_u : Hid (wr.heap[g5]? = some (.cells cs 43 (0, 0))) := (hb.block _ (Ca.lt_of_heap C_1.out)).trans C_1.out
        clear hb
        by_cases hjl : j < L
        · obtain ⟨g, hg0, hg1⟩ := HROW.out (by omega)
          subst hg0
          have hg : wr.heap[g]? = some (.cells (Fl.needC o) 49 (0, 0)) := (B_u.out.block _ (Ca.lt_of_heap hg1)).trans hg1
          clear hg1
          have hno : Fl.needLen o = L := HL.out
          rcases (show j = 0 ∨ j = 1 by omega) with rfl | rfl
          · by_cases he : x.et = ndV o
            · have cm : (bits .and .u64 x.et 65535 == ndV o) = true := by rw [EQ0.out]; simp [he]
              have HE : Hid (x.et = ndV o) := he
              clear he
              obtain ⟨c0, c1, c2⟩ := need0 o (by omega)
              have KC : Hid (∀ W, Below wr.heap.size wr W → W.cell? ⟨g, 0, none⟩ = some (.int .i64 3) ∧ W.cell? ⟨g, 1, none⟩ = some (.int .u64 (ndV o)) ∧ W.cell? ⟨g, 2, none⟩ = some (.int .u64 65535) ∧ W.heap[g5]? = some (.cells cs 43 (0, 0)) ∧ Below wr.heap.size wr W) := fun W hb => by
                have e1 := (hb.block _ (Ca.lt_of_heap hg)).trans hg
                have e2 := (hb.block _ (Ca.lt_of_heap C_u.out)).trans C_u.out
                exact ⟨(Ca.cell_row e1 0).trans c0, (Ca.cell_row e1 1).trans c1, (Ca.cell_row e1 2).trans c2, e2, hb⟩
              clear c0 c1 c2 hg
              have hjI : (0 : Int) < (L : Int) := by omega
              go_wp2_with fail
              refine wp_region_held_drew (S := (fun W => W.cell? ⟨g, 0, none⟩ = some (.int .i64 3) ∧ W.cell? ⟨g, 1, none⟩ = some (.int .u64 (ndV o)) ∧ W.cell? ⟨g, 2, none⟩ = some (.int .u64 65535) ∧ W.heap[g5]? = some (.cells cs 43 (0, 0)) ∧ Below wr.heap.size wr W)) (by kernel_rfl) ?_ (fun hHeld => ?_)
              · exact KC.out _ (Below.refl _ _).drew
              refine wpAnyH_take (i := 0) (v := .agg cs) rfl (by kernel_rfl) (by kernel_rfl) (by kernel_rfl) (fun _ _ _ h => h) (Fl.yields_load49 (by rfl) _ rfl g5 rfl cs (fun _ h => h.2.2.2.1) ZC.out) (by assumption) ?_
              try simp only [List.getElem_toArray, List.getElem_cons_zero, List.getElem_cons_succ, Act.put, List.setIfInBounds_toArray, List.set_cons_zero, List.set_cons_succ]
              refine wpAnyH_take (i := 1) (v := ?_) rfl (by kernel_rfl) (by kernel_rfl) (by kernel_rfl) (fun _ _ _ h => h) (Or.inl ⟨by rfl, ?_⟩) (by assumption) ?_
              rotate_left
              · (intro w hSw; (try dsimp only at hSw); go_simp; try with_reducible rfl)
              try simp only [List.getElem_toArray, List.getElem_cons_zero, List.getElem_cons_succ, Act.put, List.setIfInBounds_toArray, List.set_cons_zero, List.set_cons_succ]
              refine wpAnyH_take (i := 2) (v := ?_) rfl (by kernel_rfl) (by kernel_rfl) (by kernel_rfl) (fun _ _ _ h => h) (Or.inl ⟨by rfl, ?_⟩) (by assumption) ?_
              rotate_left
              · (intro w hSw; (try dsimp only at hSw); go_simp; try with_reducible rfl)
              try simp only [List.getElem_toArray, List.getElem_cons_zero, List.getElem_cons_succ, Act.put, List.setIfInBounds_toArray, List.set_cons_zero, List.set_cons_succ]
              refine wpAnyH_take (i := 3) (v := ?_) rfl (by kernel_rfl) (by kernel_rfl) (by kernel_rfl) (fun _ _ _ h => h) (Or.inl ⟨by rfl, ?_⟩) (by assumption) ?_
              rotate_left
              · (intro w hSw; (try dsimp only at hSw); go_simp; try with_reducible rfl)
              try simp only [List.getElem_toArray, List.getElem_cons_zero, List.getElem_cons_succ, Act.put, List.setIfInBounds_toArray, List.set_cons_zero, List.set_cons_succ]
              refine wpAnyH_take (i := 4) (v := ?_) rfl (by kernel_rfl) (by kernel_rfl) (by kernel_rfl) (fun _ _ _ h => h) (Or.inl ⟨by rfl, ?_⟩) (by assumption) ?_
              rotate_left
              · (intro w hSw; (try dsimp only at hSw); go_simp; try with_reducible rfl)
              try simp only [List.getElem_toArray, List.getElem_cons_zero, List.getElem_cons_succ, Act.put, List.setIfInBounds_toArray, List.set_cons_zero, List.set_cons_succ]
              refine wpAnyH_take (i := 5) (v := ?_) rfl (by kernel_rfl) (by kernel_rfl) (by kernel_rfl) (fun _ _ _ h => h) (Or.inl ⟨by rfl, ?_⟩) (by assumption) ?_
              rotate_left
              · (intro w hSw; (try dsimp only at hSw); go_simp; try with_reducible rfl)
              try simp only [List.getElem_toArray, List.getElem_cons_zero, List.getElem_cons_succ, Act.put, List.setIfInBounds_toArray, List.set_cons_zero, List.set_cons_succ]
              refine wpAnyH_ready (rs := [6]) (by kernel_rfl) (by simp) ?_
              refine AllReadyH.cons (o := _) rfl (fun K hK => ?_) AllReadyH.nil
              go_simp
              refine (G3.out _).mono ?_
              rintro e W6 ⟨rfl, hb6⟩
              go_wp2_with fail
              refine hK.out _ _ (KC.out _ (hHeld.2.2.2.2.trans (hb6.mono hHeld.2.2.2.2.size))) (fun hHeld2 => ?_)
              clear hK K hb6 hHeld
              try simp only [List.getElem_toArray, List.getElem_cons_zero, List.getElem_cons_succ, Act.put, List.setIfInBounds_toArray, List.set_cons_zero, List.set_cons_succ]
              refine wpAnyH_take (i := 7) (v := ?_) rfl (by kernel_rfl) (by kernel_rfl) (by kernel_rfl) (fun _ _ _ h => h) (Or.inl ⟨by rfl, ?_⟩) (by assumption) ?_
              rotate_left
              · (intro w hSw; (try dsimp only at hSw); go_simp; try with_reducible rfl)
              try simp only [List.getElem_toArray, List.getElem_cons_zero, List.getElem_cons_succ, Act.put, List.setIfInBounds_toArray, List.set_cons_zero, List.set_cons_succ]
              refine wpAnyH_take (i := 8) (v := ?_) rfl (by kernel_rfl) (by kernel_rfl) (by kernel_rfl) (fun _ _ _ h => h) (Or.inl ⟨by rfl, ?_⟩) (by assumption) ?_
              rotate_left
              · (intro w hSw; (try dsimp only at hSw); go_simp; try with_reducible rfl)
              try simp only [List.getElem_toArray, List.getElem_cons_zero, List.getElem_cons_succ, Act.put, List.setIfInBounds_toArray, List.set_cons_zero, List.set_cons_succ]
              refine wpAnyH_take (i := 9) (v := ?_) rfl (by kernel_rfl) (by kernel_rfl) (by kernel_rfl) (fun _ _ _ h => h) (Or.inl ⟨by rfl, ?_⟩) (by assumption) ?_
              rotate_left
              · (intro w hSw; (try dsimp only at hSw); go_simp; try with_reducible rfl)
              try simp only [List.getElem_toArray, List.getElem_cons_zero, List.getElem_cons_succ, Act.put, List.setIfInBounds_toArray, List.set_cons_zero, List.set_cons_succ]
              refine wpAnyH_take (i := 10) (v := ?_) rfl (by kernel_rfl) (by kernel_rfl) (by kernel_rfl) (fun _ _ _ h => h) (Or.inl ⟨by rfl, ?_⟩) (by assumption) ?_
              rotate_left
              · (intro w hSw; (try dsimp only at hSw); go_simp; try with_reducible rfl)
              try simp only [List.getElem_toArray, List.getElem_cons_zero, List.getElem_cons_succ, Act.put, List.setIfInBounds_toArray, List.set_cons_zero, List.set_cons_succ]
              refine wpAnyH_take (i := 11) (v := ?_) rfl (by kernel_rfl) (by kernel_rfl) (by kernel_rfl) (fun _ _ _ h => h) (Or.inl ⟨by rfl, ?_⟩) (by assumption) ?_
              rotate_left
              · (intro w hSw; (try dsimp only at hSw); go_simp; try with_reducible rfl)
              try simp only [List.getElem_toArray, List.getElem_cons_zero, List.getElem_cons_succ, Act.put, List.setIfInBounds_toArray, List.set_cons_zero, List.set_cons_succ]
              refine wpAnyH_done (by kernel_rfl) ?_ _
              obtain ⟨q0, q1, q2, q3, q4⟩ := hHeld2
              have B_6 : Hid _ := q4
              clear q0 q3 q4
              go_wp2_with fail
              go_quiet (fail)
              go_wp2
              go_roundw
              case rel => exact ⟨1, by omega, by simp [ndk, HE.out], by first | rfl | go_num, Fl.below_drewN (B_u.out.trans (B_6.out.mono B_u.out.size)) _⟩
              case measure => simp [intOf]; omega
            · have cm : (bits .and .u64 x.et 65535 == ndV o) = false := by rw [EQ0.out]; simp [he]
              have HE : Hid (¬ x.et = ndV o) := he
              clear he
              obtain ⟨c0, c1, c2⟩ := need0 o (by omega)
              have KC : Hid (∀ W, Below wr.heap.size wr W → W.cell? ⟨g, 0, none⟩ = some (.int .i64 3) ∧ W.cell? ⟨g, 1, none⟩ = some (.int .u64 (ndV o)) ∧ W.cell? ⟨g, 2, none⟩ = some (.int .u64 65535) ∧ W.heap[g5]? = some (.cells cs 43 (0, 0)) ∧ Below wr.heap.size wr W) := fun W hb => by
                have e1 := (hb.block _ (Ca.lt_of_heap hg)).trans hg
                have e2 := (hb.block _ (Ca.lt_of_heap C_u.out)).trans C_u.out
                exact ⟨(Ca.cell_row e1 0).trans c0, (Ca.cell_row e1 1).trans c1, (Ca.cell_row e1 2).trans c2, e2, hb⟩
              clear c0 c1 c2 hg
              have hjI : (0 : Int) < (L : Int) := by omega
              go_wp2_with fail
              refine wp_region_held_drew (S := (fun W => W.cell? ⟨g, 0, none⟩ = some (.int .i64 3) ∧ W.cell? ⟨g, 1, none⟩ = some (.int .u64 (ndV o)) ∧ W.cell? ⟨g, 2, none⟩ = some (.int .u64 65535) ∧ W.heap[g5]? = some (.cells cs 43 (0, 0)) ∧ Below wr.heap.size wr W)) (by kernel_rfl) ?_ (fun hHeld => ?_)
              · exact KC.out _ (Below.refl _ _).drew
              refine wpAnyH_take (i := 0) (v := .agg cs) rfl (by kernel_rfl) (by kernel_rfl) (by kernel_rfl) (fun _ _ _ h => h) (Fl.yields_load49 (by rfl) _ rfl g5 rfl cs (fun _ h => h.2.2.2.1) ZC.out) (by assumption) ?_
              try simp only [List.getElem_toArray, List.getElem_cons_zero, List.getElem_cons_succ, Act.put, List.setIfInBounds_toArray, List.set_cons_zero, List.set_cons_succ]
              refine wpAnyH_take (i := 1) (v := ?_) rfl (by kernel_rfl) (by kernel_rfl) (by kernel_rfl) (fun _ _ _ h => h) (Or.inl ⟨by rfl, ?_⟩) (by assumption) ?_
              rotate_left
              · (intro w hSw; (try dsimp only at hSw); go_simp; try with_reducible rfl)
              try simp only [List.getElem_toArray, List.getElem_cons_zero, List.getElem_cons_succ, Act.put, List.setIfInBounds_toArray, List.set_cons_zero, List.set_cons_succ]
              refine wpAnyH_take (i := 2) (v := ?_) rfl (by kernel_rfl) (by kernel_rfl) (by kernel_rfl) (fun _ _ _ h => h) (Or.inl ⟨by rfl, ?_⟩) (by assumption) ?_
              rotate_left
              · (intro w hSw; (try dsimp only at hSw); go_simp; try with_reducible rfl)
              try simp only [List.getElem_toArray, List.getElem_cons_zero, List.getElem_cons_succ, Act.put, List.setIfInBounds_toArray, List.set_cons_zero, List.set_cons_succ]
              refine wpAnyH_take (i := 3) (v := ?_) rfl (by kernel_rfl) (by kernel_rfl) (by kernel_rfl) (fun _ _ _ h => h) (Or.inl ⟨by rfl, ?_⟩) (by assumption) ?_
              rotate_left
              · (intro w hSw; (try dsimp only at hSw); go_simp; try with_reducible rfl)
              try simp only [List.getElem_toArray, List.getElem_cons_zero, List.getElem_cons_succ, Act.put, List.setIfInBounds_toArray, List.set_cons_zero, List.set_cons_succ]
              refine wpAnyH_take (i := 4) (v := ?_) rfl (by kernel_rfl) (by kernel_rfl) (by kernel_rfl) (fun _ _ _ h => h) (Or.inl ⟨by rfl, ?_⟩) (by assumption) ?_
              rotate_left
              · (intro w hSw; (try dsimp only at hSw); go_simp; try with_reducible rfl)
              try simp only [List.getElem_toArray, List.getElem_cons_zero, List.getElem_cons_succ, Act.put, List.setIfInBounds_toArray, List.set_cons_zero, List.set_cons_succ]
              refine wpAnyH_take (i := 5) (v := ?_) rfl (by kernel_rfl) (by kernel_rfl) (by kernel_rfl) (fun _ _ _ h => h) (Or.inl ⟨by rfl, ?_⟩) (by assumption) ?_
              rotate_left
              · (intro w hSw; (try dsimp only at hSw); go_simp; try with_reducible rfl)
              try simp only [List.getElem_toArray, List.getElem_cons_zero, List.getElem_cons_succ, Act.put, List.setIfInBounds_toArray, List.set_cons_zero, List.set_cons_succ]
              refine wpAnyH_ready (rs := [6]) (by kernel_rfl) (by simp) ?_
              refine AllReadyH.cons (o := _) rfl (fun K hK => ?_) AllReadyH.nil
              go_simp
              refine (G3.out _).mono ?_
              rintro e W6 ⟨rfl, hb6⟩
              go_wp2_with fail
              refine hK.out _ _ (KC.out _ (hHeld.2.2.2.2.trans (hb6.mono hHeld.2.2.2.2.size))) (fun hHeld2 => ?_)
              clear hK K hb6 hHeld
              try simp only [List.getElem_toArray, List.getElem_cons_zero, List.getElem_cons_succ, Act.put, List.setIfInBounds_toArray, List.set_cons_zero, List.set_cons_succ]
              refine wpAnyH_take (i := 7) (v := ?_) rfl (by kernel_rfl) (by kernel_rfl) (by kernel_rfl) (fun _ _ _ h => h) (Or.inl ⟨by rfl, ?_⟩) (by assumption) ?_
              rotate_left
              · (intro w hSw; (try dsimp only at hSw); go_simp; try with_reducible rfl)
              try simp only [List.getElem_toArray, List.getElem_cons_zero, List.getElem_cons_succ, Act.put, List.setIfInBounds_toArray, List.set_cons_zero, List.set_cons_succ]
              refine wpAnyH_take (i := 8) (v := ?_) rfl (by kernel_rfl) (by kernel_rfl) (by kernel_rfl) (fun _ _ _ h => h) (Or.inl ⟨by rfl, ?_⟩) (by assumption) ?_
              rotate_left
              · (intro w hSw; (try dsimp only at hSw); go_simp; try with_reducible rfl)
              try simp only [List.getElem_toArray, List.getElem_cons_zero, List.getElem_cons_succ, Act.put, List.setIfInBounds_toArray, List.set_cons_zero, List.set_cons_succ]
              refine wpAnyH_take (i := 9) (v := ?_) rfl (by kernel_rfl) (by kernel_rfl) (by kernel_rfl) (fun _ _ _ h => h) (Or.inl ⟨by rfl, ?_⟩) (by assumption) ?_
              rotate_left
              · (intro w hSw; (try dsimp only at hSw); go_simp; try with_reducible rfl)
              try simp only [List.getElem_toArray, List.getElem_cons_zero, List.getElem_cons_succ, Act.put, List.setIfInBounds_toArray, List.set_cons_zero, List.set_cons_succ]
              refine wpAnyH_take (i := 10) (v := ?_) rfl (by kernel_rfl) (by kernel_rfl) (by kernel_rfl) (fun _ _ _ h => h) (Or.inl ⟨by rfl, ?_⟩) (by assumption) ?_
              rotate_left
              · (intro w hSw; (try dsimp only at hSw); go_simp; try with_reducible rfl)
              try simp only [List.getElem_toArray, List.getElem_cons_zero, List.getElem_cons_succ, Act.put, List.setIfInBounds_toArray, List.set_cons_zero, List.set_cons_succ]
              refine wpAnyH_take (i := 11) (v := ?_) rfl (by kernel_rfl) (by kernel_rfl) (by kernel_rfl) (fun _ _ _ h => h) (Or.inl ⟨by rfl, ?_⟩) (by assumption) ?_
              rotate_left
              · (intro w hSw; (try dsimp only at hSw); go_simp; try with_reducible rfl)
              try simp only [List.getElem_toArray, List.getElem_cons_zero, List.getElem_cons_succ, Act.put, List.setIfInBounds_toArray, List.set_cons_zero, List.set_cons_succ]
              refine wpAnyH_done (by kernel_rfl) ?_ _
              obtain ⟨q0, q1, q2, q3, q4⟩ := hHeld2
              have B_6 : Hid _ := q4
              clear q0 q3 q4
              go_wp2_with fail
              go_quiet (fail)
              go_wp2
              go_roundw
              case rel => exact ⟨1, by omega, by simp [ndk, HE.out], by first | rfl | go_num, Fl.below_drewN (B_u.out.trans (B_6.out.mono B_u.out.size)) _⟩
              case measure => simp [intOf]; omega
          · by_cases he : x.et = ndV o
            · rw [show ndk x o 1 = true by simp [ndk, he]]
              have HE : Hid (x.et = ndV o) := he
              clear he
              cases hii : x.ii
              · have HII : Hid (x.ii = false) := hii
                clear hii
                obtain ⟨c0, c1, c2⟩ := need1 o (by omega)
                have KC : Hid (∀ W, Below wr.heap.size wr W → W.cell? ⟨g, 3, none⟩ = some (.int .i64 12) ∧ W.cell? ⟨g, 4, none⟩ = some (.int .u64 (ndW o)) ∧ W.cell? ⟨g, 5, none⟩ = some (.int .u64 255) ∧ W.heap[g5]? = some (.cells cs 43 (0, 0)) ∧ Below wr.heap.size wr W) := fun W hb => by
                  have e1 := (hb.block _ (Ca.lt_of_heap hg)).trans hg
                  have e2 := (hb.block _ (Ca.lt_of_heap C_u.out)).trans C_u.out
                  exact ⟨(Ca.cell_row e1 3).trans c0, (Ca.cell_row e1 4).trans c1, (Ca.cell_row e1 5).trans c2, e2, hb⟩
                clear c0 c1 c2 hg
                have hjI : (1 : Int) < (L : Int) := by omega
                go_wp2_with fail
                refine wp_region_held_drew (S := (fun W => W.cell? ⟨g, 3, none⟩ = some (.int .i64 12) ∧ W.cell? ⟨g, 4, none⟩ = some (.int .u64 (ndW o)) ∧ W.cell? ⟨g, 5, none⟩ = some (.int .u64 255) ∧ W.heap[g5]? = some (.cells cs 43 (0, 0)) ∧ Below wr.heap.size wr W)) (by kernel_rfl) ?_ (fun hHeld => ?_)
                · exact KC.out _ (Below.refl _ _).drew
                refine wpAnyH_take (i := 0) (v := .agg cs) rfl (by kernel_rfl) (by kernel_rfl) (by kernel_rfl) (fun _ _ _ h => h) (Fl.yields_load49 (by rfl) _ rfl g5 rfl cs (fun _ h => h.2.2.2.1) ZC.out) (by assumption) ?_
                try simp only [List.getElem_toArray, List.getElem_cons_zero, List.getElem_cons_succ, Act.put, List.setIfInBounds_toArray, List.set_cons_zero, List.set_cons_succ]
                refine wpAnyH_take (i := 1) (v := ?_) rfl (by kernel_rfl) (by kernel_rfl) (by kernel_rfl) (fun _ _ _ h => h) (Or.inl ⟨by rfl, ?_⟩) (by assumption) ?_
                rotate_left
                · (intro w hSw; (try dsimp only at hSw); go_simp; try with_reducible rfl)
                try simp only [List.getElem_toArray, List.getElem_cons_zero, List.getElem_cons_succ, Act.put, List.setIfInBounds_toArray, List.set_cons_zero, List.set_cons_succ]
                refine wpAnyH_take (i := 2) (v := ?_) rfl (by kernel_rfl) (by kernel_rfl) (by kernel_rfl) (fun _ _ _ h => h) (Or.inl ⟨by rfl, ?_⟩) (by assumption) ?_
                rotate_left
                · (intro w hSw; (try dsimp only at hSw); go_simp; try with_reducible rfl)
                try simp only [List.getElem_toArray, List.getElem_cons_zero, List.getElem_cons_succ, Act.put, List.setIfInBounds_toArray, List.set_cons_zero, List.set_cons_succ]
                refine wpAnyH_take (i := 3) (v := ?_) rfl (by kernel_rfl) (by kernel_rfl) (by kernel_rfl) (fun _ _ _ h => h) (Or.inl ⟨by rfl, ?_⟩) (by assumption) ?_
                rotate_left
                · (intro w hSw; (try dsimp only at hSw); go_simp; try with_reducible rfl)
                try simp only [List.getElem_toArray, List.getElem_cons_zero, List.getElem_cons_succ, Act.put, List.setIfInBounds_toArray, List.set_cons_zero, List.set_cons_succ]
                refine wpAnyH_take (i := 4) (v := ?_) rfl (by kernel_rfl) (by kernel_rfl) (by kernel_rfl) (fun _ _ _ h => h) (Or.inl ⟨by rfl, ?_⟩) (by assumption) ?_
                rotate_left
                · (intro w hSw; (try dsimp only at hSw); go_simp; try with_reducible rfl)
                try simp only [List.getElem_toArray, List.getElem_cons_zero, List.getElem_cons_succ, Act.put, List.setIfInBounds_toArray, List.set_cons_zero, List.set_cons_succ]
                refine wpAnyH_take (i := 5) (v := ?_) rfl (by kernel_rfl) (by kernel_rfl) (by kernel_rfl) (fun _ _ _ h => h) (Or.inl ⟨by rfl, ?_⟩) (by assumption) ?_
                rotate_left
                · (intro w hSw; (try dsimp only at hSw); go_simp; try with_reducible rfl)
                try simp only [List.getElem_toArray, List.getElem_cons_zero, List.getElem_cons_succ, Act.put, List.setIfInBounds_toArray, List.set_cons_zero, List.set_cons_succ]
                refine wpAnyH_ready (rs := [6]) (by kernel_rfl) (by simp) ?_
                refine AllReadyH.cons (o := _) rfl (fun K hK => ?_) AllReadyH.nil
                go_simp
                refine (G12F.out HII.out _).mono ?_
                rintro e W6 ⟨rfl, hb6⟩
                go_wp2_with fail
                refine hK.out _ _ (KC.out _ (hHeld.2.2.2.2.trans (hb6.mono hHeld.2.2.2.2.size))) (fun hHeld2 => ?_)
                clear hK K hb6 hHeld
                try simp only [List.getElem_toArray, List.getElem_cons_zero, List.getElem_cons_succ, Act.put, List.setIfInBounds_toArray, List.set_cons_zero, List.set_cons_succ]
                refine wpAnyH_take (i := 7) (v := ?_) rfl (by kernel_rfl) (by kernel_rfl) (by kernel_rfl) (fun _ _ _ h => h) (Or.inl ⟨by rfl, ?_⟩) (by assumption) ?_
                rotate_left
                · (intro w hSw; (try dsimp only at hSw); go_simp; try with_reducible rfl)
                try simp only [List.getElem_toArray, List.getElem_cons_zero, List.getElem_cons_succ, Act.put, List.setIfInBounds_toArray, List.set_cons_zero, List.set_cons_succ]
                refine wpAnyH_take (i := 8) (v := ?_) rfl (by kernel_rfl) (by kernel_rfl) (by kernel_rfl) (fun _ _ _ h => h) (Or.inl ⟨by rfl, ?_⟩) (by assumption) ?_
                rotate_left
                · (intro w hSw; (try dsimp only at hSw); go_simp; try with_reducible rfl)
                try simp only [List.getElem_toArray, List.getElem_cons_zero, List.getElem_cons_succ, Act.put, List.setIfInBounds_toArray, List.set_cons_zero, List.set_cons_succ]
                refine wpAnyH_take (i := 9) (v := ?_) rfl (by kernel_rfl) (by kernel_rfl) (by kernel_rfl) (fun _ _ _ h => h) (Or.inl ⟨by rfl, ?_⟩) (by assumption) ?_
                rotate_left
                · (intro w hSw; (try dsimp only at hSw); go_simp; try with_reducible rfl)
                try simp only [List.getElem_toArray, List.getElem_cons_zero, List.getElem_cons_succ, Act.put, List.setIfInBounds_toArray, List.set_cons_zero, List.set_cons_succ]
                refine wpAnyH_take (i := 10) (v := ?_) rfl (by kernel_rfl) (by kernel_rfl) (by kernel_rfl) (fun _ _ _ h => h) (Or.inl ⟨by rfl, ?_⟩) (by assumption) ?_
                rotate_left
                · (intro w hSw; (try dsimp only at hSw); go_simp; try with_reducible rfl)
                try simp only [List.getElem_toArray, List.getElem_cons_zero, List.getElem_cons_succ, Act.put, List.setIfInBounds_toArray, List.set_cons_zero, List.set_cons_succ]
                refine wpAnyH_take (i := 11) (v := ?_) rfl (by kernel_rfl) (by kernel_rfl) (by kernel_rfl) (fun _ _ _ h => h) (Or.inl ⟨by rfl, ?_⟩) (by assumption) ?_
                rotate_left
                · (intro w hSw; (try dsimp only at hSw); go_simp; try with_reducible rfl)
                try simp only [List.getElem_toArray, List.getElem_cons_zero, List.getElem_cons_succ, Act.put, List.setIfInBounds_toArray, List.set_cons_zero, List.set_cons_succ]
                refine wpAnyH_done (by kernel_rfl) ?_ _
                obtain ⟨q0, q1, q2, q3, q4⟩ := hHeld2
                have B_6 : Hid _ := q4
                clear q0 q3 q4
                go_wp2_with fail
                go_quiet (fail)
                go_wp2
                go_roundw
                case rel => exact ⟨2, by omega, by simp [ndk, HE.out, HII.out], by first | rfl | go_num, Fl.below_drewN (B_u.out.trans (B_6.out.mono B_u.out.size)) _⟩
                case measure => simp [intOf]; omega
              · have HII : Hid (x.ii = true) := hii
                clear hii
                by_cases hpr : x.pr = ndW o
                · have cm : (bits .and .u64 x.pr 255 == ndW o) = true := by rw [EQ1.out]; simp [hpr]
                  have HP : Hid (x.pr = ndW o) := hpr
                  clear hpr
                  obtain ⟨c0, c1, c2⟩ := need1 o (by omega)
                  have KC : Hid (∀ W, Below wr.heap.size wr W → W.cell? ⟨g, 3, none⟩ = some (.int .i64 12) ∧ W.cell? ⟨g, 4, none⟩ = some (.int .u64 (ndW o)) ∧ W.cell? ⟨g, 5, none⟩ = some (.int .u64 255) ∧ W.heap[g5]? = some (.cells cs 43 (0, 0)) ∧ Below wr.heap.size wr W) := fun W hb => by
                    have e1 := (hb.block _ (Ca.lt_of_heap hg)).trans hg
                    have e2 := (hb.block _ (Ca.lt_of_heap C_u.out)).trans C_u.out
                    exact ⟨(Ca.cell_row e1 3).trans c0, (Ca.cell_row e1 4).trans c1, (Ca.cell_row e1 5).trans c2, e2, hb⟩
                  clear c0 c1 c2 hg
                  have hjI : (1 : Int) < (L : Int) := by omega
                  go_wp2_with fail
                  refine wp_region_held_drew (S := (fun W => W.cell? ⟨g, 3, none⟩ = some (.int .i64 12) ∧ W.cell? ⟨g, 4, none⟩ = some (.int .u64 (ndW o)) ∧ W.cell? ⟨g, 5, none⟩ = some (.int .u64 255) ∧ W.heap[g5]? = some (.cells cs 43 (0, 0)) ∧ Below wr.heap.size wr W)) (by kernel_rfl) ?_ (fun hHeld => ?_)
                  · exact KC.out _ (Below.refl _ _).drew
                  refine wpAnyH_take (i := 0) (v := .agg cs) rfl (by kernel_rfl) (by kernel_rfl) (by kernel_rfl) (fun _ _ _ h => h) (Fl.yields_load49 (by rfl) _ rfl g5 rfl cs (fun _ h => h.2.2.2.1) ZC.out) (by assumption) ?_
                  try simp only [List.getElem_toArray, List.getElem_cons_zero, List.getElem_cons_succ, Act.put, List.setIfInBounds_toArray, List.set_cons_zero, List.set_cons_succ]
                  refine wpAnyH_take (i := 1) (v := ?_) rfl (by kernel_rfl) (by kernel_rfl) (by kernel_rfl) (fun _ _ _ h => h) (Or.inl ⟨by rfl, ?_⟩) (by assumption) ?_
                  rotate_left
                  · (intro w hSw; (try dsimp only at hSw); go_simp; try with_reducible rfl)
                  try simp only [List.getElem_toArray, List.getElem_cons_zero, List.getElem_cons_succ, Act.put, List.setIfInBounds_toArray, List.set_cons_zero, List.set_cons_succ]
                  refine wpAnyH_take (i := 2) (v := ?_) rfl (by kernel_rfl) (by kernel_rfl) (by kernel_rfl) (fun _ _ _ h => h) (Or.inl ⟨by rfl, ?_⟩) (by assumption) ?_
                  rotate_left
                  · (intro w hSw; (try dsimp only at hSw); go_simp; try with_reducible rfl)
                  try simp only [List.getElem_toArray, List.getElem_cons_zero, List.getElem_cons_succ, Act.put, List.setIfInBounds_toArray, List.set_cons_zero, List.set_cons_succ]
                  refine wpAnyH_take (i := 3) (v := ?_) rfl (by kernel_rfl) (by kernel_rfl) (by kernel_rfl) (fun _ _ _ h => h) (Or.inl ⟨by rfl, ?_⟩) (by assumption) ?_
                  rotate_left
                  · (intro w hSw; (try dsimp only at hSw); go_simp; try with_reducible rfl)
                  try simp only [List.getElem_toArray, List.getElem_cons_zero, List.getElem_cons_succ, Act.put, List.setIfInBounds_toArray, List.set_cons_zero, List.set_cons_succ]
                  refine wpAnyH_take (i := 4) (v := ?_) rfl (by kernel_rfl) (by kernel_rfl) (by kernel_rfl) (fun _ _ _ h => h) (Or.inl ⟨by rfl, ?_⟩) (by assumption) ?_
                  rotate_left
                  · (intro w hSw; (try dsimp only at hSw); go_simp; try with_reducible rfl)
                  try simp only [List.getElem_toArray, List.getElem_cons_zero, List.getElem_cons_succ, Act.put, List.setIfInBounds_toArray, List.set_cons_zero, List.set_cons_succ]
                  refine wpAnyH_take (i := 5) (v := ?_) rfl (by kernel_rfl) (by kernel_rfl) (by kernel_rfl) (fun _ _ _ h => h) (Or.inl ⟨by rfl, ?_⟩) (by assumption) ?_
                  rotate_left
                  · (intro w hSw; (try dsimp only at hSw); go_simp; try with_reducible rfl)
                  try simp only [List.getElem_toArray, List.getElem_cons_zero, List.getElem_cons_succ, Act.put, List.setIfInBounds_toArray, List.set_cons_zero, List.set_cons_succ]
                  refine wpAnyH_ready (rs := [6]) (by kernel_rfl) (by simp) ?_
                  refine AllReadyH.cons (o := _) rfl (fun K hK => ?_) AllReadyH.nil
                  go_simp
                  refine (G12T.out HII.out _).mono ?_
                  rintro e W6 ⟨rfl, hb6⟩
                  go_wp2_with fail
                  refine hK.out _ _ (KC.out _ (hHeld.2.2.2.2.trans (hb6.mono hHeld.2.2.2.2.size))) (fun hHeld2 => ?_)
                  clear hK K hb6 hHeld
                  try simp only [List.getElem_toArray, List.getElem_cons_zero, List.getElem_cons_succ, Act.put, List.setIfInBounds_toArray, List.set_cons_zero, List.set_cons_succ]
                  refine wpAnyH_take (i := 7) (v := ?_) rfl (by kernel_rfl) (by kernel_rfl) (by kernel_rfl) (fun _ _ _ h => h) (Or.inl ⟨by rfl, ?_⟩) (by assumption) ?_
                  rotate_left
                  · (intro w hSw; (try dsimp only at hSw); go_simp; try with_reducible rfl)
                  try simp only [List.getElem_toArray, List.getElem_cons_zero, List.getElem_cons_succ, Act.put, List.setIfInBounds_toArray, List.set_cons_zero, List.set_cons_succ]
                  refine wpAnyH_take (i := 8) (v := ?_) rfl (by kernel_rfl) (by kernel_rfl) (by kernel_rfl) (fun _ _ _ h => h) (Or.inl ⟨by rfl, ?_⟩) (by assumption) ?_
                  rotate_left
                  · (intro w hSw; (try dsimp only at hSw); go_simp; try with_reducible rfl)
                  try simp only [List.getElem_toArray, List.getElem_cons_zero, List.getElem_cons_succ, Act.put, List.setIfInBounds_toArray, List.set_cons_zero, List.set_cons_succ]
                  refine wpAnyH_take (i := 9) (v := ?_) rfl (by kernel_rfl) (by kernel_rfl) (by kernel_rfl) (fun _ _ _ h => h) (Or.inl ⟨by rfl, ?_⟩) (by assumption) ?_
                  rotate_left
                  · (intro w hSw; (try dsimp only at hSw); go_simp; try with_reducible rfl)
                  try simp only [List.getElem_toArray, List.getElem_cons_zero, List.getElem_cons_succ, Act.put, List.setIfInBounds_toArray, List.set_cons_zero, List.set_cons_succ]
                  refine wpAnyH_take (i := 10) (v := ?_) rfl (by kernel_rfl) (by kernel_rfl) (by kernel_rfl) (fun _ _ _ h => h) (Or.inl ⟨by rfl, ?_⟩) (by assumption) ?_
                  rotate_left
                  · (intro w hSw; (try dsimp only at hSw); go_simp; try with_reducible rfl)
                  try simp only [List.getElem_toArray, List.getElem_cons_zero, List.getElem_cons_succ, Act.put, List.setIfInBounds_toArray, List.set_cons_zero, List.set_cons_succ]
                  refine wpAnyH_take (i := 11) (v := ?_) rfl (by kernel_rfl) (by kernel_rfl) (by kernel_rfl) (fun _ _ _ h => h) (Or.inl ⟨by rfl, ?_⟩) (by assumption) ?_
                  rotate_left
                  · (intro w hSw; (try dsimp only at hSw); go_simp; try with_reducible rfl)
                  try simp only [List.getElem_toArray, List.getElem_cons_zero, List.getElem_cons_succ, Act.put, List.setIfInBounds_toArray, List.set_cons_zero, List.set_cons_succ]
                  refine wpAnyH_done (by kernel_rfl) ?_ _
                  obtain ⟨q0, q1, q2, q3, q4⟩ := hHeld2
                  have B_6 : Hid _ := q4
                  clear q0 q3 q4
                  go_wp2_with fail
                  go_quiet (fail)
                  go_wp2
                  go_roundw
                  case rel => exact ⟨2, by omega, by simp [ndk, HE.out, HII.out, HP.out], by first | rfl | go_num, Fl.below_drewN (B_u.out.trans (B_6.out.mono B_u.out.size)) _⟩
                  case measure => simp [intOf]; omega
                · have cm : (bits .and .u64 x.pr 255 == ndW o) = false := by rw [EQ1.out]; simp [hpr]
                  have HP : Hid (¬ x.pr = ndW o) := hpr
                  clear hpr
                  obtain ⟨c0, c1, c2⟩ := need1 o (by omega)
                  have KC : Hid (∀ W, Below wr.heap.size wr W → W.cell? ⟨g, 3, none⟩ = some (.int .i64 12) ∧ W.cell? ⟨g, 4, none⟩ = some (.int .u64 (ndW o)) ∧ W.cell? ⟨g, 5, none⟩ = some (.int .u64 255) ∧ W.heap[g5]? = some (.cells cs 43 (0, 0)) ∧ Below wr.heap.size wr W) := fun W hb => by
                    have e1 := (hb.block _ (Ca.lt_of_heap hg)).trans hg
                    have e2 := (hb.block _ (Ca.lt_of_heap C_u.out)).trans C_u.out
                    exact ⟨(Ca.cell_row e1 3).trans c0, (Ca.cell_row e1 4).trans c1, (Ca.cell_row e1 5).trans c2, e2, hb⟩
                  clear c0 c1 c2 hg
                  have hjI : (1 : Int) < (L : Int) := by omega
                  go_wp2_with fail
                  refine wp_region_held_drew (S := (fun W => W.cell? ⟨g, 3, none⟩ = some (.int .i64 12) ∧ W.cell? ⟨g, 4, none⟩ = some (.int .u64 (ndW o)) ∧ W.cell? ⟨g, 5, none⟩ = some (.int .u64 255) ∧ W.heap[g5]? = some (.cells cs 43 (0, 0)) ∧ Below wr.heap.size wr W)) (by kernel_rfl) ?_ (fun hHeld => ?_)
                  · exact KC.out _ (Below.refl _ _).drew
                  refine wpAnyH_take (i := 0) (v := .agg cs) rfl (by kernel_rfl) (by kernel_rfl) (by kernel_rfl) (fun _ _ _ h => h) (Fl.yields_load49 (by rfl) _ rfl g5 rfl cs (fun _ h => h.2.2.2.1) ZC.out) (by assumption) ?_
                  try simp only [List.getElem_toArray, List.getElem_cons_zero, List.getElem_cons_succ, Act.put, List.setIfInBounds_toArray, List.set_cons_zero, List.set_cons_succ]
                  refine wpAnyH_take (i := 1) (v := ?_) rfl (by kernel_rfl) (by kernel_rfl) (by kernel_rfl) (fun _ _ _ h => h) (Or.inl ⟨by rfl, ?_⟩) (by assumption) ?_
                  rotate_left
                  · (intro w hSw; (try dsimp only at hSw); go_simp; try with_reducible rfl)
                  try simp only [List.getElem_toArray, List.getElem_cons_zero, List.getElem_cons_succ, Act.put, List.setIfInBounds_toArray, List.set_cons_zero, List.set_cons_succ]
                  refine wpAnyH_take (i := 2) (v := ?_) rfl (by kernel_rfl) (by kernel_rfl) (by kernel_rfl) (fun _ _ _ h => h) (Or.inl ⟨by rfl, ?_⟩) (by assumption) ?_
                  rotate_left
                  · (intro w hSw; (try dsimp only at hSw); go_simp; try with_reducible rfl)
                  try simp only [List.getElem_toArray, List.getElem_cons_zero, List.getElem_cons_succ, Act.put, List.setIfInBounds_toArray, List.set_cons_zero, List.set_cons_succ]
                  refine wpAnyH_take (i := 3) (v := ?_) rfl (by kernel_rfl) (by kernel_rfl) (by kernel_rfl) (fun _ _ _ h => h) (Or.inl ⟨by rfl, ?_⟩) (by assumption) ?_
                  rotate_left
                  · (intro w hSw; (try dsimp only at hSw); go_simp; try with_reducible rfl)
                  try simp only [List.getElem_toArray, List.getElem_cons_zero, List.getElem_cons_succ, Act.put, List.setIfInBounds_toArray, List.set_cons_zero, List.set_cons_succ]
                  refine wpAnyH_take (i := 4) (v := ?_) rfl (by kernel_rfl) (by kernel_rfl) (by kernel_rfl) (fun _ _ _ h => h) (Or.inl ⟨by rfl, ?_⟩) (by assumption) ?_
                  rotate_left
                  · (intro w hSw; (try dsimp only at hSw); go_simp; try with_reducible rfl)
                  try simp only [List.getElem_toArray, List.getElem_cons_zero, List.getElem_cons_succ, Act.put, List.setIfInBounds_toArray, List.set_cons_zero, List.set_cons_succ]
                  refine wpAnyH_take (i := 5) (v := ?_) rfl (by kernel_rfl) (by kernel_rfl) (by kernel_rfl) (fun _ _ _ h => h) (Or.inl ⟨by rfl, ?_⟩) (by assumption) ?_
                  rotate_left
                  · (intro w hSw; (try dsimp only at hSw); go_simp; try with_reducible rfl)
                  try simp only [List.getElem_toArray, List.getElem_cons_zero, List.getElem_cons_succ, Act.put, List.setIfInBounds_toArray, List.set_cons_zero, List.set_cons_succ]
                  refine wpAnyH_ready (rs := [6]) (by kernel_rfl) (by simp) ?_
                  refine AllReadyH.cons (o := _) rfl (fun K hK => ?_) AllReadyH.nil
                  go_simp
                  refine (G12T.out HII.out _).mono ?_
                  rintro e W6 ⟨rfl, hb6⟩
                  go_wp2_with fail
                  refine hK.out _ _ (KC.out _ (hHeld.2.2.2.2.trans (hb6.mono hHeld.2.2.2.2.size))) (fun hHeld2 => ?_)
                  clear hK K hb6 hHeld
                  try simp only [List.getElem_toArray, List.getElem_cons_zero, List.getElem_cons_succ, Act.put, List.setIfInBounds_toArray, List.set_cons_zero, List.set_cons_succ]
                  refine wpAnyH_take (i := 7) (v := ?_) rfl (by kernel_rfl) (by kernel_rfl) (by kernel_rfl) (fun _ _ _ h => h) (Or.inl ⟨by rfl, ?_⟩) (by assumption) ?_
                  rotate_left
                  · (intro w hSw; (try dsimp only at hSw); go_simp; try with_reducible rfl)
                  try simp only [List.getElem_toArray, List.getElem_cons_zero, List.getElem_cons_succ, Act.put, List.setIfInBounds_toArray, List.set_cons_zero, List.set_cons_succ]
                  refine wpAnyH_take (i := 8) (v := ?_) rfl (by kernel_rfl) (by kernel_rfl) (by kernel_rfl) (fun _ _ _ h => h) (Or.inl ⟨by rfl, ?_⟩) (by assumption) ?_
                  rotate_left
                  · (intro w hSw; (try dsimp only at hSw); go_simp; try with_reducible rfl)
                  try simp only [List.getElem_toArray, List.getElem_cons_zero, List.getElem_cons_succ, Act.put, List.setIfInBounds_toArray, List.set_cons_zero, List.set_cons_succ]
                  refine wpAnyH_take (i := 9) (v := ?_) rfl (by kernel_rfl) (by kernel_rfl) (by kernel_rfl) (fun _ _ _ h => h) (Or.inl ⟨by rfl, ?_⟩) (by assumption) ?_
                  rotate_left
                  · (intro w hSw; (try dsimp only at hSw); go_simp; try with_reducible rfl)
                  try simp only [List.getElem_toArray, List.getElem_cons_zero, List.getElem_cons_succ, Act.put, List.setIfInBounds_toArray, List.set_cons_zero, List.set_cons_succ]
                  refine wpAnyH_take (i := 10) (v := ?_) rfl (by kernel_rfl) (by kernel_rfl) (by kernel_rfl) (fun _ _ _ h => h) (Or.inl ⟨by rfl, ?_⟩) (by assumption) ?_
                  rotate_left
                  · (intro w hSw; (try dsimp only at hSw); go_simp; try with_reducible rfl)
                  try simp only [List.getElem_toArray, List.getElem_cons_zero, List.getElem_cons_succ, Act.put, List.setIfInBounds_toArray, List.set_cons_zero, List.set_cons_succ]
                  refine wpAnyH_take (i := 11) (v := ?_) rfl (by kernel_rfl) (by kernel_rfl) (by kernel_rfl) (fun _ _ _ h => h) (Or.inl ⟨by rfl, ?_⟩) (by assumption) ?_
                  rotate_left
                  · (intro w hSw; (try dsimp only at hSw); go_simp; try with_reducible rfl)
                  try simp only [List.getElem_toArray, List.getElem_cons_zero, List.getElem_cons_succ, Act.put, List.setIfInBounds_toArray, List.set_cons_zero, List.set_cons_succ]
                  refine wpAnyH_done (by kernel_rfl) ?_ _
                  obtain ⟨q0, q1, q2, q3, q4⟩ := hHeld2
                  have B_6 : Hid _ := q4
                  clear q0 q3 q4
                  go_wp2_with fail
                  go_quiet (fail)
                  go_wp2
                  go_roundw
                  case rel => exact ⟨2, by omega, by simp [ndk, HE.out, HII.out, HP.out], by first | rfl | go_num, Fl.below_drewN (B_u.out.trans (B_6.out.mono B_u.out.size)) _⟩
                  case measure => simp [intOf]; omega
            · rw [show ndk x o 1 = false by simp [ndk, he]]
              have HE : Hid (¬ x.et = ndV o) := he
              clear he
              cases hii : x.ii
              · have HII : Hid (x.ii = false) := hii
                clear hii
                obtain ⟨c0, c1, c2⟩ := need1 o (by omega)
                have KC : Hid (∀ W, Below wr.heap.size wr W → W.cell? ⟨g, 3, none⟩ = some (.int .i64 12) ∧ W.cell? ⟨g, 4, none⟩ = some (.int .u64 (ndW o)) ∧ W.cell? ⟨g, 5, none⟩ = some (.int .u64 255) ∧ W.heap[g5]? = some (.cells cs 43 (0, 0)) ∧ Below wr.heap.size wr W) := fun W hb => by
                  have e1 := (hb.block _ (Ca.lt_of_heap hg)).trans hg
                  have e2 := (hb.block _ (Ca.lt_of_heap C_u.out)).trans C_u.out
                  exact ⟨(Ca.cell_row e1 3).trans c0, (Ca.cell_row e1 4).trans c1, (Ca.cell_row e1 5).trans c2, e2, hb⟩
                clear c0 c1 c2 hg
                have hjI : (1 : Int) < (L : Int) := by omega
                go_wp2_with fail
                refine wp_region_held_drew (S := (fun W => W.cell? ⟨g, 3, none⟩ = some (.int .i64 12) ∧ W.cell? ⟨g, 4, none⟩ = some (.int .u64 (ndW o)) ∧ W.cell? ⟨g, 5, none⟩ = some (.int .u64 255) ∧ W.heap[g5]? = some (.cells cs 43 (0, 0)) ∧ Below wr.heap.size wr W)) (by kernel_rfl) ?_ (fun hHeld => ?_)
                · exact KC.out _ (Below.refl _ _).drew
                refine wpAnyH_take (i := 0) (v := .agg cs) rfl (by kernel_rfl) (by kernel_rfl) (by kernel_rfl) (fun _ _ _ h => h) (Fl.yields_load49 (by rfl) _ rfl g5 rfl cs (fun _ h => h.2.2.2.1) ZC.out) (by assumption) ?_
                try simp only [List.getElem_toArray, List.getElem_cons_zero, List.getElem_cons_succ, Act.put, List.setIfInBounds_toArray, List.set_cons_zero, List.set_cons_succ]
                refine wpAnyH_take (i := 1) (v := ?_) rfl (by kernel_rfl) (by kernel_rfl) (by kernel_rfl) (fun _ _ _ h => h) (Or.inl ⟨by rfl, ?_⟩) (by assumption) ?_
                rotate_left
                · (intro w hSw; (try dsimp only at hSw); go_simp; try with_reducible rfl)
                try simp only [List.getElem_toArray, List.getElem_cons_zero, List.getElem_cons_succ, Act.put, List.setIfInBounds_toArray, List.set_cons_zero, List.set_cons_succ]
                refine wpAnyH_take (i := 2) (v := ?_) rfl (by kernel_rfl) (by kernel_rfl) (by kernel_rfl) (fun _ _ _ h => h) (Or.inl ⟨by rfl, ?_⟩) (by assumption) ?_
                rotate_left
                · (intro w hSw; (try dsimp only at hSw); go_simp; try with_reducible rfl)
                try simp only [List.getElem_toArray, List.getElem_cons_zero, List.getElem_cons_succ, Act.put, List.setIfInBounds_toArray, List.set_cons_zero, List.set_cons_succ]
                refine wpAnyH_take (i := 3) (v := ?_) rfl (by kernel_rfl) (by kernel_rfl) (by kernel_rfl) (fun _ _ _ h => h) (Or.inl ⟨by rfl, ?_⟩) (by assumption) ?_
                rotate_left
                · (intro w hSw; (try dsimp only at hSw); go_simp; try with_reducible rfl)
                try simp only [List.getElem_toArray, List.getElem_cons_zero, List.getElem_cons_succ, Act.put, List.setIfInBounds_toArray, List.set_cons_zero, List.set_cons_succ]
                refine wpAnyH_take (i := 4) (v := ?_) rfl (by kernel_rfl) (by kernel_rfl) (by kernel_rfl) (fun _ _ _ h => h) (Or.inl ⟨by rfl, ?_⟩) (by assumption) ?_
                rotate_left
                · (intro w hSw; (try dsimp only at hSw); go_simp; try with_reducible rfl)
                try simp only [List.getElem_toArray, List.getElem_cons_zero, List.getElem_cons_succ, Act.put, List.setIfInBounds_toArray, List.set_cons_zero, List.set_cons_succ]
                refine wpAnyH_take (i := 5) (v := ?_) rfl (by kernel_rfl) (by kernel_rfl) (by kernel_rfl) (fun _ _ _ h => h) (Or.inl ⟨by rfl, ?_⟩) (by assumption) ?_
                rotate_left
                · (intro w hSw; (try dsimp only at hSw); go_simp; try with_reducible rfl)
                try simp only [List.getElem_toArray, List.getElem_cons_zero, List.getElem_cons_succ, Act.put, List.setIfInBounds_toArray, List.set_cons_zero, List.set_cons_succ]
                refine wpAnyH_ready (rs := [6]) (by kernel_rfl) (by simp) ?_
                refine AllReadyH.cons (o := _) rfl (fun K hK => ?_) AllReadyH.nil
                go_simp
                refine (G12F.out HII.out _).mono ?_
                rintro e W6 ⟨rfl, hb6⟩
                go_wp2_with fail
                refine hK.out _ _ (KC.out _ (hHeld.2.2.2.2.trans (hb6.mono hHeld.2.2.2.2.size))) (fun hHeld2 => ?_)
                clear hK K hb6 hHeld
                try simp only [List.getElem_toArray, List.getElem_cons_zero, List.getElem_cons_succ, Act.put, List.setIfInBounds_toArray, List.set_cons_zero, List.set_cons_succ]
                refine wpAnyH_take (i := 7) (v := ?_) rfl (by kernel_rfl) (by kernel_rfl) (by kernel_rfl) (fun _ _ _ h => h) (Or.inl ⟨by rfl, ?_⟩) (by assumption) ?_
                rotate_left
                · (intro w hSw; (try dsimp only at hSw); go_simp; try with_reducible rfl)
                try simp only [List.getElem_toArray, List.getElem_cons_zero, List.getElem_cons_succ, Act.put, List.setIfInBounds_toArray, List.set_cons_zero, List.set_cons_succ]
                refine wpAnyH_take (i := 8) (v := ?_) rfl (by kernel_rfl) (by kernel_rfl) (by kernel_rfl) (fun _ _ _ h => h) (Or.inl ⟨by rfl, ?_⟩) (by assumption) ?_
                rotate_left
                · (intro w hSw; (try dsimp only at hSw); go_simp; try with_reducible rfl)
                try simp only [List.getElem_toArray, List.getElem_cons_zero, List.getElem_cons_succ, Act.put, List.setIfInBounds_toArray, List.set_cons_zero, List.set_cons_succ]
                refine wpAnyH_take (i := 9) (v := ?_) rfl (by kernel_rfl) (by kernel_rfl) (by kernel_rfl) (fun _ _ _ h => h) (Or.inl ⟨by rfl, ?_⟩) (by assumption) ?_
                rotate_left
                · (intro w hSw; (try dsimp only at hSw); go_simp; try with_reducible rfl)
                try simp only [List.getElem_toArray, List.getElem_cons_zero, List.getElem_cons_succ, Act.put, List.setIfInBounds_toArray, List.set_cons_zero, List.set_cons_succ]
                refine wpAnyH_take (i := 10) (v := ?_) rfl (by kernel_rfl) (by kernel_rfl) (by kernel_rfl) (fun _ _ _ h => h) (Or.inl ⟨by rfl, ?_⟩) (by assumption) ?_
                rotate_left
                · (intro w hSw; (try dsimp only at hSw); go_simp; try with_reducible rfl)
                try simp only [List.getElem_toArray, List.getElem_cons_zero, List.getElem_cons_succ, Act.put, List.setIfInBounds_toArray, List.set_cons_zero, List.set_cons_succ]
                refine wpAnyH_take (i := 11) (v := ?_) rfl (by kernel_rfl) (by kernel_rfl) (by kernel_rfl) (fun _ _ _ h => h) (Or.inl ⟨by rfl, ?_⟩) (by assumption) ?_
                rotate_left
                · (intro w hSw; (try dsimp only at hSw); go_simp; try with_reducible rfl)
                try simp only [List.getElem_toArray, List.getElem_cons_zero, List.getElem_cons_succ, Act.put, List.setIfInBounds_toArray, List.set_cons_zero, List.set_cons_succ]
                refine wpAnyH_done (by kernel_rfl) ?_ _
                obtain ⟨q0, q1, q2, q3, q4⟩ := hHeld2
                have B_6 : Hid _ := q4
                clear q0 q3 q4
                go_wp2_with fail
                go_quiet (fail)
                go_wp2
                go_roundw
                case rel => exact ⟨2, by omega, by simp [ndk, HE.out], by first | rfl | go_num, Fl.below_drewN (B_u.out.trans (B_6.out.mono B_u.out.size)) _⟩
                case measure => simp [intOf]; omega
              · have HII : Hid (x.ii = true) := hii
                clear hii
                obtain ⟨c0, c1, c2⟩ := need1 o (by omega)
                have KC : Hid (∀ W, Below wr.heap.size wr W → W.cell? ⟨g, 3, none⟩ = some (.int .i64 12) ∧ W.cell? ⟨g, 4, none⟩ = some (.int .u64 (ndW o)) ∧ W.cell? ⟨g, 5, none⟩ = some (.int .u64 255) ∧ W.heap[g5]? = some (.cells cs 43 (0, 0)) ∧ Below wr.heap.size wr W) := fun W hb => by
                  have e1 := (hb.block _ (Ca.lt_of_heap hg)).trans hg
                  have e2 := (hb.block _ (Ca.lt_of_heap C_u.out)).trans C_u.out
                  exact ⟨(Ca.cell_row e1 3).trans c0, (Ca.cell_row e1 4).trans c1, (Ca.cell_row e1 5).trans c2, e2, hb⟩
                clear c0 c1 c2 hg
                have hjI : (1 : Int) < (L : Int) := by omega
                go_wp2_with fail
                refine wp_region_held_drew (S := (fun W => W.cell? ⟨g, 3, none⟩ = some (.int .i64 12) ∧ W.cell? ⟨g, 4, none⟩ = some (.int .u64 (ndW o)) ∧ W.cell? ⟨g, 5, none⟩ = some (.int .u64 255) ∧ W.heap[g5]? = some (.cells cs 43 (0, 0)) ∧ Below wr.heap.size wr W)) (by kernel_rfl) ?_ (fun hHeld => ?_)
                · exact KC.out _ (Below.refl _ _).drew
                refine wpAnyH_take (i := 0) (v := .agg cs) rfl (by kernel_rfl) (by kernel_rfl) (by kernel_rfl) (fun _ _ _ h => h) (Fl.yields_load49 (by rfl) _ rfl g5 rfl cs (fun _ h => h.2.2.2.1) ZC.out) (by assumption) ?_
                try simp only [List.getElem_toArray, List.getElem_cons_zero, List.getElem_cons_succ, Act.put, List.setIfInBounds_toArray, List.set_cons_zero, List.set_cons_succ]
                refine wpAnyH_take (i := 1) (v := ?_) rfl (by kernel_rfl) (by kernel_rfl) (by kernel_rfl) (fun _ _ _ h => h) (Or.inl ⟨by rfl, ?_⟩) (by assumption) ?_
                rotate_left
                · (intro w hSw; (try dsimp only at hSw); go_simp; try with_reducible rfl)
                try simp only [List.getElem_toArray, List.getElem_cons_zero, List.getElem_cons_succ, Act.put, List.setIfInBounds_toArray, List.set_cons_zero, List.set_cons_succ]
                refine wpAnyH_take (i := 2) (v := ?_) rfl (by kernel_rfl) (by kernel_rfl) (by kernel_rfl) (fun _ _ _ h => h) (Or.inl ⟨by rfl, ?_⟩) (by assumption) ?_
                rotate_left
                · (intro w hSw; (try dsimp only at hSw); go_simp; try with_reducible rfl)
                try simp only [List.getElem_toArray, List.getElem_cons_zero, List.getElem_cons_succ, Act.put, List.setIfInBounds_toArray, List.set_cons_zero, List.set_cons_succ]
                refine wpAnyH_take (i := 3) (v := ?_) rfl (by kernel_rfl) (by kernel_rfl) (by kernel_rfl) (fun _ _ _ h => h) (Or.inl ⟨by rfl, ?_⟩) (by assumption) ?_
                rotate_left
                · (intro w hSw; (try dsimp only at hSw); go_simp; try with_reducible rfl)
                try simp only [List.getElem_toArray, List.getElem_cons_zero, List.getElem_cons_succ, Act.put, List.setIfInBounds_toArray, List.set_cons_zero, List.set_cons_succ]
                refine wpAnyH_take (i := 4) (v := ?_) rfl (by kernel_rfl) (by kernel_rfl) (by kernel_rfl) (fun _ _ _ h => h) (Or.inl ⟨by rfl, ?_⟩) (by assumption) ?_
                rotate_left
                · (intro w hSw; (try dsimp only at hSw); go_simp; try with_reducible rfl)
                try simp only [List.getElem_toArray, List.getElem_cons_zero, List.getElem_cons_succ, Act.put, List.setIfInBounds_toArray, List.set_cons_zero, List.set_cons_succ]
                refine wpAnyH_take (i := 5) (v := ?_) rfl (by kernel_rfl) (by kernel_rfl) (by kernel_rfl) (fun _ _ _ h => h) (Or.inl ⟨by rfl, ?_⟩) (by assumption) ?_
                rotate_left
                · (intro w hSw; (try dsimp only at hSw); go_simp; try with_reducible rfl)
                try simp only [List.getElem_toArray, List.getElem_cons_zero, List.getElem_cons_succ, Act.put, List.setIfInBounds_toArray, List.set_cons_zero, List.set_cons_succ]
                refine wpAnyH_ready (rs := [6]) (by kernel_rfl) (by simp) ?_
                refine AllReadyH.cons (o := _) rfl (fun K hK => ?_) AllReadyH.nil
                go_simp
                refine (G12T.out HII.out _).mono ?_
                rintro e W6 ⟨rfl, hb6⟩
                go_wp2_with fail
                refine hK.out _ _ (KC.out _ (hHeld.2.2.2.2.trans (hb6.mono hHeld.2.2.2.2.size))) (fun hHeld2 => ?_)
                clear hK K hb6 hHeld
                try simp only [List.getElem_toArray, List.getElem_cons_zero, List.getElem_cons_succ, Act.put, List.setIfInBounds_toArray, List.set_cons_zero, List.set_cons_succ]
                refine wpAnyH_take (i := 7) (v := ?_) rfl (by kernel_rfl) (by kernel_rfl) (by kernel_rfl) (fun _ _ _ h => h) (Or.inl ⟨by rfl, ?_⟩) (by assumption) ?_
                rotate_left
                · (intro w hSw; (try dsimp only at hSw); go_simp; try with_reducible rfl)
                try simp only [List.getElem_toArray, List.getElem_cons_zero, List.getElem_cons_succ, Act.put, List.setIfInBounds_toArray, List.set_cons_zero, List.set_cons_succ]
                refine wpAnyH_take (i := 8) (v := ?_) rfl (by kernel_rfl) (by kernel_rfl) (by kernel_rfl) (fun _ _ _ h => h) (Or.inl ⟨by rfl, ?_⟩) (by assumption) ?_
                rotate_left
                · (intro w hSw; (try dsimp only at hSw); go_simp; try with_reducible rfl)
                try simp only [List.getElem_toArray, List.getElem_cons_zero, List.getElem_cons_succ, Act.put, List.setIfInBounds_toArray, List.set_cons_zero, List.set_cons_succ]
                refine wpAnyH_take (i := 9) (v := ?_) rfl (by kernel_rfl) (by kernel_rfl) (by kernel_rfl) (fun _ _ _ h => h) (Or.inl ⟨by rfl, ?_⟩) (by assumption) ?_
                rotate_left
                · (intro w hSw; (try dsimp only at hSw); go_simp; try with_reducible rfl)
                try simp only [List.getElem_toArray, List.getElem_cons_zero, List.getElem_cons_succ, Act.put, List.setIfInBounds_toArray, List.set_cons_zero, List.set_cons_succ]
                refine wpAnyH_take (i := 10) (v := ?_) rfl (by kernel_rfl) (by kernel_rfl) (by kernel_rfl) (fun _ _ _ h => h) (Or.inl ⟨by rfl, ?_⟩) (by assumption) ?_
                rotate_left
                · (intro w hSw; (try dsimp only at hSw); go_simp; try with_reducible rfl)
                try simp only [List.getElem_toArray, List.getElem_cons_zero, List.getElem_cons_succ, Act.put, List.setIfInBounds_toArray, List.set_cons_zero, List.set_cons_succ]
                refine wpAnyH_take (i := 11) (v := ?_) rfl (by kernel_rfl) (by kernel_rfl) (by kernel_rfl) (fun _ _ _ h => h) (Or.inl ⟨by rfl, ?_⟩) (by assumption) ?_
                rotate_left
                · (intro w hSw; (try dsimp only at hSw); go_simp; try with_reducible rfl)
                try simp only [List.getElem_toArray, List.getElem_cons_zero, List.getElem_cons_succ, Act.put, List.setIfInBounds_toArray, List.set_cons_zero, List.set_cons_succ]
                refine wpAnyH_done (by kernel_rfl) ?_ _
                obtain ⟨q0, q1, q2, q3, q4⟩ := hHeld2
                have B_6 : Hid _ := q4
                clear q0 q3 q4
                go_wp2_with fail
                go_quiet (fail)
                go_wp2
                go_roundw
                case rel => exact ⟨2, by omega, by simp [ndk, HE.out], by first | rfl | go_num, Fl.below_drewN (B_u.out.trans (B_6.out.mono B_u.out.size)) _⟩
                case measure => simp [intOf]; omega
        · obtain rfl : j = L := by omega
          have hnd : nd x o = ndk x o j := by unfold nd; rw [HL.out]
          obtain ⟨OK1, OK2⟩ := OKH.out
          rw [hnd] at OK1 OK2
          clear hnd
          cases hN : ndk x o j
          · rw [hN] at OK1 OK2
            cases hH : Fl.ofB o x.ia x.ii x.l.k
            · clear OK1 OK2
              go_wp2_with (first
                | ((with_reducible (refine isLd 43 _ rfl ?_)); refine wpList_load_row rfl 43 _ rfl g5 rfl 43 cs (0, 0) _ C_u.out Tryd.underlying43 rfl (Fl.info_size ZC.out) ?_)
                | fail)
              refine (HKH.out _).mono ?_
              rw [hH]
              rintro e V2 ⟨rfl, hb⟩
              have B_V2 : Hid (Below V1.heap.size V1 V2) := B_u.out.trans (hb.mono B_u.out.size)
              have A_V2 : Hid (V2.heap[g3]? = some (.cells q 34 (0, 0))) := (hb.block _ (Ca.lt_of_heap A_u.out)).trans A_u.out
              have C_V2 : Hid (V2.heap[g5]? = some (.cells cs 43 (0, 0))) := (hb.block _ (Ca.lt_of_heap C_u.out)).trans C_u.out
              clear hb
              go_wp2
              go_roundw
              case rel => exact ⟨k + 1, by omega, by omega, by first | rfl | go_num, B_1.out.trans (B_V2.out.mono B_1.out.size)⟩
              case measure => simp [intOf] <;> omega
            · exact absurd (OK1 hH) (by decide)
          · rw [hN] at OK1 OK2
            cases hH : Fl.ofB o x.ia x.ii x.l.k
            · have OK3 := OK2 rfl hH
              clear OK1 OK2
              by_cases k18 : k = 18
              · subst k18
                clear OK3
                go_wp2_with (first
                  | ((with_reducible (refine isLd 43 _ rfl ?_)); refine wpList_load_row rfl 43 _ rfl g5 rfl 43 cs (0, 0) _ C_u.out Tryd.underlying43 rfl (Fl.info_size ZC.out) ?_)
                  | fail)
                refine (HKH.out _).mono ?_
                rw [hH]
                rintro e V2 ⟨rfl, hb⟩
                have B_V2 : Hid (Below V1.heap.size V1 V2) := B_u.out.trans (hb.mono B_u.out.size)
                have A_V2 : Hid (V2.heap[g3]? = some (.cells q 34 (0, 0))) := (hb.block _ (Ca.lt_of_heap A_u.out)).trans A_u.out
                have C_V2 : Hid (V2.heap[g5]? = some (.cells cs 43 (0, 0))) := (hb.block _ (Ca.lt_of_heap C_u.out)).trans C_u.out
                clear hb
                go_wp2_with (first
                  | ((with_reducible (refine isLd 43 _ rfl ?_)); refine Ca.wpList_load_want (by rfl) 43 _ rfl g5 rfl 43 cs (0, 0) _ C_V2.out Tryd.underlying43 rfl (Fl.info_size ZC.out) ?_)
                  | fail)
                refine (HKH.out _).mono ?_
                rw [hH]
                rintro e V3 ⟨rfl, hb⟩
                have B_V3 : Hid (Below V1.heap.size V1 V3) := B_V2.out.trans (hb.mono B_V2.out.size)
                have A_V3 : Hid (V3.heap[g3]? = some (.cells q 34 (0, 0))) := (hb.block _ (Ca.lt_of_heap A_V2.out)).trans A_V2.out
                have C_V3 : Hid (V3.heap[g5]? = some (.cells cs 43 (0, 0))) := (hb.block _ (Ca.lt_of_heap C_V2.out)).trans C_V2.out
                clear hb
                go_wp2
                go_roundw
                case rel => exact ⟨18 + 1, by omega, by omega, by first | rfl | go_num, B_1.out.trans (B_V3.out.mono B_1.out.size)⟩
                case measure => simp [intOf] <;> omega
              by_cases k19 : k = 19
              · subst k19
                clear OK3 k18
                go_wp2_with (first
                  | ((with_reducible (refine isLd 43 _ rfl ?_)); refine wpList_load_row rfl 43 _ rfl g5 rfl 43 cs (0, 0) _ C_u.out Tryd.underlying43 rfl (Fl.info_size ZC.out) ?_)
                  | fail)
                refine (HKH.out _).mono ?_
                rw [hH]
                rintro e V2 ⟨rfl, hb⟩
                have B_V2 : Hid (Below V1.heap.size V1 V2) := B_u.out.trans (hb.mono B_u.out.size)
                have A_V2 : Hid (V2.heap[g3]? = some (.cells q 34 (0, 0))) := (hb.block _ (Ca.lt_of_heap A_u.out)).trans A_u.out
                have C_V2 : Hid (V2.heap[g5]? = some (.cells cs 43 (0, 0))) := (hb.block _ (Ca.lt_of_heap C_u.out)).trans C_u.out
                clear hb
                go_wp2_with (first
                  | ((with_reducible (refine isLd 43 _ rfl ?_)); refine Ca.wpList_load_want (by rfl) 43 _ rfl g5 rfl 43 cs (0, 0) _ C_V2.out Tryd.underlying43 rfl (Fl.info_size ZC.out) ?_)
                  | fail)
                refine (HKH.out _).mono ?_
                rw [hH]
                rintro e V3 ⟨rfl, hb⟩
                have B_V3 : Hid (Below V1.heap.size V1 V3) := B_V2.out.trans (hb.mono B_V2.out.size)
                have A_V3 : Hid (V3.heap[g3]? = some (.cells q 34 (0, 0))) := (hb.block _ (Ca.lt_of_heap A_V2.out)).trans A_V2.out
                have C_V3 : Hid (V3.heap[g5]? = some (.cells cs 43 (0, 0))) := (hb.block _ (Ca.lt_of_heap C_V2.out)).trans C_V2.out
                clear hb
                go_wp2
                go_roundw
                case rel => exact ⟨19 + 1, by omega, by omega, by first | rfl | go_num, B_1.out.trans (B_V3.out.mono B_1.out.size)⟩
                case measure => simp [intOf] <;> omega
              have hwf : wholeB x.fr = false := OK3.resolve_left (by omega)
              have c18 : ((k : Int) != 18) = true := by simp; omega
              have c19 : ((k : Int) != 19) = true := by simp; omega
              have cfr : (bits .and .i64 x.fr 16383 == 0) = false := hwf
              clear OK3 hwf k18 k19
              go_wp2_with (first
                | ((with_reducible (refine isLd 43 _ rfl ?_)); refine wpList_load_row rfl 43 _ rfl g5 rfl 43 cs (0, 0) _ C_u.out Tryd.underlying43 rfl (Fl.info_size ZC.out) ?_)
                | fail)
              refine (HKH.out _).mono ?_
              rw [hH]
              rintro e V2 ⟨rfl, hb⟩
              have B_V2 : Hid (Below V1.heap.size V1 V2) := B_u.out.trans (hb.mono B_u.out.size)
              have A_V2 : Hid (V2.heap[g3]? = some (.cells q 34 (0, 0))) := (hb.block _ (Ca.lt_of_heap A_u.out)).trans A_u.out
              have C_V2 : Hid (V2.heap[g5]? = some (.cells cs 43 (0, 0))) := (hb.block _ (Ca.lt_of_heap C_u.out)).trans C_u.out
              clear hb
              go_wp2_with (first
                | ((with_reducible (refine isLd 43 _ rfl ?_)); refine Ca.wpList_load_want (by rfl) 43 _ rfl g5 rfl 43 cs (0, 0) _ C_V2.out Tryd.underlying43 rfl (Fl.info_size ZC.out) ?_)
                | fail)
              refine (HKH.out _).mono ?_
              rw [hH]
              rintro e V3 ⟨rfl, hb⟩
              have B_V3 : Hid (Below V1.heap.size V1 V3) := B_V2.out.trans (hb.mono B_V2.out.size)
              have A_V3 : Hid (V3.heap[g3]? = some (.cells q 34 (0, 0))) := (hb.block _ (Ca.lt_of_heap A_V2.out)).trans A_V2.out
              have C_V3 : Hid (V3.heap[g5]? = some (.cells cs 43 (0, 0))) := (hb.block _ (Ca.lt_of_heap C_V2.out)).trans C_V2.out
              clear hb
              have c14 := (Ca.cell_row A_V3.out 14).trans FRQ.out
              go_wp2
              go_roundw
              case rel => exact ⟨k + 1, by omega, by omega, by first | rfl | go_num, B_1.out.trans (B_V3.out.mono B_1.out.size)⟩
              case measure => simp [intOf] <;> omega
            · clear OK1 OK2
              go_wp2_with (first
                | ((with_reducible (refine isLd 43 _ rfl ?_)); refine wpList_load_row rfl 43 _ rfl g5 rfl 43 cs (0, 0) _ C_u.out Tryd.underlying43 rfl (Fl.info_size ZC.out) ?_)
                | fail)
              refine (HKH.out _).mono ?_
              rw [hH]
              rintro e V2 ⟨rfl, hb⟩
              have B_V2 : Hid (Below V1.heap.size V1 V2) := B_u.out.trans (hb.mono B_u.out.size)
              have A_V2 : Hid (V2.heap[g3]? = some (.cells q 34 (0, 0))) := (hb.block _ (Ca.lt_of_heap A_u.out)).trans A_u.out
              have C_V2 : Hid (V2.heap[g5]? = some (.cells cs 43 (0, 0))) := (hb.block _ (Ca.lt_of_heap C_u.out)).trans C_u.out
              clear hb
              go_wp2_with (first
                | ((with_reducible (refine isLd 43 _ rfl ?_)); refine Ca.wpList_load_want (by rfl) 43 _ rfl g5 rfl 43 cs (0, 0) _ C_V2.out Tryd.underlying43 rfl (Fl.info_size ZC.out) ?_)
                | fail)
              refine (HKH.out _).mono ?_
              rw [hH]
              rintro e V3 ⟨rfl, hb⟩
              have B_V3 : Hid (Below V1.heap.size V1 V3) := B_V2.out.trans (hb.mono B_V2.out.size)
              have A_V3 : Hid (V3.heap[g3]? = some (.cells q 34 (0, 0))) := (hb.block _ (Ca.lt_of_heap A_V2.out)).trans A_V2.out
              have C_V3 : Hid (V3.heap[g5]? = some (.cells cs 43 (0, 0))) := (hb.block _ (Ca.lt_of_heap C_V2.out)).trans C_V2.out
              clear hb
              go_wp2
              go_roundw
              case rel => exact ⟨k + 1, by omega, by omega, by first | rfl | go_num, B_1.out.trans (B_V3.out.mono B_1.out.size)⟩
              case measure => simp [intOf] <;> omega
    · obtain rfl : k = 29 := by omega
      go_wp2
      go_ret
      exact ⟨rfl, B_4.out.trans (B_k.out.mono B_4.out.size)⟩
theorem needs_law (w : World) (a : Option Addr) (n cap : Nat) (zs : List Int) (h : BS w a n zs) (hcap : n ≤ cap) (hm : cap ≤ 9223372036854775807) :
    Calls Tryd.prog 3 #[.slice a n cap] w fun e w' => e = .returned (.bool true) ∧ Below w.heap.size w w' := by
  obtain ⟨x, f, hp⟩ : ∃ x f, parseR zs = (x, f) := ⟨_, _, rfl⟩
  by_cases hf : f = 0
  · subst hf
    exact needs_yes w a n cap zs h hcap hm x hp
  · obtain rfl := parse_zero zs x f hf hp
    exact needs_no w a n cap zs h hcap hm f (by simpa using hf) hp
end Go.Proofs.YthodjgaaojmihaaDoor
