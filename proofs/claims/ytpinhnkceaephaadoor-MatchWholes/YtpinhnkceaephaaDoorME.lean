/- join of package match. Conditions: the terms can be read; two lists are at most a hundred terms together. -/
import Derived.Test.YtpinhnkceaephaaDoorMD
import Derived.Deep.DeepMust
namespace Go.Proofs.YtpinhnkceaephaaDoor
open Go.RowKit

set_option linter.unusedSimpArgs false in
set_option maxHeartbeats 2000000 in
set_option maxRecDepth 20000 in
theorem join_any (va vb : Value) (la lb : List Tm) (w : World) (ha : TV w va la) (hb : TV w vb lb) (hlen : la.length + lb.length ≤ 100) :
    Calls Tryd.prog 20 #[va, vb] w fun e w' => JoinR w la lb e w' := by
  obtain ⟨a0, n0, c0, rfl, hc0, hta⟩ := ha
  obtain ⟨b0, m0, d0, rfl, hd0, htb⟩ := hb
  have hlla := hta.len
  have hlb := htb.len
  have HTA : Hid _ := hta
  have HTB : Hid _ := htb
  clear hta htb
  go_enter Tryd.func20, Tryd.ntmps20
  go_wp2_with fail
  refine scope_jumps 0 (JoinAt w la lb) jMu rfl ?_ ?_
  · intro a' wr hA
    refine hA.elim ?_
    clear hA
    intro a1 n1 c1 ra b1 n2 c2 rb v acc u2 u3 u7 u8 u9 u10 u11 u12 u13 u14 u15 u16 u17 u18 u19 u20 u21 u22 u23 u24 u25 u26 u27 u28 u29 u30 u31 u32 u33 u34 u35 u36 u37 u38 u39 u40 u41 u42 u43 u44 u45 u46 u47 u48 u49 u50 u51 u52 u53 u54 u55 u56 u57 u58 u59 u60 u61 u62 u63 u64 u65 u66 u67 u68 u69 u70 u71 u72 u73 u74 u75 u76 u77 u78 u79 u80 u81 u82 u83 u84 u85 u86 u87 u88 u89 u90 u91 u92 u93 u94 u95 ha' h1 hc1 h2 hc2 hown hbl hsz hJ
    subst ha'
    have HOWN : Hid (wr.ownsRow w.heap.size 55 3 v acc.length (rowT acc)) := hown
    have HBL : Hid _ := hbl
    have H1 : Hid _ := h1.below hbl
    have H2 : Hid _ := h2.below hbl
    have G1 : Hid _ := h1
    have G2 : Hid _ := h2
    have l1 := h1.len
    have l2 := h2.len
    have hws := hbl.size
    clear hown hbl h1 h2
    cases ra with
    | nil =>
      simp at l1
      subst l1
      have HR : Hid _ := jn_done hJ.out (jn_nil rb)
      clear hJ
      go_wp2_with (at_builtin; go_must (refine wpList_append_ts (by rfl) _ _ rfl rfl w.heap.size v acc rfl HOWN.out b1 n2 c2 rb rfl H2.out (by omega) hws ?_))
      intro a' cap' w2 ho2 hg2
      go_wp2
      simp only [Exit.jump]
      go_ret2
      exact ⟨_, by rw [HR.out]; rfl, by rw [HR.out]; exact tv_of ho2 (by simp; omega) (by simp [l2]), grown_below HBL.out HOWN.out hg2⟩
    | cons x r =>
      obtain ⟨b, off, rfl, x0, x1, x2, hbx, hr⟩ := H1.out.head
      have HR0 : Hid (TS w (some ⟨b, off + 3, none⟩) (n1 - 1) r) := by
        obtain ⟨_, _, e_, _, _, _, _, hr0⟩ := G1.out.head
        cases e_
        exact hr0
      simp at l1
      have e1 : ((n1 : Int) == 0) = false := by simp; omega
      have i1 : (0 : Int) < (n1 : Int) := by omega
      have i1n : 0 < n1 := by omega
      cases rb with
      | nil =>
        simp at l2
        subst l2
        have HR : Hid _ := jn_done hJ.out (jn_nil2 (x :: r))
        clear hJ
        go_wp2_with (at_builtin; go_must (refine wpList_append_ts (by rfl) _ _ rfl rfl w.heap.size v acc rfl HOWN.out _ n1 c1 (x :: r) rfl H1.out (by omega) hws ?_))
        intro a' cap' w2 ho2 hg2
        go_wp2
        simp only [Exit.jump]
        go_ret2
        exact ⟨_, by rw [HR.out]; rfl, by rw [HR.out]; exact tv_of ho2 (by simp; omega) (by simp; omega), grown_below HBL.out HOWN.out hg2⟩
      | cons y s =>
        obtain ⟨g, oy, rfl, y0, y1, y2, hgy, hs⟩ := H2.out.head
        have HS0 : Hid (TS w (some ⟨g, oy + 3, none⟩) (n2 - 1) s) := by
          obtain ⟨_, _, e_, _, _, _, _, hs0⟩ := G2.out.head
          cases e_
          exact hs0
        simp at l2
        have e2 : ((n2 : Int) == 0) = false := by simp; omega
        have i2 : (0 : Int) < (n2 : Int) := by omega
        have i2n : 0 < n2 := by omega
        obtain ⟨ta, hta, hta'⟩ := slice_tail (b := b) (off := off) (n := n1) (cap := c1) (by omega) hc1
        obtain ⟨tb, htb, htb'⟩ := slice_tail (b := g) (off := oy) (n := n2) (cap := c2) (by omega) hc2
        have HTa : Hid _ := hta'
        have HTb : Hid _ := htb'
        clear hta' htb' H1 H2 hr hs
        rcases Int.lt_trichotomy x.f y.f with hlt | heq | hgt
        · have HJ : Hid _ := jn_stepL hJ.out hlt
          clear hJ
          have f1 : ¬ y.f ≤ x.f := by omega
          go_wp2_with fail
          go_quiet (fail)
          go_wp2_with (at_builtin; go_must (refine wpList_append_ts (by rfl) (.tmp 31) (.tmp 35) rfl rfl w.heap.size v acc rfl ((own_drewN HOWN.out _).alloc _) (some ⟨wr.heap.size, 0, none⟩) 1 1 [x] rfl (ts_one _ x) (by omega) (by simp; omega) ?_))
          intro a' cap' w2 ho2 hg2
          have HO2 : Hid (w2.ownsRow w.heap.size 55 3 (.slice a' (acc.length + 1) cap') (acc ++ [x]).length (rowT (acc ++ [x]))) := by
            show w2.ownsRow w.heap.size 55 3 (.slice a' (acc.length + 1) cap') (acc ++ [x]).length (rowT (acc ++ [x]))
            first | exact ho2 | (rw [List.length_append]; exact ho2)
          have HB2 : Hid (Below w.heap.size w w2) := grown_below ((below_drewN HBL.out _).alloc (by simp; omega) _) ((own_drewN HOWN.out _).alloc _) hg2
          clear ho2 hg2 x0 x1 x2 y0 y1 y2
          go_wp2_with fail
          go_step3
          refine ⟨rfl, ⟨ta, n1 - 1, c1 - 1, r, some ⟨g, oy, none⟩, n2, c2, y :: s, _, acc ++ [x], _, _, _, _, _, _, _, _, _, _, _, _, _, _, _, _, _, _, _, _, _, _, _, _, _, _, _, _, _, _, _, _, _, _, _, _, _, _, _, _, _, _, _, _, _, _, _, _, _, _, _, _, _, _, _, _, _, _, _, _, _, _, _, _, _, _, _, _, _, _, _, _, _, _, _, _, _, _, _, _, _, _, _, _, _, _, _, _, _, _, _, rfl, HR0.out.tail HTa.out, by omega, G2.out, hc2, HO2.out, HB2.out, by simp; omega, HJ⟩, ?_⟩
          simp [jMu, sLen]; omega
        · have f1 : ¬ x.f < y.f := by omega
          have f2 : ¬ y.f < x.f := by omega
          cases hc : cfl x y
          · have HJ : Hid _ := jn_stepE hJ.out heq hc
            clear hJ
            clear heq
            have HAG : Hid (∀ W : World, Calls Tryd.prog 30 #[.agg #[.int .i64 x.f, .int .u64 (x.v.toNat : Int), .int .u64 (x.m.toNat : Int)], .agg #[.int .i64 y.f, .int .u64 (y.v.toNat : Int), .int .u64 (y.m.toNat : Int)]] W fun e w' => e = .returned (.bool true) ∧ Below W.heap.size W w') := fun W => by
              have := agree_any x y W
              rw [hc] at this
              exact this
            clear hc
            have KC : Hid (∀ W, Below w.heap.size w W → W.cell? ⟨b, off, none⟩ = some (.int .i64 x.f) ∧ W.cell? ⟨b, off + 1, none⟩ = some (.int .u64 (x.v.toNat : Int)) ∧ W.cell? ⟨b, off + 2, none⟩ = some (.int .u64 (x.m.toNat : Int)) ∧ W.cell? ⟨g, oy, none⟩ = some (.int .i64 y.f) ∧ W.cell? ⟨g, oy + 1, none⟩ = some (.int .u64 (y.v.toNat : Int)) ∧ W.cell? ⟨g, oy + 2, none⟩ = some (.int .u64 (y.m.toNat : Int)) ∧ Below w.heap.size w W) := fun W hb => by
              obtain ⟨_, _, e_, p0, p1, p2, _⟩ := (G1.out.below hb).head
              cases e_
              obtain ⟨_, _, e_, q0, q1, q2, _⟩ := (G2.out.below hb).head
              cases e_
              exact ⟨p0, p1, p2, q0, q1, q2, hb⟩
            go_wp2_with fail
            go_quiet (fail)
            go_wp2_with fail
            go_quiet (fail)
            go_wp2_with fail
            refine wp_region_held_drew (S := (fun W => W.cell? ⟨b, off, none⟩ = some (.int .i64 x.f) ∧ W.cell? ⟨b, off + 1, none⟩ = some (.int .u64 (x.v.toNat : Int)) ∧ W.cell? ⟨b, off + 2, none⟩ = some (.int .u64 (x.m.toNat : Int)) ∧ W.cell? ⟨g, oy, none⟩ = some (.int .i64 y.f) ∧ W.cell? ⟨g, oy + 1, none⟩ = some (.int .u64 (y.v.toNat : Int)) ∧ W.cell? ⟨g, oy + 2, none⟩ = some (.int .u64 (y.m.toNat : Int)) ∧ Below w.heap.size w W)) (by kernel_rfl) ?_ (fun hHeld => ?_)
            · exact KC.out _ (below_drewN (below_drewN HBL.out _) _).drew
            refine wpAnyH_take (i := 0) (v := ?_) rfl (by kernel_rfl) (by kernel_rfl) (by kernel_rfl) (fun _ _ _ h => h) (Or.inl ⟨by rfl, ?_⟩) (by assumption) ?_
            rotate_left
            · (intro w hSw; (try dsimp only at hSw); go_simp; try with_reducible rfl)
            try simp only [List.getElem_toArray, List.getElem_cons_zero, List.getElem_cons_succ, Act.put, List.setIfInBounds_toArray, List.set_cons_zero, List.set_cons_succ]
            refine wpAnyH_take (i := 1) (v := ?_) rfl (by kernel_rfl) (by kernel_rfl) (by kernel_rfl) (fun _ _ _ h => h) (Or.inl ⟨by rfl, ?_⟩) (by assumption) ?_
            rotate_left
            · (intro w hSw; (try dsimp only at hSw); go_simp; try with_reducible rfl)
            try simp only [List.getElem_toArray, List.getElem_cons_zero, List.getElem_cons_succ, Act.put, List.setIfInBounds_toArray, List.set_cons_zero, List.set_cons_succ]
            refine wpAnyH_take (i := 2) (v := ?_) rfl (by kernel_rfl) (by kernel_rfl) (by kernel_rfl) (fun _ _ _ h => h) (Or.inl ⟨by rfl, ?_⟩) (by assumption) ?_
            rotate_left
            · (intro w hSw; (try dsimp only at hSw); go_simp; try with_reducible rfl)
            try simp only [List.getElem_toArray, List.getElem_cons_zero, List.getElem_cons_succ, Act.put, List.setIfInBounds_toArray, List.set_cons_zero, List.set_cons_succ]
            refine wpAnyH_take (i := 3) (v := ?_) rfl (by kernel_rfl) (by kernel_rfl) (by kernel_rfl) (fun _ _ _ h => h) (Or.inl ⟨by rfl, ?_⟩) (by assumption) ?_
            rotate_left
            · (intro w hSw; (try dsimp only at hSw); go_simp; try with_reducible rfl)
            try simp only [List.getElem_toArray, List.getElem_cons_zero, List.getElem_cons_succ, Act.put, List.setIfInBounds_toArray, List.set_cons_zero, List.set_cons_succ]
            refine wpAnyH_take (i := 4) (v := ?_) rfl (by kernel_rfl) (by kernel_rfl) (by kernel_rfl) (fun _ _ _ h => h) (Or.inl ⟨by rfl, ?_⟩) (by assumption) ?_
            rotate_left
            · (intro w hSw; (try dsimp only at hSw); go_simp; try with_reducible rfl)
            try simp only [List.getElem_toArray, List.getElem_cons_zero, List.getElem_cons_succ, Act.put, List.setIfInBounds_toArray, List.set_cons_zero, List.set_cons_succ]
            refine wpAnyH_take (i := 5) (v := ?_) rfl (by kernel_rfl) (by kernel_rfl) (by kernel_rfl) (fun _ _ _ h => h) (Or.inl ⟨by rfl, ?_⟩) (by assumption) ?_
            rotate_left
            · (intro w hSw; (try dsimp only at hSw); go_simp; try with_reducible rfl)
            try simp only [List.getElem_toArray, List.getElem_cons_zero, List.getElem_cons_succ, Act.put, List.setIfInBounds_toArray, List.set_cons_zero, List.set_cons_succ]
            refine wpAnyH_ready (rs := [6]) (by kernel_rfl) (by simp) ?_
            refine AllReadyH.cons (o := _) rfl (fun K hK => ?_) AllReadyH.nil
            go_simp
            refine (HAG.out _).mono ?_
            rintro e W4 ⟨rfl, hb4⟩
            have HW4 : Hid (Below w.heap.size w W4) := (below_drewN HBL.out _).trans (hb4.mono HBL.out.size)
            have HO4 : Hid (W4.ownsRow w.heap.size 55 3 v acc.length (rowT acc)) := own_below2 HOWN.out hb4 rfl
            go_wp2_with fail
            refine hK.out _ _ (KC.out _ HW4.out) (fun hHeld2 => ?_)
            clear hK K hb4
            try simp only [List.getElem_toArray, List.getElem_cons_zero, List.getElem_cons_succ, Act.put, List.setIfInBounds_toArray, List.set_cons_zero, List.set_cons_succ]
            clear hHeld
            refine wpAnyH_take (i := 7) (v := ?_) rfl (by kernel_rfl) (by kernel_rfl) (by kernel_rfl) (fun _ _ _ h => h) (Or.inl ⟨by rfl, ?_⟩) (by assumption) ?_
            rotate_left
            · (intro w hSw; (try dsimp only at hSw); go_simp; try with_reducible rfl)
            try simp only [List.getElem_toArray, List.getElem_cons_zero, List.getElem_cons_succ, Act.put, List.setIfInBounds_toArray, List.set_cons_zero, List.set_cons_succ]
            refine wpAnyH_take (i := 8) (v := ?_) rfl (by kernel_rfl) (by kernel_rfl) (by kernel_rfl) (fun _ _ _ h => h) (Or.inl ⟨by rfl, ?_⟩) (by assumption) ?_
            rotate_left
            · (intro w hSw; (try dsimp only at hSw); go_simp; try with_reducible rfl)
            try simp only [List.getElem_toArray, List.getElem_cons_zero, List.getElem_cons_succ, Act.put, List.setIfInBounds_toArray, List.set_cons_zero, List.set_cons_succ]
            refine wpAnyH_done (by kernel_rfl) ?_ _
            go_wp2_with fail
            clear hHeld2
            obtain ⟨ov, hov⟩ : ∃ ov : BitVec 64, ov = x.v ||| y.v := ⟨_, rfl⟩
            obtain ⟨om, hom⟩ : ∃ om : BitVec 64, om = x.m ||| y.m := ⟨_, rfl⟩
            have qv : bits BinOp.or IntKind.u64 (x.v.toNat : Int) (y.v.toNat : Int) = (ov.toNat : Int) := by rw [bits_or, bv_nat, bv_nat, hov]
            have qm : bits BinOp.or IntKind.u64 (x.m.toNat : Int) (y.m.toNat : Int) = (om.toNat : Int) := by rw [bits_or, bv_nat, bv_nat, hom]
            rw [← hov, ← hom] at HJ
            have hw4 := HW4.out.size
            clear hov hom x0 x1 x2 y0 y1 y2
            refine wp_region_held_drew (S := (fun W => W.cell? ⟨b, off, none⟩ = some (.int .i64 x.f) ∧ W.cell? ⟨b, off + 1, none⟩ = some (.int .u64 (x.v.toNat : Int)) ∧ W.cell? ⟨b, off + 2, none⟩ = some (.int .u64 (x.m.toNat : Int)) ∧ W.cell? ⟨g, oy, none⟩ = some (.int .i64 y.f) ∧ W.cell? ⟨g, oy + 1, none⟩ = some (.int .u64 (y.v.toNat : Int)) ∧ W.cell? ⟨g, oy + 2, none⟩ = some (.int .u64 (y.m.toNat : Int)) ∧ Below w.heap.size w W)) (by kernel_rfl) ?_ (fun hHeld => ?_)
            · exact KC.out _ HW4.out.drew
            refine wpAnyH_take (i := 0) (v := ?_) rfl (by kernel_rfl) (by kernel_rfl) (by kernel_rfl) (fun _ _ _ h => h) (Or.inl ⟨by rfl, ?_⟩) (by assumption) ?_
            rotate_left
            · (intro w hSw; (try dsimp only at hSw); go_simp; try with_reducible rfl)
            try simp only [List.getElem_toArray, List.getElem_cons_zero, List.getElem_cons_succ, Act.put, List.setIfInBounds_toArray, List.set_cons_zero, List.set_cons_succ]
            refine wpAnyH_take (i := 1) (v := ?_) rfl (by kernel_rfl) (by kernel_rfl) (by kernel_rfl) (fun _ _ _ h => h) (Or.inl ⟨by rfl, ?_⟩) (by assumption) ?_
            rotate_left
            · (intro w hSw; (try dsimp only at hSw); go_simp; try with_reducible rfl)
            try simp only [List.getElem_toArray, List.getElem_cons_zero, List.getElem_cons_succ, Act.put, List.setIfInBounds_toArray, List.set_cons_zero, List.set_cons_succ]
            refine wpAnyH_take (i := 2) (v := ?_) rfl (by kernel_rfl) (by kernel_rfl) (by kernel_rfl) (fun _ _ _ h => h) (Or.inl ⟨by rfl, ?_⟩) (by assumption) ?_
            rotate_left
            · (intro w hSw; (try dsimp only at hSw); go_simp; try with_reducible rfl)
            try simp only [List.getElem_toArray, List.getElem_cons_zero, List.getElem_cons_succ, Act.put, List.setIfInBounds_toArray, List.set_cons_zero, List.set_cons_succ]
            refine wpAnyH_take (i := 3) (v := ?_) rfl (by kernel_rfl) (by kernel_rfl) (by kernel_rfl) (fun _ _ _ h => h) (Or.inl ⟨by rfl, ?_⟩) (by assumption) ?_
            rotate_left
            · (intro w hSw; (try dsimp only at hSw); go_simp; try with_reducible rfl)
            try simp only [List.getElem_toArray, List.getElem_cons_zero, List.getElem_cons_succ, Act.put, List.setIfInBounds_toArray, List.set_cons_zero, List.set_cons_succ]
            refine wpAnyH_take (i := 4) (v := ?_) rfl (by kernel_rfl) (by kernel_rfl) (by kernel_rfl) (fun _ _ _ h => h) (Or.inl ⟨by rfl, ?_⟩) (by assumption) ?_
            rotate_left
            · (intro w hSw; (try dsimp only at hSw); go_simp; try with_reducible rfl)
            try simp only [List.getElem_toArray, List.getElem_cons_zero, List.getElem_cons_succ, Act.put, List.setIfInBounds_toArray, List.set_cons_zero, List.set_cons_succ]
            refine wpAnyH_take (i := 5) (v := ?_) rfl (by kernel_rfl) (by kernel_rfl) (by kernel_rfl) (fun _ _ _ h => h) (Or.inl ⟨by rfl, ?_⟩) (by assumption) ?_
            rotate_left
            · (intro w hSw; (try dsimp only at hSw); go_simp; try with_reducible rfl)
            try simp only [List.getElem_toArray, List.getElem_cons_zero, List.getElem_cons_succ, Act.put, List.setIfInBounds_toArray, List.set_cons_zero, List.set_cons_succ]
            refine wpAnyH_take (i := 6) (v := ?_) rfl (by kernel_rfl) (by kernel_rfl) (by kernel_rfl) (fun _ _ _ h => h) (Or.inl ⟨by rfl, ?_⟩) (by assumption) ?_
            rotate_left
            · (intro w hSw; (try dsimp only at hSw); go_simp; try with_reducible rfl)
            try simp only [List.getElem_toArray, List.getElem_cons_zero, List.getElem_cons_succ, Act.put, List.setIfInBounds_toArray, List.set_cons_zero, List.set_cons_succ]
            refine wpAnyH_take (i := 7) (v := ?_) rfl (by kernel_rfl) (by kernel_rfl) (by kernel_rfl) (fun _ _ _ h => h) (Or.inl ⟨by rfl, ?_⟩) (by assumption) ?_
            rotate_left
            · (intro w hSw; (try dsimp only at hSw); go_simp; try with_reducible rfl)
            try simp only [List.getElem_toArray, List.getElem_cons_zero, List.getElem_cons_succ, Act.put, List.setIfInBounds_toArray, List.set_cons_zero, List.set_cons_succ]
            refine wpAnyH_take (i := 8) (v := ?_) rfl (by kernel_rfl) (by kernel_rfl) (by kernel_rfl) (fun _ _ _ h => h) (Or.inl ⟨by rfl, ?_⟩) (by assumption) ?_
            rotate_left
            · (intro w hSw; (try dsimp only at hSw); go_simp; try with_reducible rfl)
            try simp only [List.getElem_toArray, List.getElem_cons_zero, List.getElem_cons_succ, Act.put, List.setIfInBounds_toArray, List.set_cons_zero, List.set_cons_succ]
            refine wpAnyH_take (i := 9) (v := ?_) rfl (by kernel_rfl) (by kernel_rfl) (by kernel_rfl) (fun _ _ _ h => h) (Or.inl ⟨by rfl, ?_⟩) (by assumption) ?_
            rotate_left
            · (intro w hSw; (try dsimp only at hSw); go_simp; try with_reducible rfl)
            try simp only [List.getElem_toArray, List.getElem_cons_zero, List.getElem_cons_succ, Act.put, List.setIfInBounds_toArray, List.set_cons_zero, List.set_cons_succ]
            refine wpAnyH_take (i := 10) (v := ?_) rfl (by kernel_rfl) (by kernel_rfl) (by kernel_rfl) (fun _ _ _ h => h) (Or.inl ⟨by rfl, ?_⟩) (by assumption) ?_
            rotate_left
            · (intro w hSw; (try dsimp only at hSw); go_simp; try with_reducible rfl)
            try simp only [List.getElem_toArray, List.getElem_cons_zero, List.getElem_cons_succ, Act.put, List.setIfInBounds_toArray, List.set_cons_zero, List.set_cons_succ]
            refine wpAnyH_take (i := 11) (v := ?_) rfl (by kernel_rfl) (by kernel_rfl) (by kernel_rfl) (fun _ _ _ h => h) (Or.inl ⟨by rfl, ?_⟩) (by assumption) ?_
            rotate_left
            · (intro w hSw; (try dsimp only at hSw); go_simp; try with_reducible rfl)
            try simp only [List.getElem_toArray, List.getElem_cons_zero, List.getElem_cons_succ, Act.put, List.setIfInBounds_toArray, List.set_cons_zero, List.set_cons_succ]
            refine wpAnyH_take (i := 12) (v := ?_) rfl (by kernel_rfl) (by kernel_rfl) (by kernel_rfl) (fun _ _ _ h => h) (Or.inl ⟨by rfl, ?_⟩) (by assumption) ?_
            rotate_left
            · (intro w hSw; (try dsimp only at hSw); go_simp; try with_reducible rfl)
            try simp only [List.getElem_toArray, List.getElem_cons_zero, List.getElem_cons_succ, Act.put, List.setIfInBounds_toArray, List.set_cons_zero, List.set_cons_succ]
            refine wpAnyH_take (i := 13) (v := ?_) rfl (by kernel_rfl) (by kernel_rfl) (by kernel_rfl) (fun _ _ _ h => h) (Or.inl ⟨by rfl, ?_⟩) (by assumption) ?_
            rotate_left
            · (intro w hSw; (try dsimp only at hSw); go_simp; try with_reducible rfl)
            try simp only [List.getElem_toArray, List.getElem_cons_zero, List.getElem_cons_succ, Act.put, List.setIfInBounds_toArray, List.set_cons_zero, List.set_cons_succ]
            refine wpAnyH_take (i := 14) (v := ?_) rfl (by kernel_rfl) (by kernel_rfl) (by kernel_rfl) (fun _ _ _ h => h) (Or.inl ⟨by rfl, ?_⟩) (by assumption) ?_
            rotate_left
            · (intro w hSw; (try dsimp only at hSw); go_simp; try with_reducible rfl)
            try simp only [List.getElem_toArray, List.getElem_cons_zero, List.getElem_cons_succ, Act.put, List.setIfInBounds_toArray, List.set_cons_zero, List.set_cons_succ]
            refine wpAnyH_take (i := 15) (v := ?_) rfl (by kernel_rfl) (by kernel_rfl) (by kernel_rfl) (fun _ _ _ h => h) (Or.inl ⟨by rfl, ?_⟩) (by assumption) ?_
            rotate_left
            · (intro w hSw; (try dsimp only at hSw); go_simp; try with_reducible rfl)
            try simp only [List.getElem_toArray, List.getElem_cons_zero, List.getElem_cons_succ, Act.put, List.setIfInBounds_toArray, List.set_cons_zero, List.set_cons_succ]
            refine wpAnyH_take (i := 16) (v := ?_) rfl (by kernel_rfl) (by kernel_rfl) (by kernel_rfl) (fun _ _ _ h => h) (Or.inl ⟨by rfl, ?_⟩) (by assumption) ?_
            rotate_left
            · (intro w hSw; (try dsimp only at hSw); go_simp; try with_reducible rfl)
            try simp only [List.getElem_toArray, List.getElem_cons_zero, List.getElem_cons_succ, Act.put, List.setIfInBounds_toArray, List.set_cons_zero, List.set_cons_succ]
            refine wpAnyH_take (i := 17) (v := ?_) rfl (by kernel_rfl) (by kernel_rfl) (by kernel_rfl) (fun _ _ _ h => h) (Or.inl ⟨by rfl, ?_⟩) (by assumption) ?_
            rotate_left
            · (intro w hSw; (try dsimp only at hSw); go_simp; try with_reducible rfl)
            try simp only [List.getElem_toArray, List.getElem_cons_zero, List.getElem_cons_succ, Act.put, List.setIfInBounds_toArray, List.set_cons_zero, List.set_cons_succ]
            refine wpAnyH_take (i := 18) (v := ?_) rfl (by kernel_rfl) (by kernel_rfl) (by kernel_rfl) (fun _ _ _ h => h) (Or.inl ⟨by rfl, ?_⟩) (by assumption) ?_
            rotate_left
            · (intro w hSw; (try dsimp only at hSw); go_simp; try with_reducible rfl)
            try simp only [List.getElem_toArray, List.getElem_cons_zero, List.getElem_cons_succ, Act.put, List.setIfInBounds_toArray, List.set_cons_zero, List.set_cons_succ]
            refine wpAnyH_take (i := 19) (v := ?_) rfl (by kernel_rfl) (by kernel_rfl) (by kernel_rfl) (fun _ _ _ h => h) (Or.inl ⟨by rfl, ?_⟩) (by assumption) ?_
            rotate_left
            · (intro w hSw; (try dsimp only at hSw); go_simp; try with_reducible rfl)
            try simp only [List.getElem_toArray, List.getElem_cons_zero, List.getElem_cons_succ, Act.put, List.setIfInBounds_toArray, List.set_cons_zero, List.set_cons_succ]
            refine wpAnyH_take (i := 20) (v := ?_) rfl (by kernel_rfl) (by kernel_rfl) (by kernel_rfl) (fun _ _ _ h => h) (Or.inl ⟨by rfl, ?_⟩) (by assumption) ?_
            rotate_left
            · (intro w hSw; (try dsimp only at hSw); go_simp; try with_reducible rfl)
            try simp only [List.getElem_toArray, List.getElem_cons_zero, List.getElem_cons_succ, Act.put, List.setIfInBounds_toArray, List.set_cons_zero, List.set_cons_succ]
            refine wpAnyH_take (i := 21) (v := ?_) rfl (by kernel_rfl) (by kernel_rfl) (by kernel_rfl) (fun _ _ _ h => h) (Or.inl ⟨by rfl, ?_⟩) (by assumption) ?_
            rotate_left
            · (intro w hSw; (try dsimp only at hSw); go_simp; try with_reducible rfl)
            try simp only [List.getElem_toArray, List.getElem_cons_zero, List.getElem_cons_succ, Act.put, List.setIfInBounds_toArray, List.set_cons_zero, List.set_cons_succ]
            refine wpAnyH_take (i := 22) (v := ?_) rfl (by kernel_rfl) (by kernel_rfl) (by kernel_rfl) (fun _ _ _ h => h) (Or.inl ⟨by rfl, ?_⟩) (by assumption) ?_
            rotate_left
            · (intro w hSw; (try dsimp only at hSw); go_simp; try with_reducible rfl)
            try simp only [List.getElem_toArray, List.getElem_cons_zero, List.getElem_cons_succ, Act.put, List.setIfInBounds_toArray, List.set_cons_zero, List.set_cons_succ]
            refine wpAnyH_take (i := 23) (v := ?_) rfl (by kernel_rfl) (by kernel_rfl) (by kernel_rfl) (fun _ _ _ h => h) (Or.inl ⟨by rfl, ?_⟩) (by assumption) ?_
            rotate_left
            · (intro w hSw; (try dsimp only at hSw); go_simp; try with_reducible rfl)
            try simp only [List.getElem_toArray, List.getElem_cons_zero, List.getElem_cons_succ, Act.put, List.setIfInBounds_toArray, List.set_cons_zero, List.set_cons_succ]
            refine wpAnyH_ready (rs := [24]) (by kernel_rfl) (by simp) ?_
            refine AllReadyH.cons (o := _) rfl (fun K hK => ?_) AllReadyH.nil
            go_simp
            refine hK.out _ _ (KC.out _ (HW4.out.alloc hw4 _).drew) (fun hHeld2 => ?_)
            clear hK K hHeld
            try simp only [List.getElem_toArray, List.getElem_cons_zero, List.getElem_cons_succ, Act.put, List.setIfInBounds_toArray, List.set_cons_zero, List.set_cons_succ]
            refine wpAnyH_ready (rs := [25]) (by kernel_rfl) (by simp) ?_
            refine AllReadyH.cons (o := _) rfl (fun K hK => ?_) AllReadyH.nil
            refine step_append_ts (by rfl) (.tmp 66) (.tmp 90) rfl rfl w.heap.size v acc rfl (own_drewN (HO4.out.alloc _) 1) (some ⟨W4.heap.size, 0, none⟩) 1 1 [(⟨x.f, ov, om⟩ : Tm)] rfl (TS.drew (ts_one W4 ⟨x.f, ov, om⟩)) (by omega) (by simp; omega) ?_
            intro a' cap' w2 ho2 hg2
            have HO2 : Hid (w2.ownsRow w.heap.size 55 3 (.slice a' (acc.length + 1) cap') (acc ++ [(⟨x.f, ov, om⟩ : Tm)]).length (rowT (acc ++ [(⟨x.f, ov, om⟩ : Tm)]))) := by
              show w2.ownsRow w.heap.size 55 3 (.slice a' (acc.length + 1) cap') (acc ++ [(⟨x.f, ov, om⟩ : Tm)]).length (rowT (acc ++ [(⟨x.f, ov, om⟩ : Tm)]))
              first | exact ho2 | (rw [List.length_append]; exact ho2)
            have HB2 : Hid (Below w.heap.size w w2) := grown_below (HW4.out.alloc hw4 _).drew (own_drewN (HO4.out.alloc _) 1) hg2
            clear ho2 hg2
            refine hK.out _ _ (KC.out _ HB2.out) (fun hHeld3 => ?_)
            clear hK K hHeld2
            try simp only [List.getElem_toArray, List.getElem_cons_zero, List.getElem_cons_succ, Act.put, List.setIfInBounds_toArray, List.set_cons_zero, List.set_cons_succ]
            refine wpAnyH_take (i := 26) (v := ?_) rfl (by kernel_rfl) (by kernel_rfl) (by kernel_rfl) (fun _ _ _ h => h) (Or.inl ⟨by rfl, ?_⟩) (by assumption) ?_
            rotate_left
            · (intro w hSw; (try dsimp only at hSw); go_simp; try with_reducible rfl)
            try simp only [List.getElem_toArray, List.getElem_cons_zero, List.getElem_cons_succ, Act.put, List.setIfInBounds_toArray, List.set_cons_zero, List.set_cons_succ]
            refine wpAnyH_done (by kernel_rfl) ?_ _
            clear hHeld3 KC
            go_wp2_with fail
            go_quiet (fail)
            go_wp2_with fail
            go_step3
            refine ⟨rfl, ⟨ta, n1 - 1, c1 - 1, r, tb, n2 - 1, c2 - 1, s, _, acc ++ [(⟨x.f, ov, om⟩ : Tm)], _, _, _, _, _, _, _, _, _, _, _, _, _, _, _, _, _, _, _, _, _, _, _, _, _, _, _, _, _, _, _, _, _, _, _, _, _, _, _, _, _, _, _, _, _, _, _, _, _, _, _, _, _, _, _, _, _, _, _, _, _, _, _, _, _, _, _, _, _, _, _, _, _, _, _, _, _, _, _, _, _, _, _, _, _, _, _, _, _, _, _, rfl, HR0.out.tail HTa.out, by omega, HS0.out.tail HTb.out, by omega, own_drewN HO2.out _, below_drewN HB2.out _, by simp; omega, HJ⟩, ?_⟩
            simp [jMu, sLen]; omega
          · have HJ : Hid (jn la lb = none) := by
              show _ = _
              rw [hJ.out, jn_no heq hc]; rfl
            clear hJ
            clear heq
            have HAG : Hid (∀ W : World, Calls Tryd.prog 30 #[.agg #[.int .i64 x.f, .int .u64 (x.v.toNat : Int), .int .u64 (x.m.toNat : Int)], .agg #[.int .i64 y.f, .int .u64 (y.v.toNat : Int), .int .u64 (y.m.toNat : Int)]] W fun e w' => e = .returned (.bool false) ∧ Below W.heap.size W w') := fun W => by
              have := agree_any x y W
              rw [hc] at this
              exact this
            clear hc
            have KC : Hid (∀ W, Below w.heap.size w W → W.cell? ⟨b, off, none⟩ = some (.int .i64 x.f) ∧ W.cell? ⟨b, off + 1, none⟩ = some (.int .u64 (x.v.toNat : Int)) ∧ W.cell? ⟨b, off + 2, none⟩ = some (.int .u64 (x.m.toNat : Int)) ∧ W.cell? ⟨g, oy, none⟩ = some (.int .i64 y.f) ∧ W.cell? ⟨g, oy + 1, none⟩ = some (.int .u64 (y.v.toNat : Int)) ∧ W.cell? ⟨g, oy + 2, none⟩ = some (.int .u64 (y.m.toNat : Int)) ∧ Below w.heap.size w W) := fun W hb => by
              obtain ⟨_, _, e_, p0, p1, p2, _⟩ := (G1.out.below hb).head
              cases e_
              obtain ⟨_, _, e_, q0, q1, q2, _⟩ := (G2.out.below hb).head
              cases e_
              exact ⟨p0, p1, p2, q0, q1, q2, hb⟩
            go_wp2_with fail
            go_quiet (fail)
            go_wp2_with fail
            go_quiet (fail)
            go_wp2_with fail
            refine wp_region_held_drew (S := (fun W => W.cell? ⟨b, off, none⟩ = some (.int .i64 x.f) ∧ W.cell? ⟨b, off + 1, none⟩ = some (.int .u64 (x.v.toNat : Int)) ∧ W.cell? ⟨b, off + 2, none⟩ = some (.int .u64 (x.m.toNat : Int)) ∧ W.cell? ⟨g, oy, none⟩ = some (.int .i64 y.f) ∧ W.cell? ⟨g, oy + 1, none⟩ = some (.int .u64 (y.v.toNat : Int)) ∧ W.cell? ⟨g, oy + 2, none⟩ = some (.int .u64 (y.m.toNat : Int)) ∧ Below w.heap.size w W)) (by kernel_rfl) ?_ (fun hHeld => ?_)
            · exact KC.out _ (below_drewN (below_drewN HBL.out _) _).drew
            refine wpAnyH_take (i := 0) (v := ?_) rfl (by kernel_rfl) (by kernel_rfl) (by kernel_rfl) (fun _ _ _ h => h) (Or.inl ⟨by rfl, ?_⟩) (by assumption) ?_
            rotate_left
            · (intro w hSw; (try dsimp only at hSw); go_simp; try with_reducible rfl)
            try simp only [List.getElem_toArray, List.getElem_cons_zero, List.getElem_cons_succ, Act.put, List.setIfInBounds_toArray, List.set_cons_zero, List.set_cons_succ]
            refine wpAnyH_take (i := 1) (v := ?_) rfl (by kernel_rfl) (by kernel_rfl) (by kernel_rfl) (fun _ _ _ h => h) (Or.inl ⟨by rfl, ?_⟩) (by assumption) ?_
            rotate_left
            · (intro w hSw; (try dsimp only at hSw); go_simp; try with_reducible rfl)
            try simp only [List.getElem_toArray, List.getElem_cons_zero, List.getElem_cons_succ, Act.put, List.setIfInBounds_toArray, List.set_cons_zero, List.set_cons_succ]
            refine wpAnyH_take (i := 2) (v := ?_) rfl (by kernel_rfl) (by kernel_rfl) (by kernel_rfl) (fun _ _ _ h => h) (Or.inl ⟨by rfl, ?_⟩) (by assumption) ?_
            rotate_left
            · (intro w hSw; (try dsimp only at hSw); go_simp; try with_reducible rfl)
            try simp only [List.getElem_toArray, List.getElem_cons_zero, List.getElem_cons_succ, Act.put, List.setIfInBounds_toArray, List.set_cons_zero, List.set_cons_succ]
            refine wpAnyH_take (i := 3) (v := ?_) rfl (by kernel_rfl) (by kernel_rfl) (by kernel_rfl) (fun _ _ _ h => h) (Or.inl ⟨by rfl, ?_⟩) (by assumption) ?_
            rotate_left
            · (intro w hSw; (try dsimp only at hSw); go_simp; try with_reducible rfl)
            try simp only [List.getElem_toArray, List.getElem_cons_zero, List.getElem_cons_succ, Act.put, List.setIfInBounds_toArray, List.set_cons_zero, List.set_cons_succ]
            refine wpAnyH_take (i := 4) (v := ?_) rfl (by kernel_rfl) (by kernel_rfl) (by kernel_rfl) (fun _ _ _ h => h) (Or.inl ⟨by rfl, ?_⟩) (by assumption) ?_
            rotate_left
            · (intro w hSw; (try dsimp only at hSw); go_simp; try with_reducible rfl)
            try simp only [List.getElem_toArray, List.getElem_cons_zero, List.getElem_cons_succ, Act.put, List.setIfInBounds_toArray, List.set_cons_zero, List.set_cons_succ]
            refine wpAnyH_take (i := 5) (v := ?_) rfl (by kernel_rfl) (by kernel_rfl) (by kernel_rfl) (fun _ _ _ h => h) (Or.inl ⟨by rfl, ?_⟩) (by assumption) ?_
            rotate_left
            · (intro w hSw; (try dsimp only at hSw); go_simp; try with_reducible rfl)
            try simp only [List.getElem_toArray, List.getElem_cons_zero, List.getElem_cons_succ, Act.put, List.setIfInBounds_toArray, List.set_cons_zero, List.set_cons_succ]
            refine wpAnyH_ready (rs := [6]) (by kernel_rfl) (by simp) ?_
            refine AllReadyH.cons (o := _) rfl (fun K hK => ?_) AllReadyH.nil
            go_simp
            refine (HAG.out _).mono ?_
            rintro e W4 ⟨rfl, hb4⟩
            have HW4 : Hid (Below w.heap.size w W4) := (below_drewN HBL.out _).trans (hb4.mono HBL.out.size)
            have HO4 : Hid (W4.ownsRow w.heap.size 55 3 v acc.length (rowT acc)) := own_below2 HOWN.out hb4 rfl
            go_wp2_with fail
            refine hK.out _ _ (KC.out _ HW4.out) (fun hHeld2 => ?_)
            clear hK K hb4
            try simp only [List.getElem_toArray, List.getElem_cons_zero, List.getElem_cons_succ, Act.put, List.setIfInBounds_toArray, List.set_cons_zero, List.set_cons_succ]
            clear hHeld
            refine wpAnyH_take (i := 7) (v := ?_) rfl (by kernel_rfl) (by kernel_rfl) (by kernel_rfl) (fun _ _ _ h => h) (Or.inl ⟨by rfl, ?_⟩) (by assumption) ?_
            rotate_left
            · (intro w hSw; (try dsimp only at hSw); go_simp; try with_reducible rfl)
            try simp only [List.getElem_toArray, List.getElem_cons_zero, List.getElem_cons_succ, Act.put, List.setIfInBounds_toArray, List.set_cons_zero, List.set_cons_succ]
            refine wpAnyH_take (i := 8) (v := ?_) rfl (by kernel_rfl) (by kernel_rfl) (by kernel_rfl) (fun _ _ _ h => h) (Or.inl ⟨by rfl, ?_⟩) (by assumption) ?_
            rotate_left
            · (intro w hSw; (try dsimp only at hSw); go_simp; try with_reducible rfl)
            try simp only [List.getElem_toArray, List.getElem_cons_zero, List.getElem_cons_succ, Act.put, List.setIfInBounds_toArray, List.set_cons_zero, List.set_cons_succ]
            refine wpAnyH_done (by kernel_rfl) ?_ _
            go_wp2_with fail
            simp only [Exit.jump]
            go_ret2
            exact ⟨_, by rw [HJ.out]; rfl, by rw [HJ.out]; exact TV.nil, HW4.out⟩
        · have HJ : Hid _ := jn_stepR hJ.out hgt
          clear hJ
          have f1 : ¬ x.f < y.f := by omega
          go_wp2_with fail
          go_quiet (fail)
          go_wp2_with fail
          go_quiet (fail)
          go_wp2_with (at_builtin; go_must (refine wpList_append_ts (by rfl) (.tmp 49) (.tmp 53) rfl rfl w.heap.size v acc rfl ((own_drewN HOWN.out _).alloc _) (some ⟨wr.heap.size, 0, none⟩) 1 1 [y] rfl (ts_one _ y) (by omega) (by simp; omega) ?_))
          intro a' cap' w2 ho2 hg2
          have HO2 : Hid (w2.ownsRow w.heap.size 55 3 (.slice a' (acc.length + 1) cap') (acc ++ [y]).length (rowT (acc ++ [y]))) := by
            show w2.ownsRow w.heap.size 55 3 (.slice a' (acc.length + 1) cap') (acc ++ [y]).length (rowT (acc ++ [y]))
            first | exact ho2 | (rw [List.length_append]; exact ho2)
          have HB2 : Hid (Below w.heap.size w w2) := grown_below ((below_drewN HBL.out _).alloc (by simp; omega) _) ((own_drewN HOWN.out _).alloc _) hg2
          clear ho2 hg2 x0 x1 x2 y0 y1 y2
          go_wp2_with fail
          go_step3
          refine ⟨rfl, ⟨some ⟨b, off, none⟩, n1, c1, x :: r, tb, n2 - 1, c2 - 1, s, _, acc ++ [y], _, _, _, _, _, _, _, _, _, _, _, _, _, _, _, _, _, _, _, _, _, _, _, _, _, _, _, _, _, _, _, _, _, _, _, _, _, _, _, _, _, _, _, _, _, _, _, _, _, _, _, _, _, _, _, _, _, _, _, _, _, _, _, _, _, _, _, _, _, _, _, _, _, _, _, _, _, _, _, _, _, _, _, _, _, _, _, _, _, _, _, rfl, G1.out, hc1, HS0.out.tail HTb.out, by omega, HO2.out, HB2.out, by simp; omega, HJ⟩, ?_⟩
          simp [jMu, sLen]; omega
  · intro HG
    go_wp2_with fail
    go_step3
    rename_i K hK
    exact hK _ _ (HG.out _ _ ⟨a0, n0, c0, la, b0, m0, d0, lb, _, [], _, _, _, _, _, _, _, _, _, _, _, _, _, _, _, _, _, _, _, _, _, _, _, _, _, _, _, _, _, _, _, _, _, _, _, _, _, _, _, _, _, _, _, _, _, _, _, _, _, _, _, _, _, _, _, _, _, _, _, _, _, _, _, _, _, _, _, _, _, _, _, _, _, _, _, _, _, _, _, _, _, _, _, _, _, _, _, _, _, _, _, rfl, HTA.out, hc0, HTB.out, hd0, World.ownsRow_nil _ _ _ _, Below.refl _ _, by simp; omega, by show jn la lb = _; simp⟩)
end Go.Proofs.YtpinhnkceaephaaDoor
