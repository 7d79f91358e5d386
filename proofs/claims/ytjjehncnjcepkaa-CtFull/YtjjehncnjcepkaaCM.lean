/- Commit: a new connection in a zone that has none. Conditions: as said. -/
import Derived.Test.YtjjehncnjcepkaaCL
namespace Go.Proofs.Ytjjehncnjcepkaa
open Go.RowKit
theorem yields_build {ops : Array Oper} {S : World → Prop} {op : Oper} {a : Act} (hw : Region.wanted op (yielded ops a.tmps) = true) (t : TypeId) (parts : Array (Nat × Operand)) (ho : op.op = .build t parts)
    (cells : Array Value) (xs : List (Nat × Value)) (hx : (parts.toList.map fun (i, x) => (i, a.eval x)) = xs) (hc : Try.prog.built t xs = some cells) : YieldsIf Try.prog ops S op (.agg cells) a :=
  .inl ⟨hw, fun w _ => by
    rw [← hx, ← Array.toList_map] at hc
    unfold execOp
    simp only [ho, Sem.run_bind, run_build w t _ cells hc, Result.andThen_ok, Sem.run_pure]⟩
theorem conn_built (z : Int) (o r : Tup) (ex : Int) : Try.prog.built 51 [(0, .int .i64 z), (1, tv o), (2, tv r), (4, .int .i64 ex)] = some (connC z o r false ex) := by kernel_rfl
theorem conn_nat (z : Int) (o r : Tup) (nat : Bool) (ex : Int) : (connC z o r false ex).setIfInBounds 11 (.bool nat) = connC z o r nat ex := by kernel_rfl
def zconn : Array Value := #[.int .i64 0, .int .i64 0, .int .u32 0, .int .u32 0, .int .i64 0, .int .i64 0, .int .i64 0, .int .u32 0, .int .u32 0, .int .i64 0, .int .i64 0, .bool false, .int .i64 0]
theorem zero_tup_ptr (W : World) : (zeroValue 66).run Try.prog W = .ok (.pointer none) W := by kernel_rfl
set_option linter.unusedSimpArgs false in
set_option maxRecDepth 20000 in
set_option maxHeartbeats 8000000 in
theorem commit_new (tb zb c B : Nat) (room clock z : Int) (hr : 1 ≤ room) (hc : 0 ≤ clock ∧ clock ≤ 4611686018427387904) (hz0 : 0 ≤ z) (hz1 : z ≤ 65535) (q : Value) (l : List (Int × Value × Nat)) (cs ps : Array Value) (hst : St cs) (hps : cs.extract 0 (0 + 36) = ps) {fr pr src dst k ty co re sp dp : Int} (hp : Pk ps true fr pr src dst k ty co re sp dp) (hT : hasT true fr k ty co = true)
    (o : Tup) (ho : cs.extract 44 (44 + 5) = tupC o.1 o.2.1 o.2.2.1 o.2.2.2.1 o.2.2.2.2) (hop : o.1 = pr) (w : World) (h : w.heap[tb]? = some (.cells (tabV room clock zb q) 65 (0, 0))) (hz : w.heap[zb]? = some (.map (entG iv l).toArray c)) (hf : findG z l 0 = none) (hq : w.ownsRow B 66 1 q 0 []) (hB : B ≤ w.heap.size) (hBt : B ≤ tb) (hBz : B ≤ zb) :
    Calls Try.prog 9 #[.pointer (some ⟨tb, 0, none⟩), .int .i64 z, .agg cs] w fun e w' => e = .returned (.int .i64 0) ∧ One w w' B tb zb c room clock l z o (turn (pr, src, dst, portT k re sp, portT k re dp)) (!decide (turn (pr, src, dst, portT k re sp, portT k re dp) = turn o)) (clock + 30) := by
  have HOF : Hid (∀ W, Calls Try.prog 20 #[.agg ps] W fun e w' => e = .returned (.tuple #[.agg (tupC pr src dst (portT k re sp) (portT k re dp)), .bool true]) ∧ Below W.heap.size W w') := by
    show ∀ W, _
    intro W; exact of_yes hp hT W
  obtain ⟨s9, hs9⟩ : ∃ s9, portT k re sp = s9 := ⟨_, rfl⟩
  obtain ⟨d9, hd9⟩ : ∃ d9, portT k re dp = d9 := ⟨_, rfl⟩
  rw [hs9, hd9] at HOF ⊢
  have HTU : Hid (∀ W, Calls Try.prog 25 #[.agg (tupC pr src dst s9 d9)] W fun e w' => e = .returned (tv (turn (pr, src, dst, s9, d9))) ∧ Below W.heap.size W w') := by
    show ∀ W, _
    intro W; exact turned_any (pr, src, dst, s9, d9) W
  obtain ⟨r, hre⟩ : ∃ r, turn (pr, src, dst, s9, d9) = r := ⟨_, rfl⟩
  obtain ⟨ex, hex⟩ : ∃ ex, clock + 30 = ex := ⟨_, rfl⟩
  rw [hre] at HTU
  rw [hre, hex]
  obtain ⟨tc, htc⟩ : ∃ tc, tupC pr src dst s9 d9 = tc := ⟨_, rfl⟩
  have ht0 : tc[0]? = some (.int .i64 pr) := by rw [← htc]; rfl
  rw [htc] at HOF HTU
  have htz : tc.size = 5 := by rw [← htc]; rfl
  have hto : tc.all (·.oneCell') = true := by rw [← htc]; exact tup_one _ _ _ _ _
  have h44 : cs[44]? = some (.int .i64 pr) := by
    have e := congrArg (fun x => x[0]?) ho
    have e' : (cs.extract 44 (44 + 5))[0]? = some (.int .i64 o.1) := e.trans rfl
    rw [Array.getElem?_extract_of_lt (by rw [hst.size]; decide), ← Array.getElem?_eq_getElem] at e'
    rw [← hop]; exact e'
  have H44 : Hid _ := h44
  have HT0 : Hid _ := ht0
  have HTZ : Hid _ := htz
  have HTO : Hid _ := hto
  have HIT : Hid _ := (show (Try.prog.info? 44).map (·.size) = some tc.size by rw [htz]; exact size5)
  have HST : Hid _ := hst
  have HPS : Hid _ := hps
  have HP36 : Hid _ := hp.size
  have HOR : Hid _ := ho
  have HTB : Hid _ := h
  have HZB : Hid _ := hz
  have HF : Hid _ := hf
  have HNE : Hid (∀ W, Below w.heap.size w W → Calls Try.prog 23 #[.pointer (some ⟨tb, 0, none⟩)] W fun e w' => e = .returned (.int .i64 ex) ∧ w' = W) := by
    show ∀ W, _
    intro W hb
    rw [← hex]
    exact nextEnd_any tb zb room clock hc q W ((hb.block _ (lt_of_heap h)).trans h)
  have HAD : Hid (∀ nat W, Below w.heap.size w W → Calls Try.prog 28 #[.pointer (some ⟨tb, 0, none⟩), .agg (connC z o r nat ex)] W fun e w' => e = .returned (.int .i64 0) ∧ One w w' B tb zb c room clock l z o r nat ex) := by
    show ∀ nat W, _
    intro nat W hb
    refine (add_new tb zb c B room clock hr q l z o r nat ex W ((hb.block _ (lt_of_heap h)).trans h) ((hb.block _ (lt_of_heap hz)).trans hz) hf (own_below hq hb) (by have := hb.size; omega) hBt hBz).mono ?_
    rintro e w' ⟨h1, h2⟩
    exact ⟨h1, One.from h2 hb hB⟩
  obtain ⟨cn, hcn⟩ : ∃ cn, connC z o r false ex = cn := ⟨_, rfl⟩
  have HBU : Hid _ := conn_built z o r ex
  rw [hcn] at HBU
  have HIN : Hid (∀ W, Calls Try.prog 26 #[.agg cn] W fun e w' => e = .returned (.bool (!decide (r = turn o))) ∧ Below W.heap.size W w') := by
    show ∀ W, _
    intro W; rw [← hcn]; exact isNat_any z o r false ex W
  obtain ⟨nat, hnat⟩ : ∃ nat, (!decide (r = turn o)) = nat := ⟨_, rfl⟩
  rw [hnat] at HIN ⊢
  have HCN : Hid (cn.setIfInBounds 11 (.bool nat) = connC z o r nat ex) := by show _ = _; rw [← hcn]; exact conn_nat z o r nat ex
  obtain ⟨C, hC⟩ : ∃ C, connC z o r nat ex = C := ⟨_, rfl⟩
  have HAD : Hid (∀ W, Below w.heap.size w W → Calls Try.prog 28 #[.pointer (some ⟨tb, 0, none⟩), .agg C] W fun e w' => e = .returned (.int .i64 0) ∧ One w w' B tb zb c room clock l z o r nat ex) := by
    show ∀ W, _
    rw [← hC]
    exact HAD.out nat
  have HCO : Hid (C.extract 1 (1 + 5) = tupC o.1 o.2.1 o.2.2.1 o.2.2.2.1 o.2.2.2.2) := by show _ = _; rw [← hC]; exact conn_orig _ _ _ _ _
  have HCR : Hid (C.extract 6 (6 + 5) = tupC r.1 r.2.1 r.2.2.1 r.2.2.2.1 r.2.2.2.2) := by show _ = _; rw [← hC]; exact conn_reply _ _ _ _ _
  have HICC : Hid ((Try.prog.info? 51).map (·.size) = some C.size) := by show _ = _; rw [← hC]; exact size13
  rw [hC] at HCN
  have HLK : Hid (∀ W : World, W.heap[zb]? = some (.map (entG iv l).toArray c) → (Instr.lookup 61 (.map (some zb)) (iv z) false).run Try.prog W = .ok (.agg #[.map none, .map none]) W) := by
    show ∀ W : World, _
    intro W hW
    have hlk := look_any intK Try.underlying61 _ zero_zone hW z
    rw [HF.out] at hlk
    exact hlk
  have HKN : Hid (∀ t W, Calls Try.prog 27 #[.agg #[.map none, .map none], tv t] W fun e w' => e = .returned (.bool false) ∧ Below W.heap.size W w') := by
    show ∀ t W, _
    intro t W
    exact knows_any none none t none none W (fun W' _ => look_nil tupK Try.underlying58 _ zero_tup_ptr W' t) (fun W' _ => look_nil tupK Try.underlying58 _ zero_tup_ptr W' t)
  have HC11 : Hid (cn[11]? = some (.bool false)) := by show _ = _; rw [← hcn]; rfl
  have HC13 : Hid (cn.size = 13) := by show _ = _; rw [← hcn]; rfl
  have HC1 : Hid (cn.all (·.oneCell') = true) := by show _ = _; rw [← hcn]; exact conn_one _ _ _ _ _
  have HIC : Hid _ := (show (Try.prog.info? 51).map (·.size) = some cn.size by rw [HC13.out]; exact size13)
  have hz9 : zoneE z = 0 := by unfold zoneE; rw [if_neg (by omega), if_neg (by omega)]
  have HZE : Hid _ := hz9
  have hlt : tb < w.heap.size := lt_of_heap h
  have hlz : zb < w.heap.size := lt_of_heap hz
  have HS1 : Hid _ := heap_alloc_new w (.cells cs 46)
  clear htc ht0 htz hto hst hps hp hT ho hop h hz hf hq hz9 hs9 hd9 h44 hre hex hcn hnat hC hc hz0 hz1 hr
  go_enter Try.func9, Try.ntmps9
  go_wp2_with fail
  refine (check_any tb zb room clock z q _ ((below1 w _).block _ hlt |>.trans HTB.out)).mono ?_
  rw [HZE.out]
  rintro e W0 ⟨rfl, hw0⟩
  rw [hw0]
  clear hw0
  go_wp2_with (first
    | refine wpList_load_as rfl 41 _ rfl w.heap.size 0 36 rfl cs ps 46 _ HS1.out Try.underlying41 rfl HPS.out HP36.out size36 ?_
    | fail)
  refine (HOF.out _).mono ?_
  rintro e W1 ⟨rfl, hb1⟩
  have HB1 : Hid (Below w.heap.size w W1) := (below1 w _).trans (hb1.mono (by simp))
  have hS1 : W1.heap[w.heap.size]? = some (.cells cs 46 (0, 0)) := (hb1.block _ (by simp)).trans HS1.out
  have hl1 : w.heap.size < W1.heap.size := lt_of_heap hS1
  have hS2 : (W1.alloc (.cells tc 44)).heap[w.heap.size]? = some (.cells cs 46 (0, 0)) := (heap_alloc_old _ _ hl1).trans hS1
  have hN2 := heap_alloc_new W1 (.cells tc 44)
  have c44 : (W1.alloc (.cells tc 44)).cell? ⟨w.heap.size, 44, none⟩ = some (.int .i64 pr) := (cell_row hS2 44).trans H44.out
  have c0 : (W1.alloc (.cells tc 44)).cell? ⟨W1.heap.size, 0, none⟩ = some (.int .i64 pr) := (cell_row hN2 0).trans HT0.out
  have HB2 : Hid (Below w.heap.size w (W1.alloc (.cells tc 44))) := HB1.out.trans ((below1 W1 _).mono HB1.out.size)
  have hz2 : (W1.alloc (.cells tc 44)).heap.size = W1.heap.size + 1 := by simp
  have HS2 : Hid _ := hS2
  have HN2 : Hid _ := hN2
  clear hb1 hS1 hS2 hN2
  go_wp2_with (first
    | (refine wpList_store_new rfl 44 _ _ rfl _ tc W1.heap.size rfl rfl rfl HIT.out (Eq.trans (b := 5) rfl HTZ.out.symm) HTO.out ?_
       generalize W1.alloc (.cells tc 44) = W2 at *)
    | fail)
  have key : ∀ W, Below W2.heap.size W2 W → W.heap[w.heap.size]? = some (.cells cs 46 (0, 0)) ∧ W.heap[W1.heap.size]? = some (.cells tc 44 (0, 0)) ∧ Below w.heap.size w W := fun W hb =>
    ⟨(hb.block _ (by omega)).trans HS2.out, (hb.block _ (by omega)).trans HN2.out, HB2.out.trans (hb.mono (by omega))⟩
  have KC : Hid _ := key
  clear key c44 c0
  refine wp_region_held_drew (S := (fun W => W.heap[w.heap.size]? = some (.cells cs 46 (0, 0)) ∧ W.heap[W1.heap.size]? = some (.cells tc 44 (0, 0)) ∧ Below w.heap.size w W)) (by kernel_rfl) ?_ (fun hHeld => ?_)
  · exact KC.out _ (Below.refl _ _).drew
  have hD : Below W2.heap.size W2 W2.drew := (Below.refl _ _).drew
  refine wpAnyH_take (i := 0) (v := ?_) rfl (by kernel_rfl) (by kernel_rfl) (by kernel_rfl) (fun _ _ _ h => h) (Or.inl ⟨by rfl, ?_⟩) (by assumption) ?_
  rotate_left
  · (intro w hSw; (try dsimp only at hSw); go_simp; try with_reducible rfl)
  try simp only [List.getElem_toArray, List.getElem_cons_zero, List.getElem_cons_succ, Act.put, List.setIfInBounds_toArray, List.set_cons_zero, List.set_cons_succ]
  refine wpAnyH_take (i := 1) (v := ?_) rfl (by kernel_rfl) (by kernel_rfl) (by kernel_rfl) (fun _ _ _ h => h) (Or.inl ⟨by rfl, ?_⟩) (by assumption) ?_
  rotate_left
  · (intro w hSw; (try dsimp only at hSw); go_simp; try with_reducible rfl)
  try simp only [List.getElem_toArray, List.getElem_cons_zero, List.getElem_cons_succ, Act.put, List.setIfInBounds_toArray, List.set_cons_zero, List.set_cons_succ]
  refine wpAnyH_take (i := 2) (v := tv o) rfl (by kernel_rfl) (by kernel_rfl) (by kernel_rfl) (fun _ _ _ h => h) (yields_loadA (by rfl) 44 _ rfl w.heap.size 44 5 rfl 46 cs _ _ (fun _ h => h.1) HOR.out rfl Try.underlying44 rfl size5) (by assumption) ?_
  try simp only [List.getElem_toArray, List.getElem_cons_zero, List.getElem_cons_succ, Act.put, List.setIfInBounds_toArray, List.set_cons_zero, List.set_cons_succ]
  refine wpAnyH_take (i := 3) (v := .agg tc) rfl (by kernel_rfl) (by kernel_rfl) (by kernel_rfl) (fun _ _ _ h => h) (yields_loadR (by rfl) 44 _ rfl W1.heap.size rfl 44 tc _ (fun _ h => h.2.1) Try.underlying44 rfl HIT.out) (by assumption) ?_
  try simp only [List.getElem_toArray, List.getElem_cons_zero, List.getElem_cons_succ, Act.put, List.setIfInBounds_toArray, List.set_cons_zero, List.set_cons_succ]
  refine wpAnyH_take (i := 5) (v := ?_) rfl (by kernel_rfl) (by kernel_rfl) (by kernel_rfl) (fun _ _ _ h => h) (Or.inl ⟨by rfl, ?_⟩) (by assumption) ?_
  rotate_left
  · (intro w hSw; (try dsimp only at hSw); go_simp; try with_reducible rfl)
  try simp only [List.getElem_toArray, List.getElem_cons_zero, List.getElem_cons_succ, Act.put, List.setIfInBounds_toArray, List.set_cons_zero, List.set_cons_succ]
  refine wpAnyH_ready (rs := [4, 8]) (by kernel_rfl) (by simp) ?_
  refine AllReadyH.cons (o := _) rfl (fun K hK => ?_) (AllReadyH.cons (o := _) rfl (fun K hK => ?_) AllReadyH.nil)
  · skip
    go_simp
    refine (HTU.out _).mono ?_
    rintro e Wf ⟨rfl, hbf⟩
    go_wp2_with fail
    have hDf : Below W2.heap.size W2 Wf := hD.trans (hbf.mono hD.size)
    refine hK.out _ _ (KC.out _ hDf) (fun hHeld2 => ?_)
    clear hK K hHeld
    have hHeld := hHeld2
    clear hHeld2
    try simp only [List.getElem_toArray, List.getElem_cons_zero, List.getElem_cons_succ, Act.put, List.setIfInBounds_toArray, List.set_cons_zero, List.set_cons_succ]
    refine wpAnyH_ready (rs := [6, 8]) (by kernel_rfl) (by simp) ?_
    refine AllReadyH.cons (o := _) rfl (fun K hK => ?_) (AllReadyH.cons (o := _) rfl (fun K hK => ?_) AllReadyH.nil)
    · skip
      go_simp
      refine (HNE.out _ (KC.out _ hDf).2.2).mono ?_
      rintro e Wp ⟨rfl, hwp⟩
      rw [hwp]
      clear hwp
      go_wp2_with fail
      refine hK.out _ _ (KC.out _ hDf) (fun hHeld2 => ?_)
      clear hK K hHeld
      have hHeld := hHeld2
      clear hHeld2
      try simp only [List.getElem_toArray, List.getElem_cons_zero, List.getElem_cons_succ, Act.put, List.setIfInBounds_toArray, List.set_cons_zero, List.set_cons_succ]
      refine wpAnyH_take (i := 7) (v := .agg cn) rfl (by kernel_rfl) (by kernel_rfl) (by kernel_rfl) (fun _ _ _ h => h) (yields_build (by rfl) 51 _ rfl cn [(0, .int .i64 z), (1, tv o), (2, tv r), (4, .int .i64 ex)] (by kernel_rfl) HBU.out) (by assumption) ?_
      try simp only [List.getElem_toArray, List.getElem_cons_zero, List.getElem_cons_succ, Act.put, List.setIfInBounds_toArray, List.set_cons_zero, List.set_cons_succ]
      refine wpAnyH_ready (rs := [8]) (by kernel_rfl) (by simp) ?_
      refine AllReadyH.cons (o := _) rfl (fun K hK => ?_) AllReadyH.nil
      go_simp
      have hDfa : Below W2.heap.size W2 (World.alloc Wf (.cells #[.int .i64 0, .int .i64 0, .int .u32 0, .int .u32 0, .int .i64 0, .int .i64 0, .int .i64 0, .int .u32 0, .int .u32 0, .int .i64 0, .int .i64 0, .bool false, .int .i64 0] 51)) := hDf.trans ((below1 _ _).mono hDf.size)
      have hbw : (World.alloc Wf (.cells #[.int .i64 0, .int .i64 0, .int .u32 0, .int .u32 0, .int .i64 0, .int .i64 0, .int .i64 0, .int .u32 0, .int .u32 0, .int .i64 0, .int .i64 0, .bool false, .int .i64 0] 51)).heap[(World.heap Wf).size]? = some (.cells #[.int .i64 0, .int .i64 0, .int .u32 0, .int .u32 0, .int .i64 0, .int .i64 0, .int .i64 0, .int .u32 0, .int .u32 0, .int .i64 0, .int .i64 0, .bool false, .int .i64 0] 51 (0, 0)) := heap_alloc_new _ _
      refine hK.out _ _ (KC.out _ hDfa) (fun hHeld2 => ?_)
      clear hK K hHeld
      have hHeld := hHeld2
      clear hHeld2
      try simp only [List.getElem_toArray, List.getElem_cons_zero, List.getElem_cons_succ, Act.put, List.setIfInBounds_toArray, List.set_cons_zero, List.set_cons_succ]
      refine wpAnyH_ready (rs := [9]) (by kernel_rfl) (by simp) ?_
      refine AllReadyH.cons (o := _) rfl (fun K hK => ?_) AllReadyH.nil
      have hle : W2.heap.size ≤ (World.heap Wf).size := hDf.size
      refine wp_store_row 51 _ _ rfl (World.heap Wf).size #[.int .i64 0, .int .i64 0, .int .u32 0, .int .u32 0, .int .i64 0, .int .i64 0, .int .i64 0, .int .u32 0, .int .u32 0, .int .i64 0, .int .i64 0, .bool false, .int .i64 0] cn 51 rfl rfl hbw HIC.out (Eq.trans (b := 13) rfl HC13.out.symm) HC1.out ?_
      intro W6 z1 z2 z3 z4
      have hB6 : Below W2.heap.size W2 W6 := hDfa.trans (z4.mono hle)
      have k6 := KC.out _ hB6
      refine hK.out _ _ k6 (fun hHeld => ?_)
      clear hK K hHeld
      try simp only [List.getElem_toArray, List.getElem_cons_zero, List.getElem_cons_succ, Act.put, List.setIfInBounds_toArray, List.set_cons_zero, List.set_cons_succ]
      refine wpAnyH_done (by kernel_rfl) ?_ _
      have QB : Hid (Below w.heap.size w W6) := k6.2.2
      have hlw : w.heap.size < (World.heap Wf).size := by omega
      obtain ⟨bw, hbwE⟩ : ∃ bw, (World.heap Wf).size = bw := ⟨_, rfl⟩
      rw [hbwE] at z1 hlw ⊢
      have Q1 : Hid _ := z1
      clear z1 z2 z3 z4 hB6 k6 KC hle hbwE hbw
      go_wp2_with (first
        | refine wpList_load_row rfl 51 _ rfl bw rfl 51 cn (0, 0) _ Q1.out Try.underlying51 rfl HIC.out ?_
        | fail)
      refine (HIN.out _).mono ?_
      rintro e W7 ⟨rfl, hb7⟩
      have hN7 : W7.heap[bw]? = some (.cells cn 51 (0, 0)) := (hb7.block _ (lt_of_heap Q1.out)).trans Q1.out
      have c11 : W7.cell? ⟨bw, 11, none⟩ = some (.bool false) := (cell_row hN7 11).trans HC11.out
      have f11 := frozen_of_row W7 _ 11 _ _ hN7
      have hV : (W7.setCell ⟨bw, 11, none⟩ (.bool nat)).heap[bw]? = some (.cells C 51 (0, 0)) := by rw [← HCN.out]; exact row_setCell hN7 11 _
      have hBV : Below w.heap.size w (W7.setCell ⟨bw, 11, none⟩ (.bool nat)) := (QB.out.trans (hb7.mono QB.out.size)).setCell (Nat.le_of_lt hlw) _
      have HV : Hid _ := hV
      have HBV : Hid _ := hBV
      clear hb7 hN7 hV hBV QB Q1
      go_wp2_with fail
      generalize W7.setCell ⟨bw, 11, none⟩ (.bool nat) = V at *
      have KV : Hid (∀ W, Below V.heap.size V W → W.cell? ⟨tb, 2, none⟩ = some (.map (some zb)) ∧ W.heap[bw]? = some (.cells C 51 (0, 0)) ∧ W.heap[zb]? = some (.map (entG iv l).toArray c) ∧ Below w.heap.size w W) := by
        show ∀ W, _
        intro W hb
        have hbw := HBV.out.trans (hb.mono HBV.out.size)
        exact ⟨cell_row ((hbw.block _ hlt).trans HTB.out) 2, (hb.block _ (lt_of_heap HV.out)).trans HV.out, (hbw.block _ hlz).trans HZB.out, hbw⟩
      clear c11 f11 HV HBV
      refine wp_region_held_drew (S := (fun W => W.cell? ⟨tb, 2, none⟩ = some (.map (some zb)) ∧ W.heap[bw]? = some (.cells C 51 (0, 0)) ∧ W.heap[zb]? = some (.map (entG iv l).toArray c) ∧ Below w.heap.size w W)) (by kernel_rfl) ?_ (fun hHeld => ?_)
      · exact KV.out _ (Below.refl _ _).drew
      refine wpAnyH_take (i := 0) (v := ?_) rfl (by kernel_rfl) (by kernel_rfl) (by kernel_rfl) (fun _ _ _ h => h) (Or.inl ⟨by rfl, ?_⟩) (by assumption) ?_
      rotate_left
      · (intro w hSw; (try dsimp only at hSw); go_simp; try with_reducible rfl)
      try simp only [List.getElem_toArray, List.getElem_cons_zero, List.getElem_cons_succ, Act.put, List.setIfInBounds_toArray, List.set_cons_zero, List.set_cons_succ]
      refine wpAnyH_take (i := 1) (v := ?_) rfl (by kernel_rfl) (by kernel_rfl) (by kernel_rfl) (fun _ _ _ h => h) (Or.inl ⟨by rfl, ?_⟩) (by assumption) ?_
      rotate_left
      · (intro w hSw; (try dsimp only at hSw); go_simp; try with_reducible rfl)
      try simp only [List.getElem_toArray, List.getElem_cons_zero, List.getElem_cons_succ, Act.put, List.setIfInBounds_toArray, List.set_cons_zero, List.set_cons_succ]
      refine wpAnyH_take (i := 2) (v := ?_) rfl (by kernel_rfl) (by kernel_rfl) (by kernel_rfl) (fun _ _ _ h => h) (Or.inl ⟨by rfl, ?_⟩) (by assumption) ?_
      rotate_left
      · (intro w hSw; (try dsimp only at hSw); go_simp; try with_reducible rfl)
      try simp only [List.getElem_toArray, List.getElem_cons_zero, List.getElem_cons_succ, Act.put, List.setIfInBounds_toArray, List.set_cons_zero, List.set_cons_succ]
      refine wpAnyH_take (i := 3) (v := ?_) rfl (by kernel_rfl) (by kernel_rfl) (by kernel_rfl) (fun _ _ _ h => h) (Or.inl ⟨by rfl, ?_⟩) (by assumption) ?_
      rotate_left
      · (intro w hSw; (try dsimp only at hSw); go_simp; try with_reducible rfl)
      try simp only [List.getElem_toArray, List.getElem_cons_zero, List.getElem_cons_succ, Act.put, List.setIfInBounds_toArray, List.set_cons_zero, List.set_cons_succ]
      refine wpAnyH_take (i := 4) (v := ?_) rfl (by kernel_rfl) (by kernel_rfl) (by kernel_rfl) (fun _ _ _ h => h) (Or.inl ⟨by rfl, ?_⟩) (by assumption) ?_
      rotate_left
      · (intro w hSw; (try dsimp only at hSw); go_simp; try with_reducible rfl)
      try simp only [List.getElem_toArray, List.getElem_cons_zero, List.getElem_cons_succ, Act.put, List.setIfInBounds_toArray, List.set_cons_zero, List.set_cons_succ]
      refine wpAnyH_take (i := 5) (v := .agg #[.map none, .map none]) rfl (by kernel_rfl) (by kernel_rfl) (by kernel_rfl) (fun _ _ _ h => h) (yields_lookup (by rfl) 61 _ _ rfl (.map (some zb)) (iv z) _ rfl rfl (fun W h => HLK.out W h.2.2.1)) (by assumption) ?_
      try simp only [List.getElem_toArray, List.getElem_cons_zero, List.getElem_cons_succ, Act.put, List.setIfInBounds_toArray, List.set_cons_zero, List.set_cons_succ]
      refine wpAnyH_take (i := 6) (v := ?_) rfl (by kernel_rfl) (by kernel_rfl) (by kernel_rfl) (fun _ _ _ h => h) (Or.inl ⟨by rfl, ?_⟩) (by assumption) ?_
      rotate_left
      · (intro w hSw; (try dsimp only at hSw); go_simp; try with_reducible rfl)
      try simp only [List.getElem_toArray, List.getElem_cons_zero, List.getElem_cons_succ, Act.put, List.setIfInBounds_toArray, List.set_cons_zero, List.set_cons_succ]
      refine wpAnyH_take (i := 7) (v := tv o) rfl (by kernel_rfl) (by kernel_rfl) (by kernel_rfl) (fun _ _ _ h => h) (yields_loadA (by rfl) 44 _ rfl bw 1 5 rfl 51 C _ _ (fun _ h => h.2.1) HCO.out rfl Try.underlying44 rfl size5) (by assumption) ?_
      try simp only [List.getElem_toArray, List.getElem_cons_zero, List.getElem_cons_succ, Act.put, List.setIfInBounds_toArray, List.set_cons_zero, List.set_cons_succ]
      refine wpAnyH_ready (rs := [8]) (by kernel_rfl) (by simp) ?_
      refine AllReadyH.cons (o := _) rfl (fun K hK => ?_) AllReadyH.nil
      go_simp
      refine (HKN.out o _).mono ?_
      rintro e W8 ⟨rfl, hb8⟩
      go_wp2_with fail
      have hb9 : Below V.heap.size V W8 := ((Below.refl _ _).drew).trans (hb8.mono (Nat.le_refl _))
      have k8 := KV.out W8 hb9
      refine hK.out _ _ k8 (fun hHeld2 => ?_)
      clear hK K hHeld hHeld2
      try simp only [List.getElem_toArray, List.getElem_cons_zero, List.getElem_cons_succ, Act.put, List.setIfInBounds_toArray, List.set_cons_zero, List.set_cons_succ]
      refine wpAnyH_done (by kernel_rfl) ?_ _
      have KU : Hid (∀ W, Below W8.heap.size W8 W → W.cell? ⟨tb, 2, none⟩ = some (.map (some zb)) ∧ W.heap[bw]? = some (.cells C 51 (0, 0)) ∧ W.heap[zb]? = some (.map (entG iv l).toArray c) ∧ Below w.heap.size w W) := by
        show ∀ W, _
        intro W hb
        exact KV.out W (hb9.trans (hb.mono hb9.size))
      clear hb8 hb9 k8 KV
      go_wp2_with fail
      refine wp_region_held_drew (S := (fun W => W.cell? ⟨tb, 2, none⟩ = some (.map (some zb)) ∧ W.heap[bw]? = some (.cells C 51 (0, 0)) ∧ W.heap[zb]? = some (.map (entG iv l).toArray c) ∧ Below w.heap.size w W)) (by kernel_rfl) ?_ (fun hHeld => ?_)
      · exact KU.out _ (Below.refl _ _).drew
      refine wpAnyH_take (i := 0) (v := ?_) rfl (by kernel_rfl) (by kernel_rfl) (by kernel_rfl) (fun _ _ _ h => h) (Or.inl ⟨by rfl, ?_⟩) (by assumption) ?_
      rotate_left
      · (intro w hSw; (try dsimp only at hSw); go_simp; try with_reducible rfl)
      try simp only [List.getElem_toArray, List.getElem_cons_zero, List.getElem_cons_succ, Act.put, List.setIfInBounds_toArray, List.set_cons_zero, List.set_cons_succ]
      refine wpAnyH_take (i := 1) (v := ?_) rfl (by kernel_rfl) (by kernel_rfl) (by kernel_rfl) (fun _ _ _ h => h) (Or.inl ⟨by rfl, ?_⟩) (by assumption) ?_
      rotate_left
      · (intro w hSw; (try dsimp only at hSw); go_simp; try with_reducible rfl)
      try simp only [List.getElem_toArray, List.getElem_cons_zero, List.getElem_cons_succ, Act.put, List.setIfInBounds_toArray, List.set_cons_zero, List.set_cons_succ]
      refine wpAnyH_take (i := 2) (v := ?_) rfl (by kernel_rfl) (by kernel_rfl) (by kernel_rfl) (fun _ _ _ h => h) (Or.inl ⟨by rfl, ?_⟩) (by assumption) ?_
      rotate_left
      · (intro w hSw; (try dsimp only at hSw); go_simp; try with_reducible rfl)
      try simp only [List.getElem_toArray, List.getElem_cons_zero, List.getElem_cons_succ, Act.put, List.setIfInBounds_toArray, List.set_cons_zero, List.set_cons_succ]
      refine wpAnyH_take (i := 3) (v := ?_) rfl (by kernel_rfl) (by kernel_rfl) (by kernel_rfl) (fun _ _ _ h => h) (Or.inl ⟨by rfl, ?_⟩) (by assumption) ?_
      rotate_left
      · (intro w hSw; (try dsimp only at hSw); go_simp; try with_reducible rfl)
      try simp only [List.getElem_toArray, List.getElem_cons_zero, List.getElem_cons_succ, Act.put, List.setIfInBounds_toArray, List.set_cons_zero, List.set_cons_succ]
      refine wpAnyH_take (i := 4) (v := ?_) rfl (by kernel_rfl) (by kernel_rfl) (by kernel_rfl) (fun _ _ _ h => h) (Or.inl ⟨by rfl, ?_⟩) (by assumption) ?_
      rotate_left
      · (intro w hSw; (try dsimp only at hSw); go_simp; try with_reducible rfl)
      try simp only [List.getElem_toArray, List.getElem_cons_zero, List.getElem_cons_succ, Act.put, List.setIfInBounds_toArray, List.set_cons_zero, List.set_cons_succ]
      refine wpAnyH_take (i := 5) (v := .agg #[.map none, .map none]) rfl (by kernel_rfl) (by kernel_rfl) (by kernel_rfl) (fun _ _ _ h => h) (yields_lookup (by rfl) 61 _ _ rfl (.map (some zb)) (iv z) _ rfl rfl (fun W h => HLK.out W h.2.2.1)) (by assumption) ?_
      try simp only [List.getElem_toArray, List.getElem_cons_zero, List.getElem_cons_succ, Act.put, List.setIfInBounds_toArray, List.set_cons_zero, List.set_cons_succ]
      refine wpAnyH_take (i := 6) (v := ?_) rfl (by kernel_rfl) (by kernel_rfl) (by kernel_rfl) (fun _ _ _ h => h) (Or.inl ⟨by rfl, ?_⟩) (by assumption) ?_
      rotate_left
      · (intro w hSw; (try dsimp only at hSw); go_simp; try with_reducible rfl)
      try simp only [List.getElem_toArray, List.getElem_cons_zero, List.getElem_cons_succ, Act.put, List.setIfInBounds_toArray, List.set_cons_zero, List.set_cons_succ]
      refine wpAnyH_take (i := 7) (v := tv r) rfl (by kernel_rfl) (by kernel_rfl) (by kernel_rfl) (fun _ _ _ h => h) (yields_loadA (by rfl) 44 _ rfl bw 6 5 rfl 51 C _ _ (fun _ h => h.2.1) HCR.out rfl Try.underlying44 rfl size5) (by assumption) ?_
      try simp only [List.getElem_toArray, List.getElem_cons_zero, List.getElem_cons_succ, Act.put, List.setIfInBounds_toArray, List.set_cons_zero, List.set_cons_succ]
      refine wpAnyH_ready (rs := [8]) (by kernel_rfl) (by simp) ?_
      refine AllReadyH.cons (o := _) rfl (fun K hK => ?_) AllReadyH.nil
      go_simp
      refine (HKN.out r _).mono ?_
      rintro e W9 ⟨rfl, hb8⟩
      go_wp2_with fail
      have hb9 : Below W8.heap.size W8 W9 := ((Below.refl _ _).drew).trans (hb8.mono (Nat.le_refl _))
      have k8 := KU.out W9 hb9
      refine hK.out _ _ k8 (fun hHeld2 => ?_)
      clear hK K hHeld hHeld2
      try simp only [List.getElem_toArray, List.getElem_cons_zero, List.getElem_cons_succ, Act.put, List.setIfInBounds_toArray, List.set_cons_zero, List.set_cons_succ]
      refine wpAnyH_done (by kernel_rfl) ?_ _
      have KT : Hid (∀ W, Below W9.heap.size W9 W → W.cell? ⟨tb, 2, none⟩ = some (.map (some zb)) ∧ W.heap[bw]? = some (.cells C 51 (0, 0)) ∧ W.heap[zb]? = some (.map (entG iv l).toArray c) ∧ Below w.heap.size w W) := by
        show ∀ W, _
        intro W hb
        exact KU.out W (hb9.trans (hb.mono hb9.size))
      clear hb8 hb9 k8 KU
      have k9 := KT.out W9 (Below.refl _ _)
      have Q9 : Hid _ := k9.2.1
      have QB9 : Hid _ := k9.2.2.2
      clear k9 KT
      go_wp2_with (first
        | refine wpList_load_row rfl 51 _ rfl bw rfl 51 C (0, 0) _ Q9.out Try.underlying51 rfl HICC.out ?_
        | fail)
      refine (HAD.out _ QB9.out).mono ?_
      rintro e Wz ⟨rfl, hz9⟩
      have HZ9 : Hid _ := hz9
      clear hz9
      go_wp2
      go_ret
      exact ⟨rfl, HZ9.out⟩
    · skip
      go_simp
      have hDfa : Below W2.heap.size W2 (World.alloc Wf (.cells #[.int .i64 0, .int .i64 0, .int .u32 0, .int .u32 0, .int .i64 0, .int .i64 0, .int .i64 0, .int .u32 0, .int .u32 0, .int .i64 0, .int .i64 0, .bool false, .int .i64 0] 51)) := hDf.trans ((below1 _ _).mono hDf.size)
      have hbw : (World.alloc Wf (.cells #[.int .i64 0, .int .i64 0, .int .u32 0, .int .u32 0, .int .i64 0, .int .i64 0, .int .i64 0, .int .u32 0, .int .u32 0, .int .i64 0, .int .i64 0, .bool false, .int .i64 0] 51)).heap[(World.heap Wf).size]? = some (.cells #[.int .i64 0, .int .i64 0, .int .u32 0, .int .u32 0, .int .i64 0, .int .i64 0, .int .i64 0, .int .u32 0, .int .u32 0, .int .i64 0, .int .i64 0, .bool false, .int .i64 0] 51 (0, 0)) := heap_alloc_new _ _
      refine hK.out _ _ (KC.out _ hDfa) (fun hHeld2 => ?_)
      clear hK K hHeld
      have hHeld := hHeld2
      clear hHeld2
      try simp only [List.getElem_toArray, List.getElem_cons_zero, List.getElem_cons_succ, Act.put, List.setIfInBounds_toArray, List.set_cons_zero, List.set_cons_succ]
      refine wpAnyH_ready (rs := [6]) (by kernel_rfl) (by simp) ?_
      refine AllReadyH.cons (o := _) rfl (fun K hK => ?_) AllReadyH.nil
      go_simp
      refine (HNE.out _ (KC.out _ hDfa).2.2).mono ?_
      rintro e Wp ⟨rfl, hwp⟩
      rw [hwp]
      clear hwp
      go_wp2_with fail
      refine hK.out _ _ (KC.out _ hDfa) (fun hHeld2 => ?_)
      clear hK K hHeld
      have hHeld := hHeld2
      clear hHeld2
      try simp only [List.getElem_toArray, List.getElem_cons_zero, List.getElem_cons_succ, Act.put, List.setIfInBounds_toArray, List.set_cons_zero, List.set_cons_succ]
      refine wpAnyH_take (i := 7) (v := .agg cn) rfl (by kernel_rfl) (by kernel_rfl) (by kernel_rfl) (fun _ _ _ h => h) (yields_build (by rfl) 51 _ rfl cn [(0, .int .i64 z), (1, tv o), (2, tv r), (4, .int .i64 ex)] (by kernel_rfl) HBU.out) (by assumption) ?_
      try simp only [List.getElem_toArray, List.getElem_cons_zero, List.getElem_cons_succ, Act.put, List.setIfInBounds_toArray, List.set_cons_zero, List.set_cons_succ]
      refine wpAnyH_ready (rs := [9]) (by kernel_rfl) (by simp) ?_
      refine AllReadyH.cons (o := _) rfl (fun K hK => ?_) AllReadyH.nil
      have hle : W2.heap.size ≤ (World.heap Wf).size := hDf.size
      refine wp_store_row 51 _ _ rfl (World.heap Wf).size #[.int .i64 0, .int .i64 0, .int .u32 0, .int .u32 0, .int .i64 0, .int .i64 0, .int .i64 0, .int .u32 0, .int .u32 0, .int .i64 0, .int .i64 0, .bool false, .int .i64 0] cn 51 rfl rfl hbw HIC.out (Eq.trans (b := 13) rfl HC13.out.symm) HC1.out ?_
      intro W6 z1 z2 z3 z4
      have hB6 : Below W2.heap.size W2 W6 := hDfa.trans (z4.mono hle)
      have k6 := KC.out _ hB6
      refine hK.out _ _ k6 (fun hHeld => ?_)
      clear hK K hHeld
      try simp only [List.getElem_toArray, List.getElem_cons_zero, List.getElem_cons_succ, Act.put, List.setIfInBounds_toArray, List.set_cons_zero, List.set_cons_succ]
      refine wpAnyH_done (by kernel_rfl) ?_ _
      have QB : Hid (Below w.heap.size w W6) := k6.2.2
      have hlw : w.heap.size < (World.heap Wf).size := by omega
      obtain ⟨bw, hbwE⟩ : ∃ bw, (World.heap Wf).size = bw := ⟨_, rfl⟩
      rw [hbwE] at z1 hlw ⊢
      have Q1 : Hid _ := z1
      clear z1 z2 z3 z4 hB6 k6 KC hle hbwE hbw
      go_wp2_with (first
        | refine wpList_load_row rfl 51 _ rfl bw rfl 51 cn (0, 0) _ Q1.out Try.underlying51 rfl HIC.out ?_
        | fail)
      refine (HIN.out _).mono ?_
      rintro e W7 ⟨rfl, hb7⟩
      have hN7 : W7.heap[bw]? = some (.cells cn 51 (0, 0)) := (hb7.block _ (lt_of_heap Q1.out)).trans Q1.out
      have c11 : W7.cell? ⟨bw, 11, none⟩ = some (.bool false) := (cell_row hN7 11).trans HC11.out
      have f11 := frozen_of_row W7 _ 11 _ _ hN7
      have hV : (W7.setCell ⟨bw, 11, none⟩ (.bool nat)).heap[bw]? = some (.cells C 51 (0, 0)) := by rw [← HCN.out]; exact row_setCell hN7 11 _
      have hBV : Below w.heap.size w (W7.setCell ⟨bw, 11, none⟩ (.bool nat)) := (QB.out.trans (hb7.mono QB.out.size)).setCell (Nat.le_of_lt hlw) _
      have HV : Hid _ := hV
      have HBV : Hid _ := hBV
      clear hb7 hN7 hV hBV QB Q1
      go_wp2_with fail
      generalize W7.setCell ⟨bw, 11, none⟩ (.bool nat) = V at *
      have KV : Hid (∀ W, Below V.heap.size V W → W.cell? ⟨tb, 2, none⟩ = some (.map (some zb)) ∧ W.heap[bw]? = some (.cells C 51 (0, 0)) ∧ W.heap[zb]? = some (.map (entG iv l).toArray c) ∧ Below w.heap.size w W) := by
        show ∀ W, _
        intro W hb
        have hbw := HBV.out.trans (hb.mono HBV.out.size)
        exact ⟨cell_row ((hbw.block _ hlt).trans HTB.out) 2, (hb.block _ (lt_of_heap HV.out)).trans HV.out, (hbw.block _ hlz).trans HZB.out, hbw⟩
      clear c11 f11 HV HBV
      refine wp_region_held_drew (S := (fun W => W.cell? ⟨tb, 2, none⟩ = some (.map (some zb)) ∧ W.heap[bw]? = some (.cells C 51 (0, 0)) ∧ W.heap[zb]? = some (.map (entG iv l).toArray c) ∧ Below w.heap.size w W)) (by kernel_rfl) ?_ (fun hHeld => ?_)
      · exact KV.out _ (Below.refl _ _).drew
      refine wpAnyH_take (i := 0) (v := ?_) rfl (by kernel_rfl) (by kernel_rfl) (by kernel_rfl) (fun _ _ _ h => h) (Or.inl ⟨by rfl, ?_⟩) (by assumption) ?_
      rotate_left
      · (intro w hSw; (try dsimp only at hSw); go_simp; try with_reducible rfl)
      try simp only [List.getElem_toArray, List.getElem_cons_zero, List.getElem_cons_succ, Act.put, List.setIfInBounds_toArray, List.set_cons_zero, List.set_cons_succ]
      refine wpAnyH_take (i := 1) (v := ?_) rfl (by kernel_rfl) (by kernel_rfl) (by kernel_rfl) (fun _ _ _ h => h) (Or.inl ⟨by rfl, ?_⟩) (by assumption) ?_
      rotate_left
      · (intro w hSw; (try dsimp only at hSw); go_simp; try with_reducible rfl)
      try simp only [List.getElem_toArray, List.getElem_cons_zero, List.getElem_cons_succ, Act.put, List.setIfInBounds_toArray, List.set_cons_zero, List.set_cons_succ]
      refine wpAnyH_take (i := 2) (v := ?_) rfl (by kernel_rfl) (by kernel_rfl) (by kernel_rfl) (fun _ _ _ h => h) (Or.inl ⟨by rfl, ?_⟩) (by assumption) ?_
      rotate_left
      · (intro w hSw; (try dsimp only at hSw); go_simp; try with_reducible rfl)
      try simp only [List.getElem_toArray, List.getElem_cons_zero, List.getElem_cons_succ, Act.put, List.setIfInBounds_toArray, List.set_cons_zero, List.set_cons_succ]
      refine wpAnyH_take (i := 3) (v := ?_) rfl (by kernel_rfl) (by kernel_rfl) (by kernel_rfl) (fun _ _ _ h => h) (Or.inl ⟨by rfl, ?_⟩) (by assumption) ?_
      rotate_left
      · (intro w hSw; (try dsimp only at hSw); go_simp; try with_reducible rfl)
      try simp only [List.getElem_toArray, List.getElem_cons_zero, List.getElem_cons_succ, Act.put, List.setIfInBounds_toArray, List.set_cons_zero, List.set_cons_succ]
      refine wpAnyH_take (i := 4) (v := ?_) rfl (by kernel_rfl) (by kernel_rfl) (by kernel_rfl) (fun _ _ _ h => h) (Or.inl ⟨by rfl, ?_⟩) (by assumption) ?_
      rotate_left
      · (intro w hSw; (try dsimp only at hSw); go_simp; try with_reducible rfl)
      try simp only [List.getElem_toArray, List.getElem_cons_zero, List.getElem_cons_succ, Act.put, List.setIfInBounds_toArray, List.set_cons_zero, List.set_cons_succ]
      refine wpAnyH_take (i := 5) (v := .agg #[.map none, .map none]) rfl (by kernel_rfl) (by kernel_rfl) (by kernel_rfl) (fun _ _ _ h => h) (yields_lookup (by rfl) 61 _ _ rfl (.map (some zb)) (iv z) _ rfl rfl (fun W h => HLK.out W h.2.2.1)) (by assumption) ?_
      try simp only [List.getElem_toArray, List.getElem_cons_zero, List.getElem_cons_succ, Act.put, List.setIfInBounds_toArray, List.set_cons_zero, List.set_cons_succ]
      refine wpAnyH_take (i := 6) (v := ?_) rfl (by kernel_rfl) (by kernel_rfl) (by kernel_rfl) (fun _ _ _ h => h) (Or.inl ⟨by rfl, ?_⟩) (by assumption) ?_
      rotate_left
      · (intro w hSw; (try dsimp only at hSw); go_simp; try with_reducible rfl)
      try simp only [List.getElem_toArray, List.getElem_cons_zero, List.getElem_cons_succ, Act.put, List.setIfInBounds_toArray, List.set_cons_zero, List.set_cons_succ]
      refine wpAnyH_take (i := 7) (v := tv o) rfl (by kernel_rfl) (by kernel_rfl) (by kernel_rfl) (fun _ _ _ h => h) (yields_loadA (by rfl) 44 _ rfl bw 1 5 rfl 51 C _ _ (fun _ h => h.2.1) HCO.out rfl Try.underlying44 rfl size5) (by assumption) ?_
      try simp only [List.getElem_toArray, List.getElem_cons_zero, List.getElem_cons_succ, Act.put, List.setIfInBounds_toArray, List.set_cons_zero, List.set_cons_succ]
      refine wpAnyH_ready (rs := [8]) (by kernel_rfl) (by simp) ?_
      refine AllReadyH.cons (o := _) rfl (fun K hK => ?_) AllReadyH.nil
      go_simp
      refine (HKN.out o _).mono ?_
      rintro e W8 ⟨rfl, hb8⟩
      go_wp2_with fail
      have hb9 : Below V.heap.size V W8 := ((Below.refl _ _).drew).trans (hb8.mono (Nat.le_refl _))
      have k8 := KV.out W8 hb9
      refine hK.out _ _ k8 (fun hHeld2 => ?_)
      clear hK K hHeld hHeld2
      try simp only [List.getElem_toArray, List.getElem_cons_zero, List.getElem_cons_succ, Act.put, List.setIfInBounds_toArray, List.set_cons_zero, List.set_cons_succ]
      refine wpAnyH_done (by kernel_rfl) ?_ _
      have KU : Hid (∀ W, Below W8.heap.size W8 W → W.cell? ⟨tb, 2, none⟩ = some (.map (some zb)) ∧ W.heap[bw]? = some (.cells C 51 (0, 0)) ∧ W.heap[zb]? = some (.map (entG iv l).toArray c) ∧ Below w.heap.size w W) := by
        show ∀ W, _
        intro W hb
        exact KV.out W (hb9.trans (hb.mono hb9.size))
      clear hb8 hb9 k8 KV
      go_wp2_with fail
      refine wp_region_held_drew (S := (fun W => W.cell? ⟨tb, 2, none⟩ = some (.map (some zb)) ∧ W.heap[bw]? = some (.cells C 51 (0, 0)) ∧ W.heap[zb]? = some (.map (entG iv l).toArray c) ∧ Below w.heap.size w W)) (by kernel_rfl) ?_ (fun hHeld => ?_)
      · exact KU.out _ (Below.refl _ _).drew
      refine wpAnyH_take (i := 0) (v := ?_) rfl (by kernel_rfl) (by kernel_rfl) (by kernel_rfl) (fun _ _ _ h => h) (Or.inl ⟨by rfl, ?_⟩) (by assumption) ?_
      rotate_left
      · (intro w hSw; (try dsimp only at hSw); go_simp; try with_reducible rfl)
      try simp only [List.getElem_toArray, List.getElem_cons_zero, List.getElem_cons_succ, Act.put, List.setIfInBounds_toArray, List.set_cons_zero, List.set_cons_succ]
      refine wpAnyH_take (i := 1) (v := ?_) rfl (by kernel_rfl) (by kernel_rfl) (by kernel_rfl) (fun _ _ _ h => h) (Or.inl ⟨by rfl, ?_⟩) (by assumption) ?_
      rotate_left
      · (intro w hSw; (try dsimp only at hSw); go_simp; try with_reducible rfl)
      try simp only [List.getElem_toArray, List.getElem_cons_zero, List.getElem_cons_succ, Act.put, List.setIfInBounds_toArray, List.set_cons_zero, List.set_cons_succ]
      refine wpAnyH_take (i := 2) (v := ?_) rfl (by kernel_rfl) (by kernel_rfl) (by kernel_rfl) (fun _ _ _ h => h) (Or.inl ⟨by rfl, ?_⟩) (by assumption) ?_
      rotate_left
      · (intro w hSw; (try dsimp only at hSw); go_simp; try with_reducible rfl)
      try simp only [List.getElem_toArray, List.getElem_cons_zero, List.getElem_cons_succ, Act.put, List.setIfInBounds_toArray, List.set_cons_zero, List.set_cons_succ]
      refine wpAnyH_take (i := 3) (v := ?_) rfl (by kernel_rfl) (by kernel_rfl) (by kernel_rfl) (fun _ _ _ h => h) (Or.inl ⟨by rfl, ?_⟩) (by assumption) ?_
      rotate_left
      · (intro w hSw; (try dsimp only at hSw); go_simp; try with_reducible rfl)
      try simp only [List.getElem_toArray, List.getElem_cons_zero, List.getElem_cons_succ, Act.put, List.setIfInBounds_toArray, List.set_cons_zero, List.set_cons_succ]
      refine wpAnyH_take (i := 4) (v := ?_) rfl (by kernel_rfl) (by kernel_rfl) (by kernel_rfl) (fun _ _ _ h => h) (Or.inl ⟨by rfl, ?_⟩) (by assumption) ?_
      rotate_left
      · (intro w hSw; (try dsimp only at hSw); go_simp; try with_reducible rfl)
      try simp only [List.getElem_toArray, List.getElem_cons_zero, List.getElem_cons_succ, Act.put, List.setIfInBounds_toArray, List.set_cons_zero, List.set_cons_succ]
      refine wpAnyH_take (i := 5) (v := .agg #[.map none, .map none]) rfl (by kernel_rfl) (by kernel_rfl) (by kernel_rfl) (fun _ _ _ h => h) (yields_lookup (by rfl) 61 _ _ rfl (.map (some zb)) (iv z) _ rfl rfl (fun W h => HLK.out W h.2.2.1)) (by assumption) ?_
      try simp only [List.getElem_toArray, List.getElem_cons_zero, List.getElem_cons_succ, Act.put, List.setIfInBounds_toArray, List.set_cons_zero, List.set_cons_succ]
      refine wpAnyH_take (i := 6) (v := ?_) rfl (by kernel_rfl) (by kernel_rfl) (by kernel_rfl) (fun _ _ _ h => h) (Or.inl ⟨by rfl, ?_⟩) (by assumption) ?_
      rotate_left
      · (intro w hSw; (try dsimp only at hSw); go_simp; try with_reducible rfl)
      try simp only [List.getElem_toArray, List.getElem_cons_zero, List.getElem_cons_succ, Act.put, List.setIfInBounds_toArray, List.set_cons_zero, List.set_cons_succ]
      refine wpAnyH_take (i := 7) (v := tv r) rfl (by kernel_rfl) (by kernel_rfl) (by kernel_rfl) (fun _ _ _ h => h) (yields_loadA (by rfl) 44 _ rfl bw 6 5 rfl 51 C _ _ (fun _ h => h.2.1) HCR.out rfl Try.underlying44 rfl size5) (by assumption) ?_
      try simp only [List.getElem_toArray, List.getElem_cons_zero, List.getElem_cons_succ, Act.put, List.setIfInBounds_toArray, List.set_cons_zero, List.set_cons_succ]
      refine wpAnyH_ready (rs := [8]) (by kernel_rfl) (by simp) ?_
      refine AllReadyH.cons (o := _) rfl (fun K hK => ?_) AllReadyH.nil
      go_simp
      refine (HKN.out r _).mono ?_
      rintro e W9 ⟨rfl, hb8⟩
      go_wp2_with fail
      have hb9 : Below W8.heap.size W8 W9 := ((Below.refl _ _).drew).trans (hb8.mono (Nat.le_refl _))
      have k8 := KU.out W9 hb9
      refine hK.out _ _ k8 (fun hHeld2 => ?_)
      clear hK K hHeld hHeld2
      try simp only [List.getElem_toArray, List.getElem_cons_zero, List.getElem_cons_succ, Act.put, List.setIfInBounds_toArray, List.set_cons_zero, List.set_cons_succ]
      refine wpAnyH_done (by kernel_rfl) ?_ _
      have KT : Hid (∀ W, Below W9.heap.size W9 W → W.cell? ⟨tb, 2, none⟩ = some (.map (some zb)) ∧ W.heap[bw]? = some (.cells C 51 (0, 0)) ∧ W.heap[zb]? = some (.map (entG iv l).toArray c) ∧ Below w.heap.size w W) := by
        show ∀ W, _
        intro W hb
        exact KU.out W (hb9.trans (hb.mono hb9.size))
      clear hb8 hb9 k8 KU
      have k9 := KT.out W9 (Below.refl _ _)
      have Q9 : Hid _ := k9.2.1
      have QB9 : Hid _ := k9.2.2.2
      clear k9 KT
      go_wp2_with (first
        | refine wpList_load_row rfl 51 _ rfl bw rfl 51 C (0, 0) _ Q9.out Try.underlying51 rfl HICC.out ?_
        | fail)
      refine (HAD.out _ QB9.out).mono ?_
      rintro e Wz ⟨rfl, hz9⟩
      have HZ9 : Hid _ := hz9
      clear hz9
      go_wp2
      go_ret
      exact ⟨rfl, HZ9.out⟩
  · skip
    go_simp
    have hDa : Below W2.heap.size W2 (World.alloc W2.drew (.cells #[.int .i64 0, .int .i64 0, .int .u32 0, .int .u32 0, .int .i64 0, .int .i64 0, .int .i64 0, .int .u32 0, .int .u32 0, .int .i64 0, .int .i64 0, .bool false, .int .i64 0] 51)) := hD.trans ((below1 _ _).mono hD.size)
    have hbw : (World.alloc W2.drew (.cells #[.int .i64 0, .int .i64 0, .int .u32 0, .int .u32 0, .int .i64 0, .int .i64 0, .int .i64 0, .int .u32 0, .int .u32 0, .int .i64 0, .int .i64 0, .bool false, .int .i64 0] 51)).heap[(World.heap W2.drew).size]? = some (.cells #[.int .i64 0, .int .i64 0, .int .u32 0, .int .u32 0, .int .i64 0, .int .i64 0, .int .i64 0, .int .u32 0, .int .u32 0, .int .i64 0, .int .i64 0, .bool false, .int .i64 0] 51 (0, 0)) := heap_alloc_new _ _
    refine hK.out _ _ (KC.out _ hDa) (fun hHeld2 => ?_)
    clear hK K hHeld
    have hHeld := hHeld2
    clear hHeld2
    try simp only [List.getElem_toArray, List.getElem_cons_zero, List.getElem_cons_succ, Act.put, List.setIfInBounds_toArray, List.set_cons_zero, List.set_cons_succ]
    refine wpAnyH_ready (rs := [4]) (by kernel_rfl) (by simp) ?_
    refine AllReadyH.cons (o := _) rfl (fun K hK => ?_) AllReadyH.nil
    go_simp
    refine (HTU.out _).mono ?_
    rintro e Wf ⟨rfl, hbf⟩
    go_wp2_with fail
    have hDf : Below W2.heap.size W2 Wf := hDa.trans (hbf.mono hDa.size)
    refine hK.out _ _ (KC.out _ hDf) (fun hHeld2 => ?_)
    clear hK K hHeld
    have hHeld := hHeld2
    clear hHeld2
    try simp only [List.getElem_toArray, List.getElem_cons_zero, List.getElem_cons_succ, Act.put, List.setIfInBounds_toArray, List.set_cons_zero, List.set_cons_succ]
    have hbw2 : Wf.heap[W1.heap.size + 1]? = some (.cells #[.int .i64 0, .int .i64 0, .int .u32 0, .int .u32 0, .int .i64 0, .int .i64 0, .int .i64 0, .int .u32 0, .int .u32 0, .int .i64 0, .int .i64 0, .bool false, .int .i64 0] 51 (0, 0)) := by rw [← hz2]; exact (hbf.block _ (lt_of_heap hbw)).trans hbw
    refine wpAnyH_ready (rs := [6]) (by kernel_rfl) (by simp) ?_
    refine AllReadyH.cons (o := _) rfl (fun K hK => ?_) AllReadyH.nil
    go_simp
    refine (HNE.out _ (KC.out _ hDf).2.2).mono ?_
    rintro e Wp ⟨rfl, hwp⟩
    rw [hwp]
    clear hwp
    go_wp2_with fail
    refine hK.out _ _ (KC.out _ hDf) (fun hHeld2 => ?_)
    clear hK K hHeld
    have hHeld := hHeld2
    clear hHeld2
    try simp only [List.getElem_toArray, List.getElem_cons_zero, List.getElem_cons_succ, Act.put, List.setIfInBounds_toArray, List.set_cons_zero, List.set_cons_succ]
    refine wpAnyH_take (i := 7) (v := .agg cn) rfl (by kernel_rfl) (by kernel_rfl) (by kernel_rfl) (fun _ _ _ h => h) (yields_build (by rfl) 51 _ rfl cn [(0, .int .i64 z), (1, tv o), (2, tv r), (4, .int .i64 ex)] (by kernel_rfl) HBU.out) (by assumption) ?_
    try simp only [List.getElem_toArray, List.getElem_cons_zero, List.getElem_cons_succ, Act.put, List.setIfInBounds_toArray, List.set_cons_zero, List.set_cons_succ]
    refine wpAnyH_ready (rs := [9]) (by kernel_rfl) (by simp) ?_
    refine AllReadyH.cons (o := _) rfl (fun K hK => ?_) AllReadyH.nil
    have hle : W2.heap.size ≤ (W1.heap.size + 1) := (by omega)
    refine wp_store_row 51 _ _ rfl (W1.heap.size + 1) #[.int .i64 0, .int .i64 0, .int .u32 0, .int .u32 0, .int .i64 0, .int .i64 0, .int .i64 0, .int .u32 0, .int .u32 0, .int .i64 0, .int .i64 0, .bool false, .int .i64 0] cn 51 rfl rfl hbw2 HIC.out (Eq.trans (b := 13) rfl HC13.out.symm) HC1.out ?_
    intro W6 z1 z2 z3 z4
    have hB6 : Below W2.heap.size W2 W6 := hDf.trans (z4.mono hle)
    have k6 := KC.out _ hB6
    refine hK.out _ _ k6 (fun hHeld => ?_)
    clear hK K hHeld
    try simp only [List.getElem_toArray, List.getElem_cons_zero, List.getElem_cons_succ, Act.put, List.setIfInBounds_toArray, List.set_cons_zero, List.set_cons_succ]
    refine wpAnyH_done (by kernel_rfl) ?_ _
    have QB : Hid (Below w.heap.size w W6) := k6.2.2
    have hlw : w.heap.size < (W1.heap.size + 1) := by omega
    obtain ⟨bw, hbwE⟩ : ∃ bw, (W1.heap.size + 1) = bw := ⟨_, rfl⟩
    rw [hbwE] at z1 hlw ⊢
    have Q1 : Hid _ := z1
    clear z1 z2 z3 z4 hB6 k6 KC hle hbwE hbw
    go_wp2_with (first
      | refine wpList_load_row rfl 51 _ rfl bw rfl 51 cn (0, 0) _ Q1.out Try.underlying51 rfl HIC.out ?_
      | fail)
    refine (HIN.out _).mono ?_
    rintro e W7 ⟨rfl, hb7⟩
    have hN7 : W7.heap[bw]? = some (.cells cn 51 (0, 0)) := (hb7.block _ (lt_of_heap Q1.out)).trans Q1.out
    have c11 : W7.cell? ⟨bw, 11, none⟩ = some (.bool false) := (cell_row hN7 11).trans HC11.out
    have f11 := frozen_of_row W7 _ 11 _ _ hN7
    have hV : (W7.setCell ⟨bw, 11, none⟩ (.bool nat)).heap[bw]? = some (.cells C 51 (0, 0)) := by rw [← HCN.out]; exact row_setCell hN7 11 _
    have hBV : Below w.heap.size w (W7.setCell ⟨bw, 11, none⟩ (.bool nat)) := (QB.out.trans (hb7.mono QB.out.size)).setCell (Nat.le_of_lt hlw) _
    have HV : Hid _ := hV
    have HBV : Hid _ := hBV
    clear hb7 hN7 hV hBV QB Q1
    go_wp2_with fail
    generalize W7.setCell ⟨bw, 11, none⟩ (.bool nat) = V at *
    have KV : Hid (∀ W, Below V.heap.size V W → W.cell? ⟨tb, 2, none⟩ = some (.map (some zb)) ∧ W.heap[bw]? = some (.cells C 51 (0, 0)) ∧ W.heap[zb]? = some (.map (entG iv l).toArray c) ∧ Below w.heap.size w W) := by
      show ∀ W, _
      intro W hb
      have hbw := HBV.out.trans (hb.mono HBV.out.size)
      exact ⟨cell_row ((hbw.block _ hlt).trans HTB.out) 2, (hb.block _ (lt_of_heap HV.out)).trans HV.out, (hbw.block _ hlz).trans HZB.out, hbw⟩
    clear c11 f11 HV HBV
    refine wp_region_held_drew (S := (fun W => W.cell? ⟨tb, 2, none⟩ = some (.map (some zb)) ∧ W.heap[bw]? = some (.cells C 51 (0, 0)) ∧ W.heap[zb]? = some (.map (entG iv l).toArray c) ∧ Below w.heap.size w W)) (by kernel_rfl) ?_ (fun hHeld => ?_)
    · exact KV.out _ (Below.refl _ _).drew
    refine wpAnyH_take (i := 0) (v := ?_) rfl (by kernel_rfl) (by kernel_rfl) (by kernel_rfl) (fun _ _ _ h => h) (Or.inl ⟨by rfl, ?_⟩) (by assumption) ?_
    rotate_left
    · (intro w hSw; (try dsimp only at hSw); go_simp; try with_reducible rfl)
    try simp only [List.getElem_toArray, List.getElem_cons_zero, List.getElem_cons_succ, Act.put, List.setIfInBounds_toArray, List.set_cons_zero, List.set_cons_succ]
    refine wpAnyH_take (i := 1) (v := ?_) rfl (by kernel_rfl) (by kernel_rfl) (by kernel_rfl) (fun _ _ _ h => h) (Or.inl ⟨by rfl, ?_⟩) (by assumption) ?_
    rotate_left
    · (intro w hSw; (try dsimp only at hSw); go_simp; try with_reducible rfl)
    try simp only [List.getElem_toArray, List.getElem_cons_zero, List.getElem_cons_succ, Act.put, List.setIfInBounds_toArray, List.set_cons_zero, List.set_cons_succ]
    refine wpAnyH_take (i := 2) (v := ?_) rfl (by kernel_rfl) (by kernel_rfl) (by kernel_rfl) (fun _ _ _ h => h) (Or.inl ⟨by rfl, ?_⟩) (by assumption) ?_
    rotate_left
    · (intro w hSw; (try dsimp only at hSw); go_simp; try with_reducible rfl)
    try simp only [List.getElem_toArray, List.getElem_cons_zero, List.getElem_cons_succ, Act.put, List.setIfInBounds_toArray, List.set_cons_zero, List.set_cons_succ]
    refine wpAnyH_take (i := 3) (v := ?_) rfl (by kernel_rfl) (by kernel_rfl) (by kernel_rfl) (fun _ _ _ h => h) (Or.inl ⟨by rfl, ?_⟩) (by assumption) ?_
    rotate_left
    · (intro w hSw; (try dsimp only at hSw); go_simp; try with_reducible rfl)
    try simp only [List.getElem_toArray, List.getElem_cons_zero, List.getElem_cons_succ, Act.put, List.setIfInBounds_toArray, List.set_cons_zero, List.set_cons_succ]
    refine wpAnyH_take (i := 4) (v := ?_) rfl (by kernel_rfl) (by kernel_rfl) (by kernel_rfl) (fun _ _ _ h => h) (Or.inl ⟨by rfl, ?_⟩) (by assumption) ?_
    rotate_left
    · (intro w hSw; (try dsimp only at hSw); go_simp; try with_reducible rfl)
    try simp only [List.getElem_toArray, List.getElem_cons_zero, List.getElem_cons_succ, Act.put, List.setIfInBounds_toArray, List.set_cons_zero, List.set_cons_succ]
    refine wpAnyH_take (i := 5) (v := .agg #[.map none, .map none]) rfl (by kernel_rfl) (by kernel_rfl) (by kernel_rfl) (fun _ _ _ h => h) (yields_lookup (by rfl) 61 _ _ rfl (.map (some zb)) (iv z) _ rfl rfl (fun W h => HLK.out W h.2.2.1)) (by assumption) ?_
    try simp only [List.getElem_toArray, List.getElem_cons_zero, List.getElem_cons_succ, Act.put, List.setIfInBounds_toArray, List.set_cons_zero, List.set_cons_succ]
    refine wpAnyH_take (i := 6) (v := ?_) rfl (by kernel_rfl) (by kernel_rfl) (by kernel_rfl) (fun _ _ _ h => h) (Or.inl ⟨by rfl, ?_⟩) (by assumption) ?_
    rotate_left
    · (intro w hSw; (try dsimp only at hSw); go_simp; try with_reducible rfl)
    try simp only [List.getElem_toArray, List.getElem_cons_zero, List.getElem_cons_succ, Act.put, List.setIfInBounds_toArray, List.set_cons_zero, List.set_cons_succ]
    refine wpAnyH_take (i := 7) (v := tv o) rfl (by kernel_rfl) (by kernel_rfl) (by kernel_rfl) (fun _ _ _ h => h) (yields_loadA (by rfl) 44 _ rfl bw 1 5 rfl 51 C _ _ (fun _ h => h.2.1) HCO.out rfl Try.underlying44 rfl size5) (by assumption) ?_
    try simp only [List.getElem_toArray, List.getElem_cons_zero, List.getElem_cons_succ, Act.put, List.setIfInBounds_toArray, List.set_cons_zero, List.set_cons_succ]
    refine wpAnyH_ready (rs := [8]) (by kernel_rfl) (by simp) ?_
    refine AllReadyH.cons (o := _) rfl (fun K hK => ?_) AllReadyH.nil
    go_simp
    refine (HKN.out o _).mono ?_
    rintro e W8 ⟨rfl, hb8⟩
    go_wp2_with fail
    have hb9 : Below V.heap.size V W8 := ((Below.refl _ _).drew).trans (hb8.mono (Nat.le_refl _))
    have k8 := KV.out W8 hb9
    refine hK.out _ _ k8 (fun hHeld2 => ?_)
    clear hK K hHeld hHeld2
    try simp only [List.getElem_toArray, List.getElem_cons_zero, List.getElem_cons_succ, Act.put, List.setIfInBounds_toArray, List.set_cons_zero, List.set_cons_succ]
    refine wpAnyH_done (by kernel_rfl) ?_ _
    have KU : Hid (∀ W, Below W8.heap.size W8 W → W.cell? ⟨tb, 2, none⟩ = some (.map (some zb)) ∧ W.heap[bw]? = some (.cells C 51 (0, 0)) ∧ W.heap[zb]? = some (.map (entG iv l).toArray c) ∧ Below w.heap.size w W) := by
      show ∀ W, _
      intro W hb
      exact KV.out W (hb9.trans (hb.mono hb9.size))
    clear hb8 hb9 k8 KV
    go_wp2_with fail
    refine wp_region_held_drew (S := (fun W => W.cell? ⟨tb, 2, none⟩ = some (.map (some zb)) ∧ W.heap[bw]? = some (.cells C 51 (0, 0)) ∧ W.heap[zb]? = some (.map (entG iv l).toArray c) ∧ Below w.heap.size w W)) (by kernel_rfl) ?_ (fun hHeld => ?_)
    · exact KU.out _ (Below.refl _ _).drew
    refine wpAnyH_take (i := 0) (v := ?_) rfl (by kernel_rfl) (by kernel_rfl) (by kernel_rfl) (fun _ _ _ h => h) (Or.inl ⟨by rfl, ?_⟩) (by assumption) ?_
    rotate_left
    · (intro w hSw; (try dsimp only at hSw); go_simp; try with_reducible rfl)
    try simp only [List.getElem_toArray, List.getElem_cons_zero, List.getElem_cons_succ, Act.put, List.setIfInBounds_toArray, List.set_cons_zero, List.set_cons_succ]
    refine wpAnyH_take (i := 1) (v := ?_) rfl (by kernel_rfl) (by kernel_rfl) (by kernel_rfl) (fun _ _ _ h => h) (Or.inl ⟨by rfl, ?_⟩) (by assumption) ?_
    rotate_left
    · (intro w hSw; (try dsimp only at hSw); go_simp; try with_reducible rfl)
    try simp only [List.getElem_toArray, List.getElem_cons_zero, List.getElem_cons_succ, Act.put, List.setIfInBounds_toArray, List.set_cons_zero, List.set_cons_succ]
    refine wpAnyH_take (i := 2) (v := ?_) rfl (by kernel_rfl) (by kernel_rfl) (by kernel_rfl) (fun _ _ _ h => h) (Or.inl ⟨by rfl, ?_⟩) (by assumption) ?_
    rotate_left
    · (intro w hSw; (try dsimp only at hSw); go_simp; try with_reducible rfl)
    try simp only [List.getElem_toArray, List.getElem_cons_zero, List.getElem_cons_succ, Act.put, List.setIfInBounds_toArray, List.set_cons_zero, List.set_cons_succ]
    refine wpAnyH_take (i := 3) (v := ?_) rfl (by kernel_rfl) (by kernel_rfl) (by kernel_rfl) (fun _ _ _ h => h) (Or.inl ⟨by rfl, ?_⟩) (by assumption) ?_
    rotate_left
    · (intro w hSw; (try dsimp only at hSw); go_simp; try with_reducible rfl)
    try simp only [List.getElem_toArray, List.getElem_cons_zero, List.getElem_cons_succ, Act.put, List.setIfInBounds_toArray, List.set_cons_zero, List.set_cons_succ]
    refine wpAnyH_take (i := 4) (v := ?_) rfl (by kernel_rfl) (by kernel_rfl) (by kernel_rfl) (fun _ _ _ h => h) (Or.inl ⟨by rfl, ?_⟩) (by assumption) ?_
    rotate_left
    · (intro w hSw; (try dsimp only at hSw); go_simp; try with_reducible rfl)
    try simp only [List.getElem_toArray, List.getElem_cons_zero, List.getElem_cons_succ, Act.put, List.setIfInBounds_toArray, List.set_cons_zero, List.set_cons_succ]
    refine wpAnyH_take (i := 5) (v := .agg #[.map none, .map none]) rfl (by kernel_rfl) (by kernel_rfl) (by kernel_rfl) (fun _ _ _ h => h) (yields_lookup (by rfl) 61 _ _ rfl (.map (some zb)) (iv z) _ rfl rfl (fun W h => HLK.out W h.2.2.1)) (by assumption) ?_
    try simp only [List.getElem_toArray, List.getElem_cons_zero, List.getElem_cons_succ, Act.put, List.setIfInBounds_toArray, List.set_cons_zero, List.set_cons_succ]
    refine wpAnyH_take (i := 6) (v := ?_) rfl (by kernel_rfl) (by kernel_rfl) (by kernel_rfl) (fun _ _ _ h => h) (Or.inl ⟨by rfl, ?_⟩) (by assumption) ?_
    rotate_left
    · (intro w hSw; (try dsimp only at hSw); go_simp; try with_reducible rfl)
    try simp only [List.getElem_toArray, List.getElem_cons_zero, List.getElem_cons_succ, Act.put, List.setIfInBounds_toArray, List.set_cons_zero, List.set_cons_succ]
    refine wpAnyH_take (i := 7) (v := tv r) rfl (by kernel_rfl) (by kernel_rfl) (by kernel_rfl) (fun _ _ _ h => h) (yields_loadA (by rfl) 44 _ rfl bw 6 5 rfl 51 C _ _ (fun _ h => h.2.1) HCR.out rfl Try.underlying44 rfl size5) (by assumption) ?_
    try simp only [List.getElem_toArray, List.getElem_cons_zero, List.getElem_cons_succ, Act.put, List.setIfInBounds_toArray, List.set_cons_zero, List.set_cons_succ]
    refine wpAnyH_ready (rs := [8]) (by kernel_rfl) (by simp) ?_
    refine AllReadyH.cons (o := _) rfl (fun K hK => ?_) AllReadyH.nil
    go_simp
    refine (HKN.out r _).mono ?_
    rintro e W9 ⟨rfl, hb8⟩
    go_wp2_with fail
    have hb9 : Below W8.heap.size W8 W9 := ((Below.refl _ _).drew).trans (hb8.mono (Nat.le_refl _))
    have k8 := KU.out W9 hb9
    refine hK.out _ _ k8 (fun hHeld2 => ?_)
    clear hK K hHeld hHeld2
    try simp only [List.getElem_toArray, List.getElem_cons_zero, List.getElem_cons_succ, Act.put, List.setIfInBounds_toArray, List.set_cons_zero, List.set_cons_succ]
    refine wpAnyH_done (by kernel_rfl) ?_ _
    have KT : Hid (∀ W, Below W9.heap.size W9 W → W.cell? ⟨tb, 2, none⟩ = some (.map (some zb)) ∧ W.heap[bw]? = some (.cells C 51 (0, 0)) ∧ W.heap[zb]? = some (.map (entG iv l).toArray c) ∧ Below w.heap.size w W) := by
      show ∀ W, _
      intro W hb
      exact KU.out W (hb9.trans (hb.mono hb9.size))
    clear hb8 hb9 k8 KU
    have k9 := KT.out W9 (Below.refl _ _)
    have Q9 : Hid _ := k9.2.1
    have QB9 : Hid _ := k9.2.2.2
    clear k9 KT
    go_wp2_with (first
      | refine wpList_load_row rfl 51 _ rfl bw rfl 51 C (0, 0) _ Q9.out Try.underlying51 rfl HICC.out ?_
      | fail)
    refine (HAD.out _ QB9.out).mono ?_
    rintro e Wz ⟨rfl, hz9⟩
    have HZ9 : Hid _ := hz9
    clear hz9
    go_wp2
    go_ret
    exact ⟨rfl, HZ9.out⟩
end Go.Proofs.Ytjjehncnjcepkaa
