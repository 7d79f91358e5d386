/- pick of package act. Conditions: the State's cells are of their kinds; the ways can be read. -/
import Derived.Test.YtikbjckcnidimaaGreatDoorPC
import Derived.Test.YtikbjckcnidimaaGreatDoorFV
import Derived.Deep.RegionWith
namespace Go.Proofs.YtikbjckcnidimaaGreatDoor
open Go.RowKit
set_option maxRecDepth 20000 in
set_option maxHeartbeats 1000000 in
theorem pick_no (A cs : Array Value) (h : St cs) (hh : hasF 19 cs = false) (w : World) : Calls Tryz.prog 66 #[.agg cs, .agg A] w fun e w' => e = .returned (.tuple #[.agg zeroC, .int .i64 81]) ∧ Below w.heap.size w w' := by
  have HST : Hid _ := h
  have HH : Hid _ := hh
  have HS3 : Hid _ := three_first w (.cells cs 50) (.cells A 29) (.cells zeroC 50)
  have HZ3 : Hid _ := three_last w (.cells cs 50) (.cells A 29) (.cells zeroC 50)
  clear h hh
  go_enter Tryz.func66, Tryz.ntmps66
  go_wp2_with (first
    | refine wpList_load_row rfl 50 _ rfl w.heap.size rfl 50 cs (0, 0) _ HS3.out Tryz.underlying50 rfl (info_size HST.out.size) ?_
    | fail)
  refine (has_any 19 (by omega) (by omega) cs HST.out _).mono ?_
  rw [HH.out]
  rintro e W1 ⟨rfl, hb1⟩
  have hZ1 : W1.heap[w.heap.size + 1 + 1]? = some (.cells zeroC 50 (0, 0)) := (hb1.block _ (by simp)).trans HZ3.out
  have HZ1 : Hid _ := hZ1
  have HB1 : Hid (Below w.heap.size w W1) := (below3 w _ _ _).trans (hb1.mono (by simp; omega))
  clear hb1 hZ1
  go_wp2_with (first
    | refine wpList_build_as rfl 50 _ rfl zeroC (by kernel_rfl) ?_
    | refine wpList_store_row rfl 50 _ _ rfl (w.heap.size + 1 + 1) zeroC zeroC 50 rfl rfl HZ1.out size49 rfl zeroC_one ?_
    | fail)
  intro W9 z1 z2 z3 z4
  go_wp2
  exact bodyPost_ret (results_state (p := 4) (u := 5) rfl _ _ (w.heap.size + 1 + 1) zeroC rfl z1 zeroC_size) rfl ⟨rfl, HB1.out.trans (z4.mono (by omega))⟩
/-- The State that goes to a way. -/
def wayC (cs : Array Value) (ip port : Int) : Array Value := (cs.setIfInBounds 18 (.int .u32 ip)).setIfInBounds 25 (.int .i64 port)
theorem way_st {cs : Array Value} (h : St cs) (ip port : Int) (h1 : 0 ≤ ip ∧ ip ≤ 4294967295) (h2 : -9223372036854775808 ≤ port ∧ port ≤ 9223372036854775807) : St (wayC cs ip port) :=
  st_put (st_put h 18 (.int .u32 ip) (by decide) rfl (fun h => absurd h (by decide)) (fun h => absurd h (by decide)) (fun _ => ⟨ip, rfl, h1.1, h1.2⟩) (fun h => absurd h (by decide)) (fun h => absurd h (by decide))) 25 (.int .i64 port) (by decide) rfl (fun h => absurd h (by decide)) (fun _ => ⟨port, rfl, h2.1, h2.2⟩) (fun h => absurd h (by decide)) (fun h => absurd h (by decide)) (fun h => absurd h (by decide))
theorem ext36 {cs : Array Value} (h : cs.size = 49) (i : Nat) (hi : i < 36) : (cs.extract 0 (0 + 36))[i]? = cs[i]? := by
  rw [Array.getElem?_extract_of_lt (by omega), ← Array.getElem?_eq_getElem, Nat.zero_add]
theorem yields_loadH {ops : Array Oper} {S : World → Prop} {op : Oper} {a : Act} (hw : Region.wanted op (yielded ops a.tmps) = true) (ty : TypeId) (x : Operand) (ho : op.op = .load ty x)
    (b n : Nat) (hx : a.eval x = .pointer (some ⟨b, 0, none⟩)) (t : TypeId) (cs L : Array Value) (d : TypeDesc) (hS : ∀ w, S w → w.heap[b]? = some (.cells cs t (0, 0))) (hL : cs.extract 0 (0 + n) = L) (hn : L.size = n)
    (hu : Tryz.prog.underlying ty = some d) (hd : d.isRow = true) (hi : (Tryz.prog.info? ty).map (·.size) = some n) : YieldsIf Tryz.prog ops S op (.agg L) a := by
  have := yieldsIf_load_mid (P := Tryz.prog) (ops := ops) (S := S) (op := op) (a := a) hw ty x ho b 0 hx L.toList d (fun w hw' => by
    have h := World.rangeAt_of_block (hS w hw') 0 n
    rw [hL] at h
    exact h) hu hd (by simpa [hn] using hi)
  simpa using this
set_option linter.unusedSimpArgs false in
set_option maxRecDepth 20000 in
set_option maxHeartbeats 4000000 in
theorem pick_yes (cs : Array Value) (h : St cs) (hh : hasF 19 cs = true) (b off n c : Nat) (ws : List (Int × Int)) (hn : 1 ≤ n) (hn2 : n ≤ 64) (j : Nat) (ip port : Int) (hj : (flowC cs).toNat % n = j) (hw : ws[j]? = some (ip, port)) (w : World) (hW : WS w (some ⟨b, off, none⟩) n ws) :
    Calls Tryz.prog 66 #[.agg cs, .agg (pickA (.slice (some ⟨b, off, none⟩) n c))] w fun e w' => e = .returned (.tuple #[.agg (wayC cs ip port), .int .i64 0]) ∧ Below w.heap.size w w' := by
  obtain ⟨k, hk20, _, _⟩ := h.i64 20 (by decide)
  obtain ⟨b11, h11⟩ := h.bool 11 (by decide)
  obtain ⟨src, h17, s1, s2⟩ := h.u32 17 (by decide)
  obtain ⟨dst, h18, d1, d2⟩ := h.u32 18 (by decide)
  obtain ⟨pr, h16, _, _⟩ := h.i64 16 (by decide)
  obtain ⟨sp, h24, _, _⟩ := h.i64 24 (by decide)
  obtain ⟨dp, h25, _, _⟩ := h.i64 25 (by decide)
  have hx : b11 = true ∧ (k = 2 ∨ k = 3) := by
    have e1 := boolAt_of h11
    have e2 := numAt_of hk20
    have hh' : ofB 4 (boolAt cs 5) (boolAt cs 11) (numAt cs 20) = true := hh
    simp only [ofB, e1, e2, Bool.and_eq_true, Bool.or_eq_true, beq_iff_eq] at hh'
    exact hh'
  obtain ⟨rfl, hk⟩ := hx
  have hflow : flowC cs = hashOf src dst pr sp dp := by unfold flowC; rw [numAt_of h17, numAt_of h18, numAt_of h16, numAt_of h24, numAt_of h25]
  rw [hflow] at hj
  have hbd := hashOf_bd src dst pr sp dp
  obtain ⟨ps, hps⟩ : ∃ ps, cs.extract 0 (0 + 36) = ps := ⟨_, rfl⟩
  have hp36 : ps.size = 36 := by rw [← hps, Array.size_extract, h.size]; rfl
  have HFL : Hid _ := flow_l4 ps hp36 k src dst pr sp dp hk ⟨s1, s2⟩ ⟨d1, d2⟩ (by rw [← hps, ext36 h.size 11 (by omega)]; exact h11) (by rw [← hps, ext36 h.size 20 (by omega)]; exact hk20) (by rw [← hps, ext36 h.size 24 (by omega)]; exact h24) (by rw [← hps, ext36 h.size 25 (by omega)]; exact h25) (by rw [← hps, ext36 h.size 16 (by omega)]; exact h16) (by rw [← hps, ext36 h.size 17 (by omega)]; exact h17) (by rw [← hps, ext36 h.size 18 (by omega)]; exact h18)
  obtain ⟨hv, hhv⟩ : ∃ hv, hashOf src dst pr sp dp = hv := ⟨_, rfl⟩
  rw [hhv] at hj hbd HFL
  have hjn : j < n := by rw [← hj]; exact Nat.mod_lt _ (by omega)
  have HPK : Hid _ := (fun W => spick_any hv hbd.1 hbd.2 n hn hn2 W)
  rw [hj] at HPK
  have HJ : Hid _ := hj
  have HPS : Hid _ := hps
  have HP36 : Hid _ := hp36
  have HST : Hid _ := h
  have HH : Hid _ := hh
  have HW : Hid _ := hW
  obtain ⟨A, hA⟩ : ∃ A, pickA (.slice (some ⟨b, off, none⟩) n c) = A := ⟨_, rfl⟩
  have hA8 : A[8]? = some (.slice (some ⟨b, off, none⟩) n c) := by rw [← hA]; rfl
  rw [hA]
  obtain ⟨b', off', eb, hcell⟩ := hW.cells.resolve_left (by omega)
  cases eb
  obtain ⟨w0, w1, wb0, wb1⟩ := hcell j (ip, port) hw
  have HW0 : Hid _ := w0
  have HW1 : Hid _ := w1
  have H18 : Hid _ := h18
  have H25 : Hid _ := h25
  have HWST : Hid _ := way_st h ip port wb0 wb1
  have hblt : b < w.heap.size := cell_lt w0
  have hjI : (0 : Int) ≤ j := by omega
  have hjI2 : (j : Int) < n := by omega
  have HS3 : Hid _ := three_first w (.cells cs 50) (.cells A 29) (.cells zeroC 50)
  have HA3 : Hid _ := (heap_alloc_old ((w.alloc (.cells cs 50)).alloc (.cells A 29)) (.cells zeroC 50) (by simp)).trans (two_last w (.cells cs 50) (.cells A 29))
  have HZ3 : Hid _ := three_last w (.cells cs 50) (.cells A 29) (.cells zeroC 50)
  clear hA hhv hj hps hp36 h hh hW hcell w0 w1 wb0 wb1 h18 h25 h11 h17 h16 h24 hk20 hk hflow hw s1 s2 d1 d2 hbd
  go_enter Tryz.func66, Tryz.ntmps66
  go_wp2_with (first
    | refine wpList_load_row rfl 50 _ rfl w.heap.size rfl 50 cs (0, 0) _ HS3.out Tryz.underlying50 rfl (info_size HST.out.size) ?_
    | fail)
  refine (has_any 19 (by omega) (by omega) cs HST.out _).mono ?_
  rw [HH.out]
  rintro e W1 ⟨rfl, hb1⟩
  have hZ1 : W1.heap[w.heap.size + 1 + 1]? = some (.cells zeroC 50 (0, 0)) := (hb1.block _ (by simp)).trans HZ3.out
  have hA1 : W1.heap[w.heap.size + 1]? = some (.cells A 29 (0, 0)) := (hb1.block _ (by simp)).trans HA3.out
  have hS1 : W1.heap[w.heap.size]? = some (.cells cs 50 (0, 0)) := (hb1.block _ (by simp; omega)).trans HS3.out
  have HB1 : Hid (Below w.heap.size w W1) := (below3 w _ _ _).trans (hb1.mono (by simp; omega))
  have key : ∀ W, Below W1.heap.size W1 W → W.cell? ⟨w.heap.size + 1, 8, none⟩ = some (.slice (some ⟨b, off, none⟩) n c) ∧ W.heap[w.heap.size]? = some (.cells cs 50 (0, 0)) ∧ W.heap[w.heap.size + 1 + 1]? = some (.cells zeroC 50 (0, 0)) ∧ W.cell? ⟨b, off + j * 2, none⟩ = some (.int .u32 ip) ∧ W.cell? ⟨b, off + j * 2 + 1, none⟩ = some (.int .i64 port) ∧ Below W1.heap.size W1 W := fun W hb => by
    have hbw := HB1.out.trans (hb.mono HB1.out.size)
    exact ⟨(cell_row ((hb.block _ (lt_of_heap hA1)).trans hA1) 8).trans hA8, (hb.block _ (lt_of_heap hS1)).trans hS1, (hb.block _ (lt_of_heap hZ1)).trans hZ1, (hbw.cell (p := ⟨b, off + j * 2, none⟩) hblt).trans HW0.out, (hbw.cell (p := ⟨b, off + j * 2 + 1, none⟩) hblt).trans HW1.out, hb⟩
  have KC : Hid _ := key
  clear hb1 hZ1 hA1 hS1 key HS3 HA3 HZ3
  go_wp2_with fail
  refine wp_region_held_drew (S := (fun W => W.cell? ⟨w.heap.size + 1, 8, none⟩ = some (.slice (some ⟨b, off, none⟩) n c) ∧ W.heap[w.heap.size]? = some (.cells cs 50 (0, 0)) ∧ W.heap[w.heap.size + 1 + 1]? = some (.cells zeroC 50 (0, 0)) ∧ W.cell? ⟨b, off + j * 2, none⟩ = some (.int .u32 ip) ∧ W.cell? ⟨b, off + j * 2 + 1, none⟩ = some (.int .i64 port) ∧ Below W1.heap.size W1 W)) (by kernel_rfl) ?_ (fun hHeld => ?_)
  · exact KC.out _ (Below.refl _ _).drew
  refine wpAnyH_take (i := 0) (v := ?_) rfl (by kernel_rfl) (by kernel_rfl) (by kernel_rfl) (fun _ _ _ h => h) (Or.inl ⟨by rfl, ?_⟩) (by assumption) ?_
  rotate_left
  · (intro w hSw; (try dsimp only at hSw); go_simp; try with_reducible rfl)
  try simp only [List.getElem_toArray, List.getElem_cons_zero, List.getElem_cons_succ, Act.put, List.setIfInBounds_toArray, List.set_cons_zero, List.set_cons_succ]
  refine wpAnyH_take (i := 1) (v := ?_) rfl (by kernel_rfl) (by kernel_rfl) (by kernel_rfl) (fun _ _ _ h => h) (Or.inl ⟨by rfl, ?_⟩) (by assumption) ?_
  rotate_left
  · (intro w hSw; (try dsimp only at hSw); go_simp; try with_reducible rfl)
  try simp only [List.getElem_toArray, List.getElem_cons_zero, List.getElem_cons_succ, Act.put, List.setIfInBounds_toArray, List.set_cons_zero, List.set_cons_succ]
  refine wpAnyH_take (i := 2) (v := ?_) rfl (by kernel_rfl) (by kernel_rfl) (by kernel_rfl) (fun _ _ _ h => h) (Or.inl ⟨by rfl, ?_⟩) (by assumption) ?_
  rotate_left
  · (intro w hSw; (try dsimp only at hSw); go_simp; try with_reducible rfl)
  try simp only [List.getElem_toArray, List.getElem_cons_zero, List.getElem_cons_succ, Act.put, List.setIfInBounds_toArray, List.set_cons_zero, List.set_cons_succ]
  refine wpAnyH_take (i := 3) (v := .agg ps) rfl (by kernel_rfl) (by kernel_rfl) (by kernel_rfl) (fun _ _ _ h => h) (yields_loadH (by rfl) 45 _ rfl w.heap.size 36 rfl 50 cs ps _ (fun _ h => h.2.1) HPS.out HP36.out Tryz.underlying45 rfl size36) (by assumption) ?_
  try simp only [List.getElem_toArray, List.getElem_cons_zero, List.getElem_cons_succ, Act.put, List.setIfInBounds_toArray, List.set_cons_zero, List.set_cons_succ]
  refine wpAnyH_take (i := 5) (v := ?_) rfl (by kernel_rfl) (by kernel_rfl) (by kernel_rfl) (fun _ _ _ h => h) (Or.inl ⟨by rfl, ?_⟩) (by assumption) ?_
  rotate_left
  · (intro w hSw; (try dsimp only at hSw); go_simp; try with_reducible rfl)
  try simp only [List.getElem_toArray, List.getElem_cons_zero, List.getElem_cons_succ, Act.put, List.setIfInBounds_toArray, List.set_cons_zero, List.set_cons_succ]
  refine wpAnyH_take (i := 6) (v := ?_) rfl (by kernel_rfl) (by kernel_rfl) (by kernel_rfl) (fun _ _ _ h => h) (Or.inl ⟨by rfl, ?_⟩) (by assumption) ?_
  rotate_left
  · (intro w hSw; (try dsimp only at hSw); go_simp; try with_reducible rfl)
  try simp only [List.getElem_toArray, List.getElem_cons_zero, List.getElem_cons_succ, Act.put, List.setIfInBounds_toArray, List.set_cons_zero, List.set_cons_succ]
  refine wpAnyH_take (i := 7) (v := ?_) rfl (by kernel_rfl) (by kernel_rfl) (by kernel_rfl) (fun _ _ _ h => h) (Or.inl ⟨by rfl, ?_⟩) (by assumption) ?_
  rotate_left
  · (intro w hSw; (try dsimp only at hSw); go_simp; try with_reducible rfl)
  try simp only [List.getElem_toArray, List.getElem_cons_zero, List.getElem_cons_succ, Act.put, List.setIfInBounds_toArray, List.set_cons_zero, List.set_cons_succ]
  have hD : Below W1.heap.size W1 W1.drew := (Below.refl _ _).drew
  refine wpAnyH_ready (rs := [4, 11]) (by kernel_rfl) (by simp) ?_
  refine AllReadyH.cons (o := _) rfl (fun K hK => ?_) (AllReadyH.cons (o := _) rfl (fun K hK => ?_) AllReadyH.nil)
  · skip
    go_simp
    refine (HFL.out _).mono ?_
    rintro e Wf ⟨rfl, hbf⟩
    go_wp2_with fail
    have hDf : Below W1.heap.size W1 Wf := hD.trans (hbf.mono hD.size)
    refine hK.out _ _ (KC.out _ hDf) (fun hHeld2 => ?_)
    clear hK K hHeld
    have hHeld := hHeld2
    clear hHeld2
    try simp only [List.getElem_toArray, List.getElem_cons_zero, List.getElem_cons_succ, Act.put, List.setIfInBounds_toArray, List.set_cons_zero, List.set_cons_succ]
    refine wpAnyH_ready (rs := [8, 11]) (by kernel_rfl) (by simp) ?_
    refine AllReadyH.cons (o := _) rfl (fun K hK => ?_) (AllReadyH.cons (o := _) rfl (fun K hK => ?_) AllReadyH.nil)
    · skip
      go_simp
      refine (HPK.out _).mono ?_
      rintro e Wp ⟨rfl, hwp⟩
      rw [hwp]
      clear hwp
      go_wp2_with fail
      refine hK.out _ _ (KC.out _ hDf) (fun hHeld2 => ?_)
      clear hK K hHeld
      have hHeld := hHeld2
      clear hHeld2
      try simp only [List.getElem_toArray, List.getElem_cons_zero, List.getElem_cons_succ, Act.put, List.setIfInBounds_toArray, List.set_cons_zero, List.set_cons_succ]
      refine wpAnyH_take (i := 9) (v := ?_) rfl (by kernel_rfl) (by kernel_rfl) (by kernel_rfl) (fun _ _ _ h => h) (Or.inl ⟨by rfl, ?_⟩) (by assumption) ?_
      rotate_left
      · (intro w hSw; (try dsimp only at hSw); go_simp; try with_reducible rfl)
      try simp only [List.getElem_toArray, List.getElem_cons_zero, List.getElem_cons_succ, Act.put, List.setIfInBounds_toArray, List.set_cons_zero, List.set_cons_succ]
      refine wpAnyH_take (i := 10) (v := ?_) rfl (by kernel_rfl) (by kernel_rfl) (by kernel_rfl) (fun _ _ _ h => h) (Or.inl ⟨by rfl, ?_⟩) (by assumption) ?_
      rotate_left
      · (intro w hSw; (try dsimp only at hSw); go_simp; try with_reducible rfl)
      try simp only [List.getElem_toArray, List.getElem_cons_zero, List.getElem_cons_succ, Act.put, List.setIfInBounds_toArray, List.set_cons_zero, List.set_cons_succ]
      refine wpAnyH_ready (rs := [11]) (by kernel_rfl) (by simp) ?_
      refine AllReadyH.cons (o := _) rfl (fun K hK => ?_) AllReadyH.nil
      go_simp
      have hDfa : Below W1.heap.size W1 (World.alloc Wf (.cells #[.int .u32 0, .int .i64 0] 61)) := hDf.trans ((below1 _ _).mono hDf.size)
      have hbw : (World.alloc Wf (.cells #[.int .u32 0, .int .i64 0] 61)).heap[(World.heap Wf).size]? = some (.cells #[.int .u32 0, .int .i64 0] 61 (0, 0)) := heap_alloc_new _ _
      refine hK.out _ _ (KC.out _ hDfa) (fun hHeld2 => ?_)
      clear hK K hHeld
      have hHeld := hHeld2
      clear hHeld2
      try simp only [List.getElem_toArray, List.getElem_cons_zero, List.getElem_cons_succ, Act.put, List.setIfInBounds_toArray, List.set_cons_zero, List.set_cons_succ]
      refine wpAnyH_ready (rs := [12]) (by kernel_rfl) (by simp) ?_
      refine AllReadyH.cons (o := _) rfl (fun K hK => ?_) AllReadyH.nil
      have HLE : Hid (W1.heap.size ≤ Wf.heap.size) := hDf.size
      clear hHeld
      refine wp_store_row 61 _ _ rfl Wf.heap.size #[.int .u32 0, .int .i64 0] #[.int .u32 ip, .int .i64 port] 61 rfl rfl hbw (by kernel_rfl) rfl (by kernel_rfl) ?_
      intro W6 z1 z2 z3 z4
      have hle : W1.heap.size ≤ Wf.heap.size := HLE.out
      have hB6 : Below W1.heap.size W1 W6 := hDfa.trans (z4.mono hle)
      have k6 := KC.out _ hB6
      refine hK.out _ _ k6 (fun hHeld => ?_)
      clear hK K hHeld
      try simp only [List.getElem_toArray, List.getElem_cons_zero, List.getElem_cons_succ, Act.put, List.setIfInBounds_toArray, List.set_cons_zero, List.set_cons_succ]
      refine wpAnyH_done (by kernel_rfl) ?_ _
      have c0 : W6.cell? ⟨Wf.heap.size, 0, none⟩ = some (.int .u32 ip) := cell_row z1 0
      have c1 : W6.cell? ⟨Wf.heap.size, 1, none⟩ = some (.int .i64 port) := cell_row z1 1
      have e18 := (cell_row k6.2.1 18).trans H18.out
      have e25 := (cell_row k6.2.1 25).trans H25.out
      have f18 := frozen_of_row W6 _ 18 _ _ k6.2.1
      have f25 := frozen_of_row W6 _ 25 _ _ k6.2.1
      have hlw : w.heap.size < Wf.heap.size := by have := lt_of_heap (KC.out W1 (Below.refl _ _)).2.1; omega
      have Q0 : Hid _ := k6.2.1
      have Q2 : Hid _ := k6.2.2.1
      have QB : Hid (Below w.heap.size w W6) := HB1.out.trans (hB6.mono HB1.out.size)
      obtain ⟨bw, hbwE⟩ : ∃ bw, Wf.heap.size = bw := ⟨_, rfl⟩
      rw [hbwE] at c0 c1 hlw ⊢
      clear z1 z2 z3 z4 hB6 k6 KC HFL HPK HW0 HW1 hle hbwE HLE
      go_wp2_with fail
      go_region
      have hbw2 : ∀ u v, Below w.heap.size w (((W6.setCell ⟨w.heap.size, 18, none⟩ u).setCell ⟨w.heap.size, 25, none⟩ v).drew) := fun u v => ((QB.out.setCell (Nat.le_refl _) u).setCell (Nat.le_refl _) v).drew
      have hrow : ∀ u v, ((W6.setCell ⟨w.heap.size, 18, none⟩ u).setCell ⟨w.heap.size, 25, none⟩ v).drew.heap[w.heap.size]? = some (.cells ((cs.setIfInBounds 18 u).setIfInBounds 25 v) 50 (0, 0)) := fun u v => row_setCell (row_setCell Q0.out 18 u) 25 v
      have hoth : ∀ u v k, k ≠ w.heap.size → ((W6.setCell ⟨w.heap.size, 18, none⟩ u).setCell ⟨w.heap.size, 25, none⟩ v).drew.heap[k]? = W6.heap[k]? := fun u v k hk => (Below.heap_setCell _ _ _ _ hk).trans (Below.heap_setCell _ _ _ _ hk)
      have q0 : ((W6.setCell ⟨w.heap.size, 18, none⟩ (.int .u32 ip)).setCell ⟨w.heap.size, 25, none⟩ (.int .i64 port)).drew.heap[w.heap.size]? = some (.cells (wayC cs ip port) 50 (0, 0)) := hrow _ _
      have q2 := (hoth (.int .u32 ip) (.int .i64 port) (w.heap.size + 1 + 1) (by omega)).trans Q2.out
      have qb := hbw2 (.int .u32 ip) (.int .i64 port)
      clear hrow hoth hbw2 Q0 Q2 QB c0 c1 e18 e25 f18 f25
      generalize ((W6.setCell ⟨w.heap.size, 18, none⟩ (.int .u32 ip)).setCell ⟨w.heap.size, 25, none⟩ (.int .i64 port)).drew = V at *
      have Q0 : Hid _ := q0
      have Q2 : Hid _ := q2
      have QB : Hid _ := qb
      clear q0 q2 qb
      go_wp2_with (first
        | refine wpList_load_row rfl 50 _ rfl w.heap.size rfl 50 (wayC cs ip port) (0, 0) _ Q0.out Tryz.underlying50 rfl (info_size HWST.out.size) ?_
        | refine wpList_store_row rfl 50 _ _ rfl (w.heap.size + 1 + 1) zeroC (wayC cs ip port) 50 rfl rfl Q2.out (info_size HWST.out.size) (Eq.trans (b := 49) rfl HWST.out.size.symm) HWST.out.one ?_
        | fail)
      intro W8 y1 y2 y3 y4
      go_wp2
      exact bodyPost_ret (results_state (p := 4) (u := 5) rfl _ _ (w.heap.size + 1 + 1) _ rfl y1 HWST.out.size) rfl ⟨rfl, QB.out.trans (y4.mono (by omega))⟩
    · skip
      go_simp
      have hDfa : Below W1.heap.size W1 (World.alloc Wf (.cells #[.int .u32 0, .int .i64 0] 61)) := hDf.trans ((below1 _ _).mono hDf.size)
      have hbw : (World.alloc Wf (.cells #[.int .u32 0, .int .i64 0] 61)).heap[(World.heap Wf).size]? = some (.cells #[.int .u32 0, .int .i64 0] 61 (0, 0)) := heap_alloc_new _ _
      refine hK.out _ _ (KC.out _ hDfa) (fun hHeld2 => ?_)
      clear hK K hHeld
      have hHeld := hHeld2
      clear hHeld2
      try simp only [List.getElem_toArray, List.getElem_cons_zero, List.getElem_cons_succ, Act.put, List.setIfInBounds_toArray, List.set_cons_zero, List.set_cons_succ]
      refine wpAnyH_ready (rs := [8]) (by kernel_rfl) (by simp) ?_
      refine AllReadyH.cons (o := _) rfl (fun K hK => ?_) AllReadyH.nil
      go_simp
      refine (HPK.out _).mono ?_
      rintro e Wp ⟨rfl, hwp⟩
      rw [hwp]
      clear hwp
      go_wp2_with fail
      refine hK.out _ _ (KC.out _ hDfa) (fun hHeld2 => ?_)
      clear hK K hHeld
      have hHeld := hHeld2
      clear hHeld2
      try simp only [List.getElem_toArray, List.getElem_cons_zero, List.getElem_cons_succ, Act.put, List.setIfInBounds_toArray, List.set_cons_zero, List.set_cons_succ]
      refine wpAnyH_take (i := 9) (v := ?_) rfl (by kernel_rfl) (by kernel_rfl) (by kernel_rfl) (fun _ _ _ h => h) (Or.inl ⟨by rfl, ?_⟩) (by assumption) ?_
      rotate_left
      · (intro w hSw; (try dsimp only at hSw); go_simp; try with_reducible rfl)
      try simp only [List.getElem_toArray, List.getElem_cons_zero, List.getElem_cons_succ, Act.put, List.setIfInBounds_toArray, List.set_cons_zero, List.set_cons_succ]
      refine wpAnyH_take (i := 10) (v := ?_) rfl (by kernel_rfl) (by kernel_rfl) (by kernel_rfl) (fun _ _ _ h => h) (Or.inl ⟨by rfl, ?_⟩) (by assumption) ?_
      rotate_left
      · (intro w hSw; (try dsimp only at hSw); go_simp; try with_reducible rfl)
      try simp only [List.getElem_toArray, List.getElem_cons_zero, List.getElem_cons_succ, Act.put, List.setIfInBounds_toArray, List.set_cons_zero, List.set_cons_succ]
      refine wpAnyH_ready (rs := [12]) (by kernel_rfl) (by simp) ?_
      refine AllReadyH.cons (o := _) rfl (fun K hK => ?_) AllReadyH.nil
      have HLE : Hid (W1.heap.size ≤ Wf.heap.size) := hDf.size
      clear hHeld
      refine wp_store_row 61 _ _ rfl Wf.heap.size #[.int .u32 0, .int .i64 0] #[.int .u32 ip, .int .i64 port] 61 rfl rfl hbw (by kernel_rfl) rfl (by kernel_rfl) ?_
      intro W6 z1 z2 z3 z4
      have hle : W1.heap.size ≤ Wf.heap.size := HLE.out
      have hB6 : Below W1.heap.size W1 W6 := hDfa.trans (z4.mono hle)
      have k6 := KC.out _ hB6
      refine hK.out _ _ k6 (fun hHeld => ?_)
      clear hK K hHeld
      try simp only [List.getElem_toArray, List.getElem_cons_zero, List.getElem_cons_succ, Act.put, List.setIfInBounds_toArray, List.set_cons_zero, List.set_cons_succ]
      refine wpAnyH_done (by kernel_rfl) ?_ _
      have c0 : W6.cell? ⟨Wf.heap.size, 0, none⟩ = some (.int .u32 ip) := cell_row z1 0
      have c1 : W6.cell? ⟨Wf.heap.size, 1, none⟩ = some (.int .i64 port) := cell_row z1 1
      have e18 := (cell_row k6.2.1 18).trans H18.out
      have e25 := (cell_row k6.2.1 25).trans H25.out
      have f18 := frozen_of_row W6 _ 18 _ _ k6.2.1
      have f25 := frozen_of_row W6 _ 25 _ _ k6.2.1
      have hlw : w.heap.size < Wf.heap.size := by have := lt_of_heap (KC.out W1 (Below.refl _ _)).2.1; omega
      have Q0 : Hid _ := k6.2.1
      have Q2 : Hid _ := k6.2.2.1
      have QB : Hid (Below w.heap.size w W6) := HB1.out.trans (hB6.mono HB1.out.size)
      obtain ⟨bw, hbwE⟩ : ∃ bw, Wf.heap.size = bw := ⟨_, rfl⟩
      rw [hbwE] at c0 c1 hlw ⊢
      clear z1 z2 z3 z4 hB6 k6 KC HFL HPK HW0 HW1 hle hbwE HLE
      go_wp2_with fail
      go_region
      have hbw2 : ∀ u v, Below w.heap.size w (((W6.setCell ⟨w.heap.size, 18, none⟩ u).setCell ⟨w.heap.size, 25, none⟩ v).drew) := fun u v => ((QB.out.setCell (Nat.le_refl _) u).setCell (Nat.le_refl _) v).drew
      have hrow : ∀ u v, ((W6.setCell ⟨w.heap.size, 18, none⟩ u).setCell ⟨w.heap.size, 25, none⟩ v).drew.heap[w.heap.size]? = some (.cells ((cs.setIfInBounds 18 u).setIfInBounds 25 v) 50 (0, 0)) := fun u v => row_setCell (row_setCell Q0.out 18 u) 25 v
      have hoth : ∀ u v k, k ≠ w.heap.size → ((W6.setCell ⟨w.heap.size, 18, none⟩ u).setCell ⟨w.heap.size, 25, none⟩ v).drew.heap[k]? = W6.heap[k]? := fun u v k hk => (Below.heap_setCell _ _ _ _ hk).trans (Below.heap_setCell _ _ _ _ hk)
      have q0 : ((W6.setCell ⟨w.heap.size, 18, none⟩ (.int .u32 ip)).setCell ⟨w.heap.size, 25, none⟩ (.int .i64 port)).drew.heap[w.heap.size]? = some (.cells (wayC cs ip port) 50 (0, 0)) := hrow _ _
      have q2 := (hoth (.int .u32 ip) (.int .i64 port) (w.heap.size + 1 + 1) (by omega)).trans Q2.out
      have qb := hbw2 (.int .u32 ip) (.int .i64 port)
      clear hrow hoth hbw2 Q0 Q2 QB c0 c1 e18 e25 f18 f25
      generalize ((W6.setCell ⟨w.heap.size, 18, none⟩ (.int .u32 ip)).setCell ⟨w.heap.size, 25, none⟩ (.int .i64 port)).drew = V at *
      have Q0 : Hid _ := q0
      have Q2 : Hid _ := q2
      have QB : Hid _ := qb
      clear q0 q2 qb
      go_wp2_with (first
        | refine wpList_load_row rfl 50 _ rfl w.heap.size rfl 50 (wayC cs ip port) (0, 0) _ Q0.out Tryz.underlying50 rfl (info_size HWST.out.size) ?_
        | refine wpList_store_row rfl 50 _ _ rfl (w.heap.size + 1 + 1) zeroC (wayC cs ip port) 50 rfl rfl Q2.out (info_size HWST.out.size) (Eq.trans (b := 49) rfl HWST.out.size.symm) HWST.out.one ?_
        | fail)
      intro W8 y1 y2 y3 y4
      go_wp2
      exact bodyPost_ret (results_state (p := 4) (u := 5) rfl _ _ (w.heap.size + 1 + 1) _ rfl y1 HWST.out.size) rfl ⟨rfl, QB.out.trans (y4.mono (by omega))⟩
  · skip
    go_simp
    have hDa : Below W1.heap.size W1 (World.alloc W1.drew (.cells #[.int .u32 0, .int .i64 0] 61)) := hD.trans ((below1 _ _).mono hD.size)
    have hbw : (World.alloc W1.drew (.cells #[.int .u32 0, .int .i64 0] 61)).heap[(World.heap W1.drew).size]? = some (.cells #[.int .u32 0, .int .i64 0] 61 (0, 0)) := heap_alloc_new _ _
    refine hK.out _ _ (KC.out _ hDa) (fun hHeld2 => ?_)
    clear hK K hHeld
    have hHeld := hHeld2
    clear hHeld2
    try simp only [List.getElem_toArray, List.getElem_cons_zero, List.getElem_cons_succ, Act.put, List.setIfInBounds_toArray, List.set_cons_zero, List.set_cons_succ]
    refine wpAnyH_ready (rs := [4]) (by kernel_rfl) (by simp) ?_
    refine AllReadyH.cons (o := _) rfl (fun K hK => ?_) AllReadyH.nil
    go_simp
    refine (HFL.out _).mono ?_
    rintro e Wf ⟨rfl, hbf⟩
    go_wp2_with fail
    have hDf : Below W1.heap.size W1 Wf := hDa.trans (hbf.mono hDa.size)
    refine hK.out _ _ (KC.out _ hDf) (fun hHeld2 => ?_)
    clear hK K hHeld
    have hHeld := hHeld2
    clear hHeld2
    try simp only [List.getElem_toArray, List.getElem_cons_zero, List.getElem_cons_succ, Act.put, List.setIfInBounds_toArray, List.set_cons_zero, List.set_cons_succ]
    have hbw2 : Wf.heap[W1.heap.size]? = some (.cells #[.int .u32 0, .int .i64 0] 61 (0, 0)) := (hbf.block _ (by simp)).trans hbw
    refine wpAnyH_ready (rs := [8]) (by kernel_rfl) (by simp) ?_
    refine AllReadyH.cons (o := _) rfl (fun K hK => ?_) AllReadyH.nil
    go_simp
    refine (HPK.out _).mono ?_
    rintro e Wp ⟨rfl, hwp⟩
    rw [hwp]
    clear hwp
    go_wp2_with fail
    refine hK.out _ _ (KC.out _ hDf) (fun hHeld2 => ?_)
    clear hK K hHeld
    have hHeld := hHeld2
    clear hHeld2
    try simp only [List.getElem_toArray, List.getElem_cons_zero, List.getElem_cons_succ, Act.put, List.setIfInBounds_toArray, List.set_cons_zero, List.set_cons_succ]
    refine wpAnyH_take (i := 9) (v := ?_) rfl (by kernel_rfl) (by kernel_rfl) (by kernel_rfl) (fun _ _ _ h => h) (Or.inl ⟨by rfl, ?_⟩) (by assumption) ?_
    rotate_left
    · (intro w hSw; (try dsimp only at hSw); go_simp; try with_reducible rfl)
    try simp only [List.getElem_toArray, List.getElem_cons_zero, List.getElem_cons_succ, Act.put, List.setIfInBounds_toArray, List.set_cons_zero, List.set_cons_succ]
    refine wpAnyH_take (i := 10) (v := ?_) rfl (by kernel_rfl) (by kernel_rfl) (by kernel_rfl) (fun _ _ _ h => h) (Or.inl ⟨by rfl, ?_⟩) (by assumption) ?_
    rotate_left
    · (intro w hSw; (try dsimp only at hSw); go_simp; try with_reducible rfl)
    try simp only [List.getElem_toArray, List.getElem_cons_zero, List.getElem_cons_succ, Act.put, List.setIfInBounds_toArray, List.set_cons_zero, List.set_cons_succ]
    refine wpAnyH_ready (rs := [12]) (by kernel_rfl) (by simp) ?_
    refine AllReadyH.cons (o := _) rfl (fun K hK => ?_) AllReadyH.nil
    have HLE : Hid (W1.heap.size ≤ W1.heap.size) := Nat.le_refl _
    clear hHeld
    refine wp_store_row 61 _ _ rfl W1.heap.size #[.int .u32 0, .int .i64 0] #[.int .u32 ip, .int .i64 port] 61 rfl rfl hbw2 (by kernel_rfl) rfl (by kernel_rfl) ?_
    intro W6 z1 z2 z3 z4
    have hle : W1.heap.size ≤ W1.heap.size := HLE.out
    have hB6 : Below W1.heap.size W1 W6 := hDf.trans (z4.mono hle)
    have k6 := KC.out _ hB6
    refine hK.out _ _ k6 (fun hHeld => ?_)
    clear hK K hHeld
    try simp only [List.getElem_toArray, List.getElem_cons_zero, List.getElem_cons_succ, Act.put, List.setIfInBounds_toArray, List.set_cons_zero, List.set_cons_succ]
    refine wpAnyH_done (by kernel_rfl) ?_ _
    have c0 : W6.cell? ⟨W1.heap.size, 0, none⟩ = some (.int .u32 ip) := cell_row z1 0
    have c1 : W6.cell? ⟨W1.heap.size, 1, none⟩ = some (.int .i64 port) := cell_row z1 1
    have e18 := (cell_row k6.2.1 18).trans H18.out
    have e25 := (cell_row k6.2.1 25).trans H25.out
    have f18 := frozen_of_row W6 _ 18 _ _ k6.2.1
    have f25 := frozen_of_row W6 _ 25 _ _ k6.2.1
    have hlw : w.heap.size < W1.heap.size := by have := lt_of_heap (KC.out W1 (Below.refl _ _)).2.1; omega
    have Q0 : Hid _ := k6.2.1
    have Q2 : Hid _ := k6.2.2.1
    have QB : Hid (Below w.heap.size w W6) := HB1.out.trans (hB6.mono HB1.out.size)
    obtain ⟨bw, hbwE⟩ : ∃ bw, W1.heap.size = bw := ⟨_, rfl⟩
    rw [hbwE] at c0 c1 hlw ⊢
    clear z1 z2 z3 z4 hB6 k6 KC HFL HPK HW0 HW1 hle hbwE HLE
    go_wp2_with fail
    go_region
    have hbw2 : ∀ u v, Below w.heap.size w (((W6.setCell ⟨w.heap.size, 18, none⟩ u).setCell ⟨w.heap.size, 25, none⟩ v).drew) := fun u v => ((QB.out.setCell (Nat.le_refl _) u).setCell (Nat.le_refl _) v).drew
    have hrow : ∀ u v, ((W6.setCell ⟨w.heap.size, 18, none⟩ u).setCell ⟨w.heap.size, 25, none⟩ v).drew.heap[w.heap.size]? = some (.cells ((cs.setIfInBounds 18 u).setIfInBounds 25 v) 50 (0, 0)) := fun u v => row_setCell (row_setCell Q0.out 18 u) 25 v
    have hoth : ∀ u v k, k ≠ w.heap.size → ((W6.setCell ⟨w.heap.size, 18, none⟩ u).setCell ⟨w.heap.size, 25, none⟩ v).drew.heap[k]? = W6.heap[k]? := fun u v k hk => (Below.heap_setCell _ _ _ _ hk).trans (Below.heap_setCell _ _ _ _ hk)
    have q0 : ((W6.setCell ⟨w.heap.size, 18, none⟩ (.int .u32 ip)).setCell ⟨w.heap.size, 25, none⟩ (.int .i64 port)).drew.heap[w.heap.size]? = some (.cells (wayC cs ip port) 50 (0, 0)) := hrow _ _
    have q2 := (hoth (.int .u32 ip) (.int .i64 port) (w.heap.size + 1 + 1) (by omega)).trans Q2.out
    have qb := hbw2 (.int .u32 ip) (.int .i64 port)
    clear hrow hoth hbw2 Q0 Q2 QB c0 c1 e18 e25 f18 f25
    generalize ((W6.setCell ⟨w.heap.size, 18, none⟩ (.int .u32 ip)).setCell ⟨w.heap.size, 25, none⟩ (.int .i64 port)).drew = V at *
    have Q0 : Hid _ := q0
    have Q2 : Hid _ := q2
    have QB : Hid _ := qb
    clear q0 q2 qb
    go_wp2_with (first
      | refine wpList_load_row rfl 50 _ rfl w.heap.size rfl 50 (wayC cs ip port) (0, 0) _ Q0.out Tryz.underlying50 rfl (info_size HWST.out.size) ?_
      | refine wpList_store_row rfl 50 _ _ rfl (w.heap.size + 1 + 1) zeroC (wayC cs ip port) 50 rfl rfl Q2.out (info_size HWST.out.size) (Eq.trans (b := 49) rfl HWST.out.size.symm) HWST.out.one ?_
      | fail)
    intro W8 y1 y2 y3 y4
    go_wp2
    exact bodyPost_ret (results_state (p := 4) (u := 5) rfl _ _ (w.heap.size + 1 + 1) _ rfl y1 HWST.out.size) rfl ⟨rfl, QB.out.trans (y4.mono (by omega))⟩
end Go.Proofs.YtikbjckcnidimaaGreatDoor
