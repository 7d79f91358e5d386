/- What must come of every program (lives). Conditions: none. -/
import Derived.Test.YtjjehncnjcepkaaCU
namespace Go.Proofs.Ytjjehncnjcepkaa
open Go.RowKit
/-- A tuple's numbers fit their kinds. -/
structure TupR (t : Tup) : Prop where
  a : -9223372036854775808 ≤ t.1 ∧ t.1 ≤ 9223372036854775807
  b : 0 ≤ t.2.1 ∧ t.2.1 ≤ 4294967295
  c : 0 ≤ t.2.2.1 ∧ t.2.2.1 ≤ 4294967295
  d : -9223372036854775808 ≤ t.2.2.2.1 ∧ t.2.2.2.1 ≤ 9223372036854775807
  e : -9223372036854775808 ≤ t.2.2.2.2 ∧ t.2.2.2.2 ≤ 9223372036854775807
theorem look_st {cs : Array Value} (h : St cs) {t : Tup} (ht : TupR t) (a : Int) (ha : 0 ≤ a ∧ a ≤ 255) : St (lookC cs t a) := by
  unfold lookC tupC
  simp only [putC]
  refine st_put (st_put (st_put (st_put (st_put (st_put h 44 _ (by decide) rfl ?_ ?_ ?_ ?_ ?_) 45 _ (by decide) rfl ?_ ?_ ?_ ?_ ?_) 46 _ (by decide) rfl ?_ ?_ ?_ ?_ ?_) 47 _ (by decide) rfl ?_ ?_ ?_ ?_ ?_) 48 _ (by decide) rfl ?_ ?_ ?_ ?_ ?_) 36 _ (by decide) rfl ?_ ?_ ?_ ?_ ?_
  all_goals first
    | (intro hx; exact absurd hx (by decide))
    | (intro _; exact ⟨_, rfl, by omega, by omega⟩)
    | (intro _; exact ⟨_, rfl, ht.a⟩)
    | (intro _; exact ⟨_, rfl, ht.b⟩)
    | (intro _; exact ⟨_, rfl, ht.c⟩)
    | (intro _; exact ⟨_, rfl, ht.d⟩)
    | (intro _; exact ⟨_, rfl, ht.e⟩)
theorem look_orig {cs : Array Value} (h : cs.size = 49) (t : Tup) (a : Int) : (lookC cs t a).extract 44 (44 + 5) = tupC t.1 t.2.1 t.2.2.1 t.2.2.2.1 t.2.2.2.2 := by
  apply Array.ext_getElem?
  intro i
  by_cases hi : i < 5
  · rw [ext_get (by rw [look_size h]; decide) hi]
    unfold lookC
    rw [Array.getElem?_setIfInBounds_ne (by omega), putC_get _ _ _ _ (by simp [tupC, h]), if_neg (by omega), if_pos (by simp [tupC]; omega)]
    rw [Nat.add_sub_cancel_left]
    simp
  · rw [Array.getElem?_eq_none (by simp [look_size h]; omega), Array.getElem?_eq_none (by simp [tupC]; omega)]
theorem Emp.zone {w : World} {B tb zb c : Nat} {room clock : Int} {q : Value} (h : Emp w B tb zb c room clock q) (z : Int) : (Instr.lookup 61 (.map (some zb)) (iv z) false).run Try.prog w = .ok (.agg #[.map none, .map none]) w :=
  look_any intK Try.underlying61 _ zero_zone h.zm z
theorem look_emp {w : World} {B tb zb c : Nat} {room clock : Int} {q : Value} (h : Emp w B tb zb c room clock q) (z : Int) (hz0 : 0 ≤ z) (hz1 : z ≤ 65535) (cs ps : Array Value) (hst : St cs) (hps : cs.extract 0 (0 + 36) = ps) {fr pr src dst k ty co re sp dp : Int} (hp : Pk ps true fr pr src dst k ty co re sp dp) (hT : hasT true fr k ty co = true) :
    Calls Try.prog 8 #[.pointer (some ⟨tb, 0, none⟩), .int .i64 z, .agg cs] w fun e w' => e = .returned (.tuple #[.agg (lookC cs (pr, src, dst, portT k re sp, portT k re dp) 1), .int .i64 0]) ∧ Below w.heap.size w w' :=
  look_new tb zb room clock z hz0 hz1 q cs ps hst hps hp hT none none w h.t ⟨fun _ hW => (h.of hW).zone z⟩ ⟨fun W _ => look_nil tupK Try.underlying58 _ zero_tup_ptr W _, fun W _ => look_nil tupK Try.underlying58 _ zero_tup_ptr W _⟩
theorem commit_emp {w : World} {B tb zb c : Nat} {room clock : Int} {q : Value} (h : Emp w B tb zb c room clock q) (hB : B ≤ w.heap.size) (hr : 1 ≤ room) (hc : 0 ≤ clock ∧ clock ≤ 4611686018427387904) (z : Int) (hz0 : 0 ≤ z) (hz1 : z ≤ 65535) (cs ps : Array Value) (hst : St cs) (hps : cs.extract 0 (0 + 36) = ps) {fr pr src dst k ty co re sp dp : Int} (hp : Pk ps true fr pr src dst k ty co re sp dp) (hT : hasT true fr k ty co = true)
    (o : Tup) (ho : cs.extract 44 (44 + 5) = tupC o.1 o.2.1 o.2.2.1 o.2.2.2.1 o.2.2.2.2) (hop : o.1 = pr) :
    Calls Try.prog 9 #[.pointer (some ⟨tb, 0, none⟩), .int .i64 z, .agg cs] w fun e w' => e = .returned (.int .i64 0) ∧ (∃ qg qc cur eb g1 g2, HasC w' B tb zb c room clock z o (turn (pr, src, dst, portT k re sp, portT k re dp)) (!decide (turn (pr, src, dst, portT k re sp, portT k re dp) = turn o)) (clock + 30) qg qc cur eb g1 g2) ∧ Below B w w' ∧ (∀ g, g < w.heap.size → g ≠ tb → g ≠ zb → (∀ C, w.heap[g]? ≠ some (.cells C 66 (0, 0))) → w'.heap[g]? = w.heap[g]?) := by
  refine (commit_new tb zb c B room clock z hr hc hz0 hz1 q [] cs ps hst hps hp hT o ho hop w h.t h.zm rfl h.q hB h.bt h.bz).mono ?_
  rintro e w' ⟨h1, h2⟩
  refine ⟨h1, h2.has hB h.bt h.bz, ?_⟩
  obtain ⟨qa, qc, eb, g1, g2, a1, a2, a3, a4, a5, a6, a7, a8, a9, a10, a11⟩ := h2
  exact a11
theorem count_emp {w : World} {B tb zb c : Nat} {room clock : Int} {q : Value} (h : Emp w B tb zb c room clock q) (z : Int) : Calls Try.prog 10 #[.pointer (some ⟨tb, 0, none⟩), .int .i64 z] w fun e w' => e = .returned (.int .i64 0) ∧ w' = w :=
  count_any tb zb room clock z q none none 0 w h.t (h.zone z) (len_none w)
theorem count_has {w : World} {B tb zb c : Nat} {room clock z : Int} {o r : Tup} {nat : Bool} {ex : Int} {qg qc : Nat} {cur : Array Value} {eb g1 g2 : Nat} (h : HasC w B tb zb c room clock z o r nat ex qg qc cur eb g1 g2) : Calls Try.prog 10 #[.pointer (some ⟨tb, 0, none⟩), .int .i64 z] w fun e w' => e = .returned (.int .i64 1) ∧ w' = w :=
  count_any tb zb room clock z _ (some g1) (some g2) 1 w h.t (look_zone h.zm) (len_some h.m1)
theorem new_emp (room : Int) (h1 : 1 ≤ room) (h2 : room ≤ 65536) (w : World) : Calls Try.prog 5 #[.int .i64 room] w fun e w' => e = .returned (.tuple #[.pointer (some ⟨w.heap.size + 1, 0, none⟩), .int .i64 0]) ∧ Emp w' w.heap.size (w.heap.size + 1) w.heap.size 0 room 0 (.slice none 0 0) ∧ Below w.heap.size w w' := by
  refine (new_any room h1 h2 w).mono ?_
  rintro e w' ⟨h, rfl⟩
  refine ⟨h, ⟨by omega, Nat.le_refl _, two_last _ _ _, two_first _ _ _, World.ownsRow_nil _ _ _ _⟩, below2 _ _ _⟩
theorem eql_ptab (a : Addr) (W : World) : (binOp .eql 23 (.pointer (some a)) (.pointer none)).run Try.prog W = .ok (.bool false) W := by
  first | kernel_rfl | simp [binOp, go_sem]
set_option linter.unusedSimpArgs false in
set_option maxRecDepth 20000 in
set_option maxHeartbeats 4000000 in
theorem lives_any (w : World) : Calls Try.prog 6 #[] w fun e w' => e = .returned (.bool true) ∧ Below w.heap.size w w' := by
  have hp1 := udp_pst 1 2 3 4 (by omega) (by omega) (by omega) (by omega)
  have hp2 := udp_pst 2 1 4 3 (by omega) (by omega) (by omega) (by omega)
  have HU1 : Hid (∀ W, Calls Try.prog 13 #[.int .u32 1, .int .u32 2, .int .i64 3, .int .i64 4] W fun e w' => e = .returned (.agg (udpC 1 2 3 4)) ∧ Below W.heap.size W w') := fun W => udp_any 1 2 3 4 W
  have HU2 : Hid (∀ W, Calls Try.prog 13 #[.int .u32 2, .int .u32 1, .int .i64 4, .int .i64 3] W fun e w' => e = .returned (.agg (udpC 2 1 4 3)) ∧ Below W.heap.size W w') := fun W => udp_any 2 1 4 3 W
  have K1 : Hid _ := udp_pk 1 2 3 4
  have K2 : Hid _ := udp_pk 2 1 4 3
  obtain ⟨P1, hP1⟩ : ∃ P, udpC 1 2 3 4 = P := ⟨_, rfl⟩
  obtain ⟨P2, hP2⟩ : ∃ P, udpC 2 1 4 3 = P := ⟨_, rfl⟩
  rw [hP1] at hp1 HU1 K1
  rw [hP2] at hp2 HU2 K2
  have B1 : Hid _ := st_built hp1.size
  have B2 : Hid _ := st_built hp2.size
  have S1 : Hid _ := hp1.st
  have S2 : Hid _ := hp2.st
  have E1 : Hid _ := stP_ps hp1.size
  have E2 : Hid _ := stP_ps hp2.size
  obtain ⟨C1, hC1⟩ : ∃ C, stP P1 = C := ⟨_, rfl⟩
  obtain ⟨C2, hC2⟩ : ∃ C, stP P2 = C := ⟨_, rfl⟩
  rw [hC1] at B1 S1 E1
  rw [hC2] at B2 S2 E2
  have hlst : St (lookC C1 (17, 1, 2, 3, 4) 1) := look_st S1.out ⟨by decide, by decide, by decide, by decide, by decide⟩ 1 (by omega)
  have LO : Hid _ := look_orig S1.out.size (17, 1, 2, 3, 4) 1
  have LP : Hid _ := look_ps S1.out.size E1.out (17, 1, 2, 3, 4) 1
  have L36 : Hid _ := look_36 S1.out.size (17, 1, 2, 3, 4) 1
  have M36 : Hid _ := look_36 S2.out.size (17, 2, 1, 4, 3) 6
  have MS : Hid _ := look_size S2.out.size (17, 2, 1, 4, 3) 6
  have MO : Hid _ := look_one S2.out.one (17, 2, 1, 4, 3) 6
  obtain ⟨L1, hL1⟩ : ∃ L, lookC C1 (17, 1, 2, 3, 4) 1 = L := ⟨_, rfl⟩
  obtain ⟨L2, hL2⟩ : ∃ L, lookC C2 (17, 2, 1, 4, 3) 6 = L := ⟨_, rfl⟩
  rw [hL1] at hlst LO LP L36
  rw [hL2] at M36 MS MO
  have HL1 : Hid _ := hL1
  have HL2 : Hid _ := hL2
  have LS : Hid _ := hlst
  have hne := eql_ptab
  clear hp1 hp2 hP1 hP2 hC1 hC2 hL1 hL2 hlst
  go_enter Try.func6, Try.ntmps6
  go_wp2_with fail
  refine (new_emp 4 (by omega) (by omega) w).mono ?_
  rintro e W1 ⟨rfl, h1, b1⟩
  have H1 : Hid _ := h1
  have BB1 : Hid _ := b1
  clear h1 b1
  go_wp2_with fail
  refine (HU1.out _).mono ?_
  rintro e W2 ⟨rfl, b2⟩
  have H2 : Hid _ := H1.out.of b2
  have BB2 : Hid _ := BB1.out.trans (b2.mono BB1.out.size)
  clear b2 H1 BB1
  go_wp2_with (first
    | refine wpList_build_as rfl 46 _ rfl C1 (by rw [List.map_toArray]; exact B1.out) ?_
    | fail)
  have HLK : Hid _ := look_emp H2.out 1 (by omega) (by omega) C1 P1 S1.out E1.out K1.out udp_has
  refine Calls.mono HLK.out ?_
  rw [show lookC C1 ((17 : Int), 1, 2, portT 2 0 3, portT 2 0 4) 1 = L1 from HL1.out]
  rintro e W3 ⟨rfl, b3⟩
  have H3 : Hid _ := H2.out.of b3
  have BB3 : Hid _ := BB2.out.trans (b3.mono BB2.out.size)
  have hz3 : w.heap.size < W3.heap.size := Nat.lt_of_lt_of_le (Nat.lt_succ_self _) (Nat.le_of_lt (lt_of_heap H3.out.t))
  clear b3 HLK H2 BB2
  have A3 : Hid _ := heap_alloc_new W3 (.cells L1 46)
  go_wp2_with (first
    | refine wpList_store_new rfl 46 _ _ rfl _ L1 W3.heap.size rfl rfl rfl (info_size LS.out.size) (Eq.trans (b := 49) rfl LS.out.size.symm) LS.out.one ?_
    | refine wpList_load_row rfl 46 _ rfl W3.heap.size rfl 46 L1 (0, 0) _ A3.out Try.underlying46 rfl (info_size LS.out.size) ?_
    | fail)
  have H4 : Hid _ := H3.out.of (below1 W3 (.cells L1 46))
  have BB4 : Hid _ := BB3.out.trans ((below1 W3 (.cells L1 46)).mono BB3.out.size)
  have HCM : Hid _ := commit_emp H4.out BB4.out.size (by omega) (by omega) 1 (by omega) (by omega) L1 P1 LS.out LP.out K1.out udp_has (17, 1, 2, 3, 4) LO.out rfl
  refine Calls.mono HCM.out ?_
  rw [show (!decide (turn ((17 : Int), (1 : Int), (2 : Int), portT 2 0 3, portT 2 0 4) = turn (17, 1, 2, 3, 4))) = false by decide, show turn ((17 : Int), (1 : Int), (2 : Int), portT 2 0 3, portT 2 0 4) = (17, 2, 1, 4, 3) by decide]
  rintro e W5 ⟨rfl, ⟨qg, qc, cur, eb, g1, g2, h5⟩, b5, f5⟩
  have A5 : Hid (W5.heap[W3.heap.size]? = some (.cells L1 46 (0, 0))) := (f5 _ (by simp) (by have := lt_of_heap H3.out.t; omega) (by omega) (fun C hC => by rw [A3.out] at hC; simp at hC)).trans A3.out
  have H5 : Hid _ := h5
  have BB5 : Hid _ := BB4.out.trans b5
  clear h5 b5 f5 HCM H4 BB4 H3 BB3 A3
  go_wp2_with fail
  refine (HU2.out _).mono ?_
  rintro e W6 ⟨rfl, b6⟩
  have H6 : Hid _ := H5.out.below b6
  have BB6 : Hid _ := BB5.out.trans (b6.mono BB5.out.size)
  have A6 : Hid _ := (b6.block _ (lt_of_heap A5.out)).trans A5.out
  clear b6 H5 BB5 A5
  go_wp2_with (first
    | refine wpList_build_as rfl 46 _ rfl C2 (by rw [List.map_toArray]; exact B2.out) ?_
    | fail)
  have HLK : Hid _ := look_found true H6.out BB6.out.size (by omega) (by omega) (by omega) C2 P2 S2.out E2.out K2.out udp_has (17, 2, 1, 4, 3) (by decide) (by decide) (by intro h; cases h)
  refine Calls.mono HLK.out ?_
  rw [show foundC C2 P2 ((17 : Int), 2, 1, 4, 3) 2 true false (17, 1, 2, 3, 4) (17, 2, 1, 4, 3) = L2 from HL2.out]
  rintro e W7 ⟨rfl, h7, b7, f7⟩
  have A7 : Hid _ := (f7 _ (lt_of_heap A6.out) (ne_cells A6.out H6.out.en (by decide))).trans A6.out
  have H7 : Hid _ := h7
  have BB7 : Hid _ := BB6.out.trans b7
  clear h7 b7 f7 HLK H6 BB6 A6
  have A8 : Hid _ := heap_alloc_new W7 (.cells L2 46)
  have c36 : (W7.alloc (.cells L2 46)).cell? ⟨W7.heap.size, 36, none⟩ = some (.int .i64 6) := (cell_row A8.out 36).trans M36.out
  have A9 : Hid _ := (heap_alloc_old W7 (.cells L2 46) (lt_of_heap A7.out)).trans A7.out
  have d36 : (W7.alloc (.cells L2 46)).cell? ⟨W3.heap.size, 36, none⟩ = some (.int .i64 1) := (cell_row A9.out 36).trans L36.out
  have H8 : Hid _ := H7.out.below (below1 W7 (.cells L2 46))
  have BB8 : Hid _ := BB7.out.trans ((below1 W7 (.cells L2 46)).mono BB7.out.size)
  have C36 : Hid _ := c36
  have D36 : Hid _ := d36
  clear c36 d36 A7 A8 A9 H7 BB7
  go_wp2_with (first
    | (refine wpList_store_new rfl 46 _ _ rfl _ L2 W7.heap.size rfl rfl rfl (info_size MS.out) (Eq.trans (b := 49) rfl MS.out.symm) MO.out ?_
       generalize W7.alloc (.cells L2 46) = V at *
       have c36 := C36.out
       have d36 := D36.out)
    | fail)
  refine (count_has H8.out).mono ?_
  rintro e W9 ⟨rfl, hw9⟩
  rw [hw9]
  clear hw9
  go_wp2_with fail
  refine (tick_gone H8.out 30 (by omega) (by omega) (by omega) (by omega) (by omega) BB8.out.size).mono ?_
  rintro e WA ⟨rfl, hA, bA⟩
  have HA : Hid _ := hA
  have BA : Hid _ := BB8.out.trans bA
  clear hA bA
  go_wp2_with fail
  refine (count_emp HA.out 1).mono ?_
  rintro e W9 ⟨rfl, hw9⟩
  rw [hw9]
  clear hw9
  go_wp2
  go_ret
  exact ⟨rfl, BA.out⟩
end Go.Proofs.Ytjjehncnjcepkaa
