/- CtExpires: the walk. Conditions: the packet's cells are of their kinds; the waits can be read. -/
import Derived.Test.YtimndilklaphoaaDA
namespace Go.Proofs.Ytimndilklaphoaa
open Go.RowKit
/-- A slice of integers that can be read. -/
structure IS (w : World) (a : Option Addr) (n : Nat) (zs : List Int) : Prop where
  len : zs.length = n
  lim : n ≤ 17592186044416
  rd : n = 0 ∨ ∃ b o, a = some ⟨b, o, none⟩ ∧ b < w.heap.size ∧ ∀ i, i < n → w.cell? ⟨b, o + i, none⟩ = some (.int .i64 (zs.getD i 0))
theorem nbound (x : Int) : -39 ≤ x.tmod 40 ∧ x.tmod 40 ≤ 39 := by
  have h1 := Int.tmod_lt_of_pos x (show (0 : Int) < 40 by decide)
  have h2 := Int.lt_tmod_of_pos x (show (0 : Int) < 40 by decide)
  omega
theorem PSt.pkr {ps : Array Value} (h : PSt ps) : ∃ ip fr pr src dst k ty co re sp dp, Pk ps ip fr pr src dst k ty co re sp dp ∧ TupR (pr, src, dst, portT k re sp, portT k re dp) := by
  obtain ⟨ip, h11⟩ := h.bool 11 (by decide)
  obtain ⟨fr, h14, _, _⟩ := h.i64 14 (by decide)
  obtain ⟨pr, h16, p1, p2⟩ := h.i64 16 (by decide)
  obtain ⟨src, h17, s1, s2⟩ := h.u32 17 (by decide)
  obtain ⟨dst, h18, d1, d2⟩ := h.u32 18 (by decide)
  obtain ⟨k, h20, _, _⟩ := h.i64 20 (by decide)
  obtain ⟨ty, h21, _, _⟩ := h.i64 21 (by decide)
  obtain ⟨co, h22, _, _⟩ := h.i64 22 (by decide)
  obtain ⟨re, h23, r1, r2⟩ := h.u32 23 (by decide)
  obtain ⟨sp, h24, q1, q2⟩ := h.i64 24 (by decide)
  obtain ⟨dp, h25, t1, t2⟩ := h.i64 25 (by decide)
  refine ⟨ip, fr, pr, src, dst, k, ty, co, re, sp, dp, ⟨h.size, h11, h14, h16, h17, h18, h20, h21, h22, h23, h24, h25, ⟨r1, r2⟩⟩, ⟨⟨p1, p2⟩, ⟨s1, s2⟩, ⟨d1, d2⟩, ?_, ?_⟩⟩
  · show -9223372036854775808 ≤ portT k re sp ∧ portT k re sp ≤ 9223372036854775807
    unfold portT; split <;> omega
  · show -9223372036854775808 ≤ portT k re dp ∧ portT k re dp ≤ 9223372036854775807
    unfold portT; split <;> omega
/-- What stands at the loop's head. -/
structure ExpW (w : World) (ps : Array Value) (o : Tup) (th : Bool) (k : Nat) (wr : World) : Prop where
  bel : Below (w.heap.size + 1) (w.alloc (.cells ps 33)) wr
  st : ∃ clock : Int, 0 ≤ clock ∧ clock ≤ 39 * (k : Int) ∧ ((th = true ∧ ∃ qg qc cur eb g1 g2, HasC wr (w.heap.size + 1) (w.heap.size + 1 + 1) (w.heap.size + 1) 0 4 clock 7 o (turn o) false (clock + 30) qg qc cur eb g1 g2) ∨ (th = false ∧ ∃ q, Emp wr (w.heap.size + 1) (w.heap.size + 1 + 1) (w.heap.size + 1) 1 4 clock q))
set_option linter.unusedSimpArgs false in
set_option maxRecDepth 20000 in
set_option maxHeartbeats 8000000 in
theorem expires_any (ps : Array Value) (h : PSt ps) (a : Option Addr) (n c : Nat) (zs : List Int) (w : World) (hI : IS w a n zs) :
    Calls Try.prog 7 #[.agg ps, .slice a n c] w fun e w' => e = .returned (.bool true) ∧ Below w.heap.size w w' := by
  obtain ⟨ip, fr, pr, src, dst, k, ty, co, re, sp, dp, hp, hR⟩ := h.pkr
  have SB : Hid _ := st_built h.size
  have SS : Hid _ := h.st
  have SE : Hid _ := stP_ps h.size
  have HIP : Hid _ := infoPk h.size
  have P0 : Hid _ := heap_alloc_new w (.cells ps 33)
  have HPK : Hid _ := hp
  have HR : Hid _ := hR
  obtain ⟨C, hC⟩ : ∃ C, stP ps = C := ⟨_, rfl⟩
  rw [hC] at SB SS SE
  have hne := eql_ptab
  have HI : Hid _ := hI
  have hnl : n ≤ 17592186044416 := hI.lim
  have hz1 : (w.alloc (.cells ps 33)).heap.size = w.heap.size + 1 := by simp
  have hN := new_emp 4 (by omega) (by omega) (w.alloc (.cells ps 33))
  rw [hz1] at hN
  have HN : Hid _ := hN
  clear h hC hI hp hz1 hN hR
  go_enter Try.func7, Try.ntmps7
  go_wp2_with fail
  refine Calls.mono HN.out ?_
  rintro e W1 ⟨rfl, h1, b1⟩
  have H1 : Hid _ := h1
  have B1 : Hid _ := b1
  have hs1 : w.heap.size + 1 ≤ W1.heap.size := by have := b1.size; simp at this; omega
  clear h1 b1 HN
  go_wp2_with fail
  refine (lives_any _).mono ?_
  rintro e W2 ⟨rfl, b2⟩
  have H2 : Hid _ := H1.out.of b2
  have B2 : Hid _ := B1.out.trans (b2.mono hs1)
  have P2 : Hid (W2.heap[w.heap.size]? = some (.cells ps 33 (0, 0))) := (B2.out.block _ (by omega)).trans P0.out
  have hs2 : w.heap.size + 1 ≤ W2.heap.size := by have := b2.size; omega
  clear b2 H1 B1 hs1
  cases hT : hasT ip fr k ty co
  · go_wp2_with (first
      | refine wpList_load_row rfl 33 _ rfl w.heap.size rfl 33 ps (0, 0) _ P2.out Try.underlying33 rfl HIP.out ?_
      | refine wpList_build_as rfl 47 _ rfl C (by rw [List.map_toArray]; exact SB.out) ?_
      | fail)
    have HL : Hid _ := look_noT _ _ _ _ 7 (by omega) (by omega) _ C ps SE.out HPK.out hT W2 H2.out.t
    have ZO : Hid _ := zeroC_one
    have ZS : Hid _ := zeroC_size
    obtain ⟨Z, hZ⟩ : ∃ Z, zeroC = Z := ⟨_, rfl⟩
    rw [hZ] at HL ZO ZS
    clear hZ
    refine Calls.mono HL.out ?_
    rintro e W3 ⟨rfl, b3⟩
    have B3 : Hid (Below w.heap.size w (W3.alloc (.cells Z 47))) := (((below1 w _).trans (B2.out.mono (by omega))).trans (b3.mono (by omega))).alloc (by have := b3.size; omega) _
    clear b3 HL
    go_wp2_with (first
      | refine wpList_store_new rfl 47 _ _ rfl _ Z W3.heap.size rfl rfl rfl (info_size ZS.out) (Eq.trans (b := 49) rfl ZS.out.symm) ZO.out ?_
      | fail)
    go_ret
    exact ⟨rfl, B3.out⟩
  · obtain ⟨rfl, _⟩ : ip = true ∧ True := by
      refine ⟨?_, trivial⟩
      simp only [hasT, Bool.and_eq_true] at hT
      exact hT.1
    have KK : Hid _ := HPK.out
    have HT9 : Hid _ := hT
    obtain ⟨o, ho⟩ : ∃ o, (pr, src, dst, portT k re sp, portT k re dp) = o := ⟨_, rfl⟩
    have ho1 : o.1 = pr := by rw [← ho]
    have hor : TupR o := by rw [← ho]; exact HR.out
    have HO : Hid _ := ho
    have HLE : Hid (∀ {W : World} {B tb zb c : Nat} {room clock : Int} {q : Value}, Emp W B tb zb c room clock q → Calls Try.prog 15 #[.pointer (some ⟨tb, 0, none⟩), .int .i64 7, .agg C] W fun e w' => e = .returned (.tuple #[.agg (lookC C o 1), .int .i64 0]) ∧ Below W.heap.size W w') := by
      show ∀ {W : World}, _
      intro W B tb zb c room clock q hE
      rw [← ho]
      exact look_emp hE 7 (by omega) (by omega) C ps SS.out SE.out KK.out hT
    have HLF : Hid (∀ {W : World} {B tb zb c : Nat} {room clock ex : Int} {qg qc : Nat} {cur : Array Value} {eb g1 g2 : Nat}, HasC W B tb zb c room clock 7 o (turn o) false ex qg qc cur eb g1 g2 → B ≤ W.heap.size → 0 ≤ clock ∧ clock ≤ 4611686018427387904 → Calls Try.prog 15 #[.pointer (some ⟨tb, 0, none⟩), .int .i64 7, .agg C] W fun e w' => e = .returned (.tuple #[.agg (lookC C o 2), .int .i64 0]) ∧ HasC w' B tb zb c room clock 7 o (turn o) false (clock + 30) qg qc cur eb g1 g2 ∧ Below B W w' ∧ (∀ g, g < W.heap.size → g ≠ eb → w'.heap[g]? = W.heap[g]?)) := by
      show ∀ {W : World}, _
      intro W B tb zb c room clock ex qg qc cur eb g1 g2 hE hB hc
      exact look_found false hE hB hc (by omega) (by omega) C ps SS.out SE.out KK.out hT o ho rfl (by intro hh; cases hh)
    have LS : Hid _ := look_st SS.out hor 1 (by omega)
    have LO : Hid _ := look_orig SS.out.size o 1
    have LP : Hid _ := look_ps SS.out.size SE.out o 1
    have L36 : Hid (∀ v, (lookC C o v)[36]? = some (.int .i64 v)) := fun v => look_36 SS.out.size o v
    have LZ : Hid (∀ v, (lookC C o v).size = 49) := fun v => look_size SS.out.size o v
    have L1 : Hid (∀ v, (lookC C o v).all (·.oneCell') = true) := fun v => look_one SS.out.one o v
    have HCM : Hid (∀ {W : World} {B tb zb c : Nat} {room clock : Int} {q : Value}, Emp W B tb zb c room clock q → B ≤ W.heap.size → 1 ≤ room → 0 ≤ clock ∧ clock ≤ 4611686018427387904 → Calls Try.prog 16 #[.pointer (some ⟨tb, 0, none⟩), .int .i64 7, .agg (lookC C o 1)] W fun e w' => e = .returned (.int .i64 0) ∧ (∃ qg qc cur eb g1 g2, HasC w' B tb zb c room clock 7 o (turn o) false (clock + 30) qg qc cur eb g1 g2) ∧ Below B W w') := by
      show ∀ {W : World}, _
      intro W B tb zb c room clock q hE hB hr hc
      refine (commit_emp hE hB hr hc 7 (by omega) (by omega) (lookC C o 1) ps LS.out LP.out KK.out hT o LO.out ho1).mono ?_
      rw [ho, show (!decide (turn o = turn o)) = false by simp]
      rintro e w' ⟨x1, x2, x3, _⟩
      exact ⟨x1, x2, x3⟩
    obtain ⟨F1, hF1⟩ : ∃ F, lookC C o 1 = F := ⟨_, rfl⟩
    obtain ⟨F2, hF2⟩ : ∃ F, lookC C o 2 = F := ⟨_, rfl⟩
    have LZ1 : Hid (F1.size = 49) := by show _ = _; rw [← hF1]; exact LZ.out 1
    have LZ2 : Hid (F2.size = 49) := by show _ = _; rw [← hF2]; exact LZ.out 2
    have LO1 : Hid (F1.all (·.oneCell') = true) := by show _ = _; rw [← hF1]; exact L1.out 1
    have LO2 : Hid (F2.all (·.oneCell') = true) := by show _ = _; rw [← hF2]; exact L1.out 2
    have A1 : Hid (F1[36]? = some (.int .i64 1)) := by show _ = _; rw [← hF1]; exact L36.out 1
    have A2 : Hid (F2[36]? = some (.int .i64 2)) := by show _ = _; rw [← hF2]; exact L36.out 2
    rw [hF1] at HLE HCM
    rw [hF2] at HLF
    clear hT HPK HT9 ho ho1 hor HO HR LS LO LP L36 LZ L1 hF1 hF2
    go_wp2_with (first
      | refine wpList_load_row rfl 33 _ rfl w.heap.size rfl 33 ps (0, 0) _ P2.out Try.underlying33 rfl HIP.out ?_
      | refine wpList_build_as rfl 47 _ rfl C (by rw [List.map_toArray]; exact SB.out) ?_
      | fail)
    refine (HLE.out H2.out).mono ?_
    rintro e W3 ⟨rfl, b3⟩
    have H3 : Hid _ := H2.out.of b3
    have B3 : Hid _ := B2.out.trans (b3.mono hs2)
    have hs3 : w.heap.size + 1 ≤ W3.heap.size := by have := b3.size; omega
    have F3 : Hid _ := heap_alloc_new W3 (.cells F1 47)
    clear b3 H2 B2 P2 hs2
    have H4 : Hid _ := H3.out.of (below1 W3 (.cells F1 47))
    have B4 : Hid _ := B3.out.trans ((below1 W3 (.cells F1 47)).mono hs3)
    have hs4 : w.heap.size + 1 ≤ (W3.alloc (.cells F1 47)).heap.size := by simp; omega
    have HS4 : Hid _ := hs4
    clear H3 B3 hs4
    go_wp2_with (first
      | (refine wpList_store_new rfl 47 _ _ rfl _ F1 W3.heap.size rfl rfl rfl (info_size LZ1.out) (Eq.trans (b := 49) rfl LZ1.out.symm) LO1.out ?_
         generalize W3.alloc (.cells F1 47) = V at *)
      | refine wpList_load_row rfl 47 _ rfl W3.heap.size rfl 47 F1 (0, 0) _ F3.out Try.underlying47 rfl (info_size LZ1.out) ?_
      | fail)
    refine (HCM.out H4.out HS4.out (by omega) (by omega)).mono ?_
    rintro e W5 ⟨rfl, h5, b5⟩
    have E5 : Hid (ExpW w ps o true 0 W5) := ⟨B4.out.trans b5, 0, by omega, by omega, .inl ⟨rfl, h5⟩⟩
    clear h5 b5 H4 B4 F3 HS4 hs3
    go_wp2_with fail
    go_loopw [8, 9] (fun th i wr => ∃ (t : Bool) (j : Nat), j ≤ n ∧ th = .bool t ∧ i = .int .i64 j ∧ ExpW w ps o t j wr) (fun _ i _ => n - (intOf i).toNat)
    case atStart => exact ⟨true, 0, by omega, rfl, rfl, E5.out⟩
    case round =>
      obtain ⟨t, j, hj, rfl, rfl, hE⟩ := hrel
      have EE : Hid _ := hE
      have hbel := hE.bel
      have PJ : Hid (wr.heap[w.heap.size]? = some (.cells ps 33 (0, 0))) := (hbel.block _ (by omega)).trans P0.out
      have hsj : w.heap.size + 1 ≤ wr.heap.size := by have := hbel.size; simp at this; omega
      clear hE
      by_cases hlt : j < n
      · obtain ⟨b, off, rfl, hbl, hrd⟩ : ∃ b o, a = some ⟨b, o, none⟩ ∧ b < w.heap.size ∧ ∀ i, i < n → w.cell? ⟨b, o + i, none⟩ = some (.int .i64 (zs.getD i 0)) := by
          rcases HI.out.rd with h0 | h0
          · omega
          · exact h0
        obtain ⟨x, hx⟩ : ∃ x, zs.getD j 0 = x := ⟨_, rfl⟩
        have cj : wr.cell? ⟨b, off + j, none⟩ = some (.int .i64 x) := by
          rw [hbel.cell (p := ⟨b, off + j, none⟩) (show b < w.heap.size + 1 by omega), World.cell?_of_block (heap_alloc_old _ _ hbl), hrd j hlt, hx]
        have hb := nbound x
        clear hrd hx hbel
        by_cases hsg : x.tmod 40 < 0
        · go_wp2_with fail
          obtain ⟨m, hm, hm0, hm1⟩ : ∃ m, -x.tmod 40 = m ∧ 0 ≤ m ∧ m ≤ 39 := ⟨_, rfl, by omega, by omega⟩
          rw [hm]
          clear hm hb cj
          have b22 : bits BinOp.and IntKind.i64 2 2 = 2 := by decide +kernel
          have b12 : bits BinOp.and IntKind.i64 1 2 = 0 := by decide +kernel
          obtain ⟨clock, hc0, hc1, hst⟩ := EE.out.st
          have BE : Hid _ := EE.out.bel
          clear EE
          rcases hst with ⟨rfl, qg, qc, cur, eb, g1, g2, hH⟩ | ⟨rfl, q, hH⟩
          · by_cases h30 : m < 30
            · refine (tick_stay hH m (by omega) (by omega) (by omega) (by omega) (by omega)).mono ?_
              rintro e W6 ⟨rfl, h6, b6⟩
              have H6 : Hid _ := h6
              have B6 : Hid _ := BE.out.trans b6
              clear h6 b6 hH BE
              have P6 : Hid (W6.heap[w.heap.size]? = some (.cells ps 33 (0, 0))) := (B6.out.block _ (by omega)).trans P0.out
              have hs6 : w.heap.size + 1 ≤ W6.heap.size := by have := B6.out.size; simp at this; omega
              go_wp2_with (first
                | refine wpList_load_row rfl 33 _ rfl w.heap.size rfl 33 ps (0, 0) _ P6.out Try.underlying33 rfl HIP.out ?_
                | refine wpList_build_as rfl 47 _ rfl C (by rw [List.map_toArray]; exact SB.out) ?_
                | fail)
              refine (HLF.out H6.out hs6 (by omega)).mono ?_
              rintro e W7 ⟨rfl, h7, b7, _⟩
              have hs7 : w.heap.size + 1 ≤ W7.heap.size := by have := b7.size; omega
              have H8 : Hid _ := h7.below (below1 W7 (.cells F2 47))
              have B8 : Hid _ := (B6.out.trans b7).trans ((below1 W7 (.cells F2 47)).mono hs7)
              have C8 : Hid ((W7.alloc (.cells F2 47)).cell? ⟨W7.heap.size, 36, none⟩ = some (.int .i64 2)) := (cell_row (heap_alloc_new W7 (.cells F2 47)) 36).trans A2.out
              clear h7 b7 B6 P6
              go_wp2_with (first
                | (refine wpList_store_new rfl 47 _ _ rfl _ F2 W7.heap.size rfl rfl rfl (info_size LZ2.out) (Eq.trans (b := 49) rfl LZ2.out.symm) LO2.out ?_
                   generalize W7.alloc (.cells F2 47) = V at *
                   have c36 := C8.out)
                | fail)
              refine (count_has H8.out).mono ?_
              rintro e W9 ⟨rfl, hw9⟩
              rw [hw9]
              clear hw9
              go_wp2_with fail
              go_roundw
              case rel => exact ⟨true, j + 1, by omega, rfl, by go_num, B8.out, clock + m, by omega, by omega, .inl ⟨rfl, _, _, _, _, _, _, H8.out⟩⟩
              case measure => simp [intOf]; omega
            · have h30' : 30 ≤ m := by omega
              clear h30
              refine (tick_gone hH m (by omega) (by omega) (by omega) (by omega) (by omega) hsj).mono ?_
              rintro e W6 ⟨rfl, h6, b6⟩
              have H6 : Hid _ := h6
              have B6 : Hid _ := BE.out.trans b6
              clear h6 b6 hH BE
              have P6 : Hid (W6.heap[w.heap.size]? = some (.cells ps 33 (0, 0))) := (B6.out.block _ (by omega)).trans P0.out
              have hs6 : w.heap.size + 1 ≤ W6.heap.size := by have := B6.out.size; simp at this; omega
              go_wp2_with (first
                | refine wpList_load_row rfl 33 _ rfl w.heap.size rfl 33 ps (0, 0) _ P6.out Try.underlying33 rfl HIP.out ?_
                | refine wpList_build_as rfl 47 _ rfl C (by rw [List.map_toArray]; exact SB.out) ?_
                | fail)
              refine (HLE.out H6.out).mono ?_
              rintro e W7 ⟨rfl, b7⟩
              have hs7 : w.heap.size + 1 ≤ W7.heap.size := by have := b7.size; omega
              have H8 : Hid _ := (H6.out.of b7).of (below1 W7 (.cells F1 47))
              have B8 : Hid _ := (B6.out.trans (b7.mono hs6)).trans ((below1 W7 (.cells F1 47)).mono hs7)
              have C8 : Hid ((W7.alloc (.cells F1 47)).cell? ⟨W7.heap.size, 36, none⟩ = some (.int .i64 1)) := (cell_row (heap_alloc_new W7 (.cells F1 47)) 36).trans A1.out
              clear b7 B6 P6
              go_wp2_with (first
                | (refine wpList_store_new rfl 47 _ _ rfl _ F1 W7.heap.size rfl rfl rfl (info_size LZ1.out) (Eq.trans (b := 49) rfl LZ1.out.symm) LO1.out ?_
                   generalize W7.alloc (.cells F1 47) = V at *
                   have c36 := C8.out)
                | fail)
              refine (count_emp H8.out 7).mono ?_
              rintro e W9 ⟨rfl, hw9⟩
              rw [hw9]
              clear hw9
              go_wp2_with fail
              go_roundw
              case rel => exact ⟨false, j + 1, by omega, (by first | rfl | (rw [decide_eq_false (by omega)])), by go_num, B8.out, clock + m, by omega, by omega, .inr ⟨rfl, _, H8.out⟩⟩
              case measure => simp [intOf]; omega
          · refine (tick_emp hH m (by omega) (by omega) (by omega) (by omega)).mono ?_
            rintro e W6 ⟨rfl, h6, b6⟩
            have H6 : Hid _ := h6
            have B6 : Hid _ := BE.out.trans b6
            clear h6 b6 hH BE
            have P6 : Hid (W6.heap[w.heap.size]? = some (.cells ps 33 (0, 0))) := (B6.out.block _ (by omega)).trans P0.out
            have hs6 : w.heap.size + 1 ≤ W6.heap.size := by have := B6.out.size; simp at this; omega
            go_wp2_with (first
              | refine wpList_load_row rfl 33 _ rfl w.heap.size rfl 33 ps (0, 0) _ P6.out Try.underlying33 rfl HIP.out ?_
              | refine wpList_build_as rfl 47 _ rfl C (by rw [List.map_toArray]; exact SB.out) ?_
              | fail)
            refine (HLE.out H6.out).mono ?_
            rintro e W7 ⟨rfl, b7⟩
            have hs7 : w.heap.size + 1 ≤ W7.heap.size := by have := b7.size; omega
            have H8 : Hid _ := (H6.out.of b7).of (below1 W7 (.cells F1 47))
            have B8 : Hid _ := (B6.out.trans (b7.mono hs6)).trans ((below1 W7 (.cells F1 47)).mono hs7)
            have C8 : Hid ((W7.alloc (.cells F1 47)).cell? ⟨W7.heap.size, 36, none⟩ = some (.int .i64 1)) := (cell_row (heap_alloc_new W7 (.cells F1 47)) 36).trans A1.out
            clear b7 B6 P6
            go_wp2_with (first
              | (refine wpList_store_new rfl 47 _ _ rfl _ F1 W7.heap.size rfl rfl rfl (info_size LZ1.out) (Eq.trans (b := 49) rfl LZ1.out.symm) LO1.out ?_
                 generalize W7.alloc (.cells F1 47) = V at *
                 have c36 := C8.out)
              | fail)
            refine (count_emp H8.out 7).mono ?_
            rintro e W9 ⟨rfl, hw9⟩
            rw [hw9]
            clear hw9
            go_wp2_with fail
            go_roundw
            case rel => exact ⟨false, j + 1, by omega, (by first | rfl | (rw [decide_eq_false (by omega)])), by go_num, B8.out, clock + m, by omega, by omega, .inr ⟨rfl, _, H8.out⟩⟩
            case measure => simp [intOf]; omega
        · have hsg' : 0 ≤ x.tmod 40 := by omega
          clear hsg
          go_wp2_with fail
          obtain ⟨m, hm, hm0, hm1⟩ : ∃ m, x.tmod 40 = m ∧ 0 ≤ m ∧ m ≤ 39 := ⟨_, rfl, by omega, by omega⟩
          rw [hm]
          clear hm hb cj
          have b22 : bits BinOp.and IntKind.i64 2 2 = 2 := by decide +kernel
          have b12 : bits BinOp.and IntKind.i64 1 2 = 0 := by decide +kernel
          obtain ⟨clock, hc0, hc1, hst⟩ := EE.out.st
          have BE : Hid _ := EE.out.bel
          clear EE
          rcases hst with ⟨rfl, qg, qc, cur, eb, g1, g2, hH⟩ | ⟨rfl, q, hH⟩
          · by_cases h30 : m < 30
            · refine (tick_stay hH m (by omega) (by omega) (by omega) (by omega) (by omega)).mono ?_
              rintro e W6 ⟨rfl, h6, b6⟩
              have H6 : Hid _ := h6
              have B6 : Hid _ := BE.out.trans b6
              clear h6 b6 hH BE
              have P6 : Hid (W6.heap[w.heap.size]? = some (.cells ps 33 (0, 0))) := (B6.out.block _ (by omega)).trans P0.out
              have hs6 : w.heap.size + 1 ≤ W6.heap.size := by have := B6.out.size; simp at this; omega
              go_wp2_with (first
                | refine wpList_load_row rfl 33 _ rfl w.heap.size rfl 33 ps (0, 0) _ P6.out Try.underlying33 rfl HIP.out ?_
                | refine wpList_build_as rfl 47 _ rfl C (by rw [List.map_toArray]; exact SB.out) ?_
                | fail)
              refine (HLF.out H6.out hs6 (by omega)).mono ?_
              rintro e W7 ⟨rfl, h7, b7, _⟩
              have hs7 : w.heap.size + 1 ≤ W7.heap.size := by have := b7.size; omega
              have H8 : Hid _ := h7.below (below1 W7 (.cells F2 47))
              have B8 : Hid _ := (B6.out.trans b7).trans ((below1 W7 (.cells F2 47)).mono hs7)
              have C8 : Hid ((W7.alloc (.cells F2 47)).cell? ⟨W7.heap.size, 36, none⟩ = some (.int .i64 2)) := (cell_row (heap_alloc_new W7 (.cells F2 47)) 36).trans A2.out
              clear h7 b7 B6 P6
              go_wp2_with (first
                | (refine wpList_store_new rfl 47 _ _ rfl _ F2 W7.heap.size rfl rfl rfl (info_size LZ2.out) (Eq.trans (b := 49) rfl LZ2.out.symm) LO2.out ?_
                   generalize W7.alloc (.cells F2 47) = V at *
                   have c36 := C8.out)
                | fail)
              refine (count_has H8.out).mono ?_
              rintro e W9 ⟨rfl, hw9⟩
              rw [hw9]
              clear hw9
              go_wp2_with fail
              go_roundw
              case rel => exact ⟨true, j + 1, by omega, rfl, by go_num, B8.out, clock + m, by omega, by omega, .inl ⟨rfl, _, _, _, _, _, _, H8.out⟩⟩
              case measure => simp [intOf]; omega
            · have h30' : 30 ≤ m := by omega
              clear h30
              refine (tick_gone hH m (by omega) (by omega) (by omega) (by omega) (by omega) hsj).mono ?_
              rintro e W6 ⟨rfl, h6, b6⟩
              have H6 : Hid _ := h6
              have B6 : Hid _ := BE.out.trans b6
              clear h6 b6 hH BE
              have P6 : Hid (W6.heap[w.heap.size]? = some (.cells ps 33 (0, 0))) := (B6.out.block _ (by omega)).trans P0.out
              have hs6 : w.heap.size + 1 ≤ W6.heap.size := by have := B6.out.size; simp at this; omega
              go_wp2_with (first
                | refine wpList_load_row rfl 33 _ rfl w.heap.size rfl 33 ps (0, 0) _ P6.out Try.underlying33 rfl HIP.out ?_
                | refine wpList_build_as rfl 47 _ rfl C (by rw [List.map_toArray]; exact SB.out) ?_
                | fail)
              refine (HLE.out H6.out).mono ?_
              rintro e W7 ⟨rfl, b7⟩
              have hs7 : w.heap.size + 1 ≤ W7.heap.size := by have := b7.size; omega
              have H8 : Hid _ := (H6.out.of b7).of (below1 W7 (.cells F1 47))
              have B8 : Hid _ := (B6.out.trans (b7.mono hs6)).trans ((below1 W7 (.cells F1 47)).mono hs7)
              have C8 : Hid ((W7.alloc (.cells F1 47)).cell? ⟨W7.heap.size, 36, none⟩ = some (.int .i64 1)) := (cell_row (heap_alloc_new W7 (.cells F1 47)) 36).trans A1.out
              clear b7 B6 P6
              go_wp2_with (first
                | (refine wpList_store_new rfl 47 _ _ rfl _ F1 W7.heap.size rfl rfl rfl (info_size LZ1.out) (Eq.trans (b := 49) rfl LZ1.out.symm) LO1.out ?_
                   generalize W7.alloc (.cells F1 47) = V at *
                   have c36 := C8.out)
                | fail)
              refine (count_emp H8.out 7).mono ?_
              rintro e W9 ⟨rfl, hw9⟩
              rw [hw9]
              clear hw9
              go_wp2_with fail
              go_roundw
              case rel => exact ⟨false, j + 1, by omega, (by first | rfl | (rw [decide_eq_false (by omega)])), by go_num, B8.out, clock + m, by omega, by omega, .inr ⟨rfl, _, H8.out⟩⟩
              case measure => simp [intOf]; omega
          · refine (tick_emp hH m (by omega) (by omega) (by omega) (by omega)).mono ?_
            rintro e W6 ⟨rfl, h6, b6⟩
            have H6 : Hid _ := h6
            have B6 : Hid _ := BE.out.trans b6
            clear h6 b6 hH BE
            have P6 : Hid (W6.heap[w.heap.size]? = some (.cells ps 33 (0, 0))) := (B6.out.block _ (by omega)).trans P0.out
            have hs6 : w.heap.size + 1 ≤ W6.heap.size := by have := B6.out.size; simp at this; omega
            go_wp2_with (first
              | refine wpList_load_row rfl 33 _ rfl w.heap.size rfl 33 ps (0, 0) _ P6.out Try.underlying33 rfl HIP.out ?_
              | refine wpList_build_as rfl 47 _ rfl C (by rw [List.map_toArray]; exact SB.out) ?_
              | fail)
            refine (HLE.out H6.out).mono ?_
            rintro e W7 ⟨rfl, b7⟩
            have hs7 : w.heap.size + 1 ≤ W7.heap.size := by have := b7.size; omega
            have H8 : Hid _ := (H6.out.of b7).of (below1 W7 (.cells F1 47))
            have B8 : Hid _ := (B6.out.trans (b7.mono hs6)).trans ((below1 W7 (.cells F1 47)).mono hs7)
            have C8 : Hid ((W7.alloc (.cells F1 47)).cell? ⟨W7.heap.size, 36, none⟩ = some (.int .i64 1)) := (cell_row (heap_alloc_new W7 (.cells F1 47)) 36).trans A1.out
            clear b7 B6 P6
            go_wp2_with (first
              | (refine wpList_store_new rfl 47 _ _ rfl _ F1 W7.heap.size rfl rfl rfl (info_size LZ1.out) (Eq.trans (b := 49) rfl LZ1.out.symm) LO1.out ?_
                 generalize W7.alloc (.cells F1 47) = V at *
                 have c36 := C8.out)
              | fail)
            refine (count_emp H8.out 7).mono ?_
            rintro e W9 ⟨rfl, hw9⟩
            rw [hw9]
            clear hw9
            go_wp2_with fail
            go_roundw
            case rel => exact ⟨false, j + 1, by omega, (by first | rfl | (rw [decide_eq_false (by omega)])), by go_num, B8.out, clock + m, by omega, by omega, .inr ⟨rfl, _, H8.out⟩⟩
            case measure => simp [intOf]; omega
      · clear hbel
        go_wp2
        go_ret
        exact ⟨rfl, ((below1 w _).trans (EE.out.bel.mono (by omega)))⟩
end Go.Proofs.Ytimndilklaphoaa
