/- CtZones: the walk. Conditions: as said. -/
import Derived.Test.YtjjehncnjcepkaaEN
import Derived.Test.YtjjehncnjcepkaaDE
import Derived.Test.YtjjehncnjcepkaaDA
import Derived.Test.YtjjehncnjcepkaaDB
import Derived.Lib.Hide
namespace Go.Proofs.Ytjjehncnjcepkaa
open Go.RowKit
theorem quiet_load {ops : Array Oper} {C : World → Prop} {Q : Act → Prop} {a : Act} {o : Oper} {rest : List Oper} (hw : Region.wanted o (yielded ops a.tmps) = true) (ty : TypeId) (x : Operand) (ho : o.op = .load ty x) (b off : Nat) (hx : a.eval x = .pointer (some ⟨b, off, none⟩)) (cs : Array Value) (d : TypeDesc)
    (hc : ∀ w, C w → w.rangeAt b off cs.toList) (hu : Try.prog.underlying ty = some d) (hd : d.isRow = true) (hi : (Try.prog.info? ty).map (·.size) = some cs.size) (h : wpQuiet Try.prog ops C Q rest (a.put o.dst (.agg cs))) : wpQuiet Try.prog ops C Q (o :: rest) a := by
  show if _ then _ else _
  rw [if_pos hw]
  refine ⟨.agg cs, fun w hC => ?_, h⟩
  have hr := run_loadAt_mid (P := Try.prog) w b off ty cs.toList d (hc w hC) hu hd (by rw [Array.length_toList]; exact hi)
  rw [Array.toArray_toList] at hr
  unfold Oper.quietAt execOp
  simp only [ho, hx, Sem.run_bind, hr, Result.andThen_ok, Sem.run_pure]
  exact ⟨rfl, rfl⟩
theorem meas9 {n k : Nat} (h : k < n) : n - ((k : Int) + 1).toNat < n - ((k : Int)).toNat := by omega
theorem guard_pk9 (x y : Operand) (A B : Array Value) (W : World) : (eqGuard .neq 41 x y (.agg A) (.agg B)).run Try.prog W = .ok () W := by kernel_rfl
theorem PL.rng {w w' : World} {b o : Nat} {L : List Value} (h : w.rangeAt b o L) (hlt : b < w.heap.size) (hb : Below w.heap.size w w') : w'.rangeAt b o L := fun j v hj => by
  have c := h j v hj
  unfold World.cell? at c ⊢
  rw [show w'.heap[(⟨b, o + j, none⟩ : Addr).block]? = w.heap[(⟨b, o + j, none⟩ : Addr).block]? from hb.block b hlt]
  exact c
theorem rng_lt {w : World} {b o : Nat} {ps : Array Value} (h : w.rangeAt b o ps.toList) (hs : ps.size = 36) : b < w.heap.size := by
  have c := h 0 ps[0] (by rw [Array.getElem?_toList]; exact Array.getElem?_eq_getElem (by omega))
  exact cell_lt c
theorem Then.tab {w w' : World} {B tb zb : Nat} {room z : Int} {E : List Nat} {O : Nat → Tup} {t : Tup} {ans : Int} (h : Then w w' B tb zb room z E O t ans) (ht : Tab w B tb zb room z E O) (hB : B ≤ w.heap.size) : ∃ E' O', Tab w' B tb zb room z E' O' ∧ Below B w w' := by
  rcases h with ⟨_, _, hb⟩ | ⟨_, _, _, hb⟩ | ⟨_, _, _, E', O', _, h1, h2⟩
  · exact ⟨E, O, Tab.of ht hb, hb.mono hB⟩
  · exact ⟨E, O, Tab.of ht hb, hb.mono hB⟩
  · exact ⟨E', O', h1, h2⟩
set_option linter.unusedSimpArgs false in
set_option maxRecDepth 20000 in
set_option maxHeartbeats 4000000 in
theorem zones_walk (a : Option Addr) (n c : Nat) (l : List (Array Value)) (x y : Int) (w : World) (hP : PL w a n l) (hx0 : 0 ≤ x) (hx1 : x ≤ 65535) (hy0 : 0 ≤ y) (hy1 : y ≤ 65535) (hxy : x ≠ y) :
    Calls Try.prog 4 #[.slice a n c, .int .i64 x, .int .i64 y] w fun e w' => e = .returned (.bool true) ∧ Below w.heap.size w w' := by
  have hN := new_emp 16 (by omega) (by omega) w
  have HN : Hid _ := hN
  have hne := eql_ptab
  have HP : Hid _ := hP
  have hlim : n ≤ 17592186044416 := hP.room
  have d1 : ¬ x < 0 := by omega
  have d2 : ¬ 65535 < x := by omega
  have d3 : ¬ y < 0 := by omega
  have d4 : ¬ 65535 < y := by omega
  have d5 : ¬ x = y := hxy
  have d6 : (x == y) = false := by simpa using hxy
  clear hN hP
  go_enter Try.func4, Try.ntmps4
  go_wp2_with fail
  refine Calls.mono HN.out ?_
  rintro e W1 ⟨rfl, h1, b1⟩
  have H1 : Hid _ := h1
  have B1 : Hid _ := b1
  clear h1 b1 HN
  go_wp2_with fail
  refine (lives_any _).mono ?_
  rintro e W2 ⟨rfl, b2⟩
  have T2 : Hid (Tab W2 w.heap.size (w.heap.size + 1) w.heap.size 16 x [] (fun _ => (0, 0, 0, 0, 0))) := .inl ⟨rfl, _, _, H1.out.of b2⟩
  have B2 : Hid (Below w.heap.size w W2) := B1.out.trans (b2.mono B1.out.size)
  clear b2 H1 B1
  go_wp2_with fail
  go_loopw [9] (fun i wr => ∃ (k : Nat) (E : List Nat) (O : Nat → Tup), i = .int .i64 k ∧ k ≤ n ∧ Tab wr w.heap.size (w.heap.size + 1) w.heap.size 16 x E O ∧ Below w.heap.size w wr) (fun i _ => match i with | .int _ k => n - k.toNat | _ => 0)
  case atStart => exact ⟨0, [], _, rfl, by omega, T2.out, B2.out⟩
  case round =>
    obtain ⟨k, E, O, rfl, hk, ht, hb⟩ := hrel
    have HT : Hid _ := ht
    have HB : Hid _ := hb
    have HSZ : Hid _ := hb.size
    clear ht hb
    by_cases hkn : k < n
    · have hkI : (k : Int) < n := by omega
      obtain ⟨b, off, ps, ha, hps, hr0, hl⟩ := HP.out.at hkn
      have hlt0 := rng_lt hr0 hps.size
      have RW : Hid (∀ W, Below w.heap.size w W → W.rangeAt b (off + k * 36) ps.toList) := fun W hW => PL.rng hr0 hlt0 hW
      have hr := RW.out wr HB.out
      subst ha
      have hk0 : (0 : Int) ≤ k := by omega
      have PS : Hid _ := hps
      have RG : Hid _ := hr
      have SB : Hid _ := st_built hps.size
      have SS : Hid _ := hps.st
      have SE : Hid _ := stP_ps hps.size
      have NP : Hid _ := neq_packet hps
      obtain ⟨ip, fr, pr, src, dst, kk, ty, co, re, sp, dp, hp, hR⟩ := hps.pkr
      have HPK : Hid _ := hp
      have HR : Hid _ := hR
      obtain ⟨C, hC⟩ : ∃ C, stP ps = C := ⟨_, rfl⟩
      rw [hC] at SB SS SE
      clear hps hr hr0 hlt0 hl hp hR hC
      go_wp2_with (first
        | refine wpList_load_mid rfl 41 _ rfl b (off + k * 36) rfl ps.toList _ RG.out Try.underlying41 rfl (by rw [Array.length_toList]; exact infoPk PS.out.size) ?_
        | refine wpList_build_as rfl 46 _ rfl C (by rw [List.map_toArray]; exact SB.out) ?_
        | fail)
      cases hT : hasT ip fr kk ty co
      · obtain ⟨q0, hq0⟩ := Tab.row HT.out
        have HL : Hid _ := look_noT _ w.heap.size _ _ x hx0 hx1 _ C ps SE.out HPK.out hT wr hq0
        have HL2 : Hid (∀ W, Below wr.heap.size wr W → Calls Try.prog 8 #[.pointer (some ⟨w.heap.size + 1, 0, none⟩), .int .i64 y, .agg C] W fun e w' => e = .returned (.tuple #[.agg zeroC, .int .i64 81]) ∧ Below W.heap.size W w') := by
          show ∀ W, _
          intro W hW
          obtain ⟨q1, hq1⟩ := Tab.row (Tab.of HT.out hW)
          exact look_noT _ w.heap.size _ _ y hy0 hy1 _ C ps SE.out HPK.out hT W hq1
        have ZO : Hid _ := zeroC_one
        have ZS : Hid _ := zeroC_size
        obtain ⟨Z, hZ⟩ : ∃ Z, zeroC = Z := ⟨_, rfl⟩
        rw [hZ] at HL HL2 ZO ZS
        clear hZ hq0 hT
        refine Calls.mono HL.out ?_
        rintro e W3 ⟨rfl, b3⟩
        have B3 : Hid (Below wr.heap.size wr (W3.alloc (.cells Z 46))) := b3.alloc b3.size _
        clear b3 HL
        have D3 : Hid (Below w.heap.size w (W3.alloc (.cells Z 46))) := HB.out.trans (B3.out.mono HSZ.out)
        go_wp2_with (first
          | refine wpList_store_new rfl 46 _ _ rfl _ Z W3.heap.size rfl rfl rfl (info_size ZS.out) (Eq.trans (b := 49) rfl ZS.out.symm) ZO.out ?_
          | refine wpList_load_mid rfl 41 _ rfl b (off + k * 36) rfl ps.toList _ (RW.out _ D3.out) Try.underlying41 rfl (by rw [Array.length_toList]; exact infoPk PS.out.size) ?_
          | refine wpList_build_as rfl 46 _ rfl C (by rw [List.map_toArray]; exact SB.out) ?_
          | fail)
        refine Calls.mono (HL2.out _ B3.out) ?_
        rintro e W4 ⟨rfl, b4⟩
        have B4 : Hid (Below wr.heap.size wr (W4.alloc (.cells Z 46))) := (B3.out.trans (b4.mono B3.out.size)).alloc (by have := b4.size; have := B3.out.size; omega) _
        clear b4 HL2
        go_wp2_with (first
          | refine wpList_store_new rfl 46 _ _ rfl _ Z W4.heap.size rfl rfl rfl (info_size ZS.out) (Eq.trans (b := 49) rfl ZS.out.symm) ZO.out ?_
          | fail)
        go_quiet (exact Calls.quiet_of_same (tab_count_other (Tab.of HT.out (below_drewN9 B4.out _)) y (Ne.symm hxy)))
        go_wp2
        go_roundw
        case rel => exact ⟨k + 1, E, O, rfl, by omega, Tab.of HT.out (below_drewN9 B4.out _), HB.out.trans ((below_drewN9 B4.out _).mono HSZ.out)⟩
        case measure => exact meas9 hkn
      · obtain ⟨rfl, _⟩ : ip = true ∧ True := by
          refine ⟨?_, trivial⟩
          simp only [hasT, Bool.and_eq_true] at hT
          exact hT.1
        obtain ⟨o, ho⟩ : ∃ o, (pr, src, dst, portT kk re sp, portT kk re dp) = o := ⟨_, rfl⟩
        have hor : TupR o := by rw [← ho]; exact HR.out
        have HOO : Hid _ := ho
        have HTT : Hid _ := hT
        have HLK : Hid _ := tab_look HT.out hx0 hx1 C ps SS.out SE.out HPK.out hT o ho
        clear ho hT
        refine Calls.mono HLK.out ?_
        rintro e W3 ⟨⟨ct, rfl, k1, k2⟩, b3⟩
        have hct : 0 ≤ ct ∧ ct ≤ 255 := by
          cases hk9 : kn E O o with
          | true => rcases k2 hk9 with rfl | rfl <;> decide
          | false => rw [k1 hk9]; decide
        obtain ⟨F, hF⟩ : ∃ F, lookC C o ct = F := ⟨_, rfl⟩
        have FS : Hid (St F) := by rw [← hF]; exact look_st SS.out hor ct hct
        have FG : Hid (F.extract 44 (44 + 5) = tupC o.1 o.2.1 o.2.2.1 o.2.2.2.1 o.2.2.2.2) := by show _ = _; rw [← hF]; exact look_orig SS.out.size o ct
        have FP : Hid (F.extract 0 (0 + 36) = ps) := by show _ = _; rw [← hF]; exact look_ps SS.out.size SE.out o ct
        have FZ : Hid (F.size = 49) := by show _ = _; rw [← hF]; exact look_size SS.out.size o ct
        have FO : Hid (F.all (·.oneCell') = true) := by show _ = _; rw [← hF]; exact look_one SS.out.one o ct
        rw [hF]
        have B3 : Hid (Below wr.heap.size wr (W3.alloc (.cells F 46))) := b3.alloc b3.size _
        have N3 : Hid _ := heap_alloc_new W3 (.cells F 46)
        clear b3 HLK k1 k2 hF hct
        go_wp2_with (first
          | refine wpList_store_new rfl 46 _ _ rfl _ F W3.heap.size rfl rfl rfl (info_size FZ.out) (Eq.trans (b := 49) rfl FZ.out.symm) FO.out ?_
          | refine wpList_load_row rfl 46 _ rfl W3.heap.size rfl 46 F (0, 0) _ N3.out Try.underlying46 rfl (info_size FZ.out) ?_
          | fail)
        have hB3 : w.heap.size ≤ (W3.alloc (.cells F 46)).heap.size := Nat.le_trans HSZ.out B3.out.size
        refine (tab_commit (Tab.of HT.out B3.out) hB3 ⟨by omega, by omega⟩ hx0 hx1 F ps FS.out FP.out HPK.out HTT.out o HOO.out FG.out).mono ?_
        rintro e W4 ⟨ans, rfl, hth⟩
        obtain ⟨E4, O4, ht4, hb4⟩ := Then.tab hth (Tab.of HT.out B3.out) hB3
        have T4 : Hid _ := ht4
        have D4 : Hid (Below w.heap.size w W4) := (HB.out.trans (B3.out.mono HSZ.out)).trans hb4
        have HL4 : Hid _ := tab_look_other ht4 y (Ne.symm hxy) hy0 hy1 C ps SS.out SE.out HPK.out HTT.out o HOO.out
        clear hth ht4 hb4 hB3 N3 B3
        go_wp2_with (first
          | refine wpList_load_mid rfl 41 _ rfl b (off + k * 36) rfl ps.toList _ (RW.out _ D4.out) Try.underlying41 rfl (by rw [Array.length_toList]; exact infoPk PS.out.size) ?_
          | refine wpList_build_as rfl 46 _ rfl C (by rw [List.map_toArray]; exact SB.out) ?_
          | fail)
        refine Calls.mono HL4.out ?_
        rintro e W5 ⟨rfl, b5⟩
        obtain ⟨G, hG⟩ : ∃ G, lookC C o 1 = G := ⟨_, rfl⟩
        have GP : Hid (G.extract 0 (0 + 36) = ps) := by show _ = _; rw [← hG]; exact look_ps SS.out.size SE.out o 1
        have GZ : Hid (G.size = 49) := by show _ = _; rw [← hG]; exact look_size SS.out.size o 1
        have GO : Hid (G.all (·.oneCell') = true) := by show _ = _; rw [← hG]; exact look_one SS.out.one o 1
        have G36 : G[36]? = some (.int .i64 1) := by rw [← hG]; exact look_36 SS.out.size o 1
        rw [hG]
        have B5 : Hid (Below W4.heap.size W4 (W5.alloc (.cells G 46))) := b5.alloc b5.size _
        have N5 : Hid _ := heap_alloc_new W5 (.cells G 46)
        have c36 : (W5.alloc (.cells G 46)).cell? ⟨W5.heap.size, 36, none⟩ = some (.int .i64 1) := (cell_row N5.out 36).trans G36
        have D5 : Hid (Below w.heap.size w (W5.alloc (.cells G 46))) := D4.out.trans (B5.out.mono D4.out.size)
        clear b5 HL4 hG G36
        go_wp2_with (first
          | refine wpList_store_new rfl 46 _ _ rfl _ G W5.heap.size rfl rfl rfl (info_size GZ.out) (Eq.trans (b := 49) rfl GZ.out.symm) GO.out ?_
          | fail)
        have RG1 : Hid (∀ W, (∃ m, W = (W5.alloc (.cells G 46)).drewN m) → W.rangeAt W5.heap.size 0 ps.toList) := by
          show ∀ W, _
          rintro W ⟨m, rfl⟩
          have := World.rangeAt_of_block (show ((W5.alloc (.cells G 46)).drewN m).heap[W5.heap.size]? = _ from N5.out) 0 36
          rwa [GP.out] at this
        have RG2 : Hid (∀ W, (∃ m, W = (W5.alloc (.cells G 46)).drewN m) → W.rangeAt b (off + k * 36) ps.toList) := by
          show ∀ W, _
          rintro W ⟨m, rfl⟩
          exact RW.out _ (below_drewN9 D5.out m)
        have np := NP.out
        have gp : ∀ u v W, (eqGuard .neq 41 u v (.agg ps) (.agg ps)).run Try.prog W = .ok () W := fun u v W => guard_pk9 u v ps ps W
        refine wp_region_quiet_lit (by kernel_rfl) (by kernel_rfl) ?_
        repeat (first
          | (refine quiet_load (by rfl) 41 _ rfl W5.heap.size 0 rfl ps _ RG1.out Try.underlying41 rfl (infoPk PS.out.size) ?_
             simp only [List.getElem_toArray, List.getElem_cons_zero, List.getElem_cons_succ, Act.put, List.setIfInBounds_toArray, List.set_cons_zero, List.set_cons_succ])
          | (refine quiet_load (by rfl) 41 _ rfl b (off + k * 36) rfl ps _ RG2.out Try.underlying41 rfl (infoPk PS.out.size) ?_
             simp only [List.getElem_toArray, List.getElem_cons_zero, List.getElem_cons_succ, Act.put, List.setIfInBounds_toArray, List.set_cons_zero, List.set_cons_succ])
          | quiet_step (exact Calls.quiet_of_same (tab_count_other (Tab.of T4.out (below_drewN9 B5.out _)) y (Ne.symm hxy))))
        refine wpQuiet_nil ?_
        intro _ hw'
        obtain ⟨nq, hw''⟩ := hw'
        subst hw''
        clear np gp
        go_wp2
        go_roundw
        case rel => exact ⟨k + 1, E4, O4, rfl, by omega, Tab.of T4.out (below_drewN9 B5.out _), below_drewN9 D5.out _⟩
        case measure => exact meas9 hkn
    · have hkI : ¬ (k : Int) < n := by omega
      go_wp2_with fail
      refine (tab_count HT.out).mono ?_
      rintro e V1 ⟨rfl, hv1⟩
      rw [hv1]
      clear hv1
      go_wp2_with fail
      refine (tab_drop_other HT.out y (Ne.symm hxy)).mono ?_
      rintro e V2 ⟨rfl, bv⟩
      have HT2 : Hid _ := Tab.of HT.out bv
      have HB2 : Hid (Below w.heap.size w V2) := HB.out.trans (bv.mono HSZ.out)
      clear bv
      go_wp2_with fail
      refine (tab_count HT2.out).mono ?_
      rintro e V1 ⟨rfl, hv1⟩
      rw [hv1]
      clear hv1
      go_wp2_with fail
      refine (tab_drop HT2.out HB2.out.size).mono ?_
      rintro e V3 ⟨rfl, ⟨q3, c3, t3, z3⟩, bv⟩
      have HC3 : Hid _ := count_any (w.heap.size + 1) w.heap.size 16 0 x q3 none none 0 V3 t3 (by simpa [findG] using look_any intK Try.underlying61 (.agg #[.map none, .map none]) zero_zone z3 x) (len_none V3)
      have HB3 : Hid (Below w.heap.size w V3) := HB2.out.trans bv
      clear t3 z3 bv
      go_wp2_with fail
      refine Calls.mono HC3.out ?_
      rintro e V1 ⟨rfl, hv1⟩
      rw [hv1]
      clear hv1
      go_wp2
      go_ret
      exact ⟨rfl, HB3.out⟩
end Go.Proofs.Ytjjehncnjcepkaa
