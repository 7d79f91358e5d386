/- CtFull: the walk. Conditions: as said. -/
import Derived.Test.YtjjehncnjcepkaaFG
import Derived.Test.YtjjehncnjcepkaaEO
import Derived.Lib.Hide
namespace Go.Proofs.Ytjjehncnjcepkaa
open Go.RowKit
theorem bound6 (x : Int) : -5 ≤ x.tmod 6 ∧ x.tmod 6 ≤ 5 := by
  have h1 := Int.tmod_lt_of_pos x (show (0 : Int) < 6 by decide)
  have h2 := Int.lt_tmod_of_pos x (show (0 : Int) < 6 by decide)
  omega
theorem full_num (x : Int) : ∃ m : Int, 0 ≤ m ∧ m ≤ 5 ∧ ((x.tmod 6 < 0 ∧ -x.tmod 6 = m) ∨ (¬ x.tmod 6 < 0 ∧ x.tmod 6 = m)) := by
  have := bound6 x
  by_cases h : x.tmod 6 < 0
  · exact ⟨_, by omega, by omega, .inl ⟨h, rfl⟩⟩
  · exact ⟨_, by omega, by omega, .inr ⟨h, rfl⟩⟩
theorem get_srt {E : List Nat} {O : Nat → Tup} {j : Nat} (h : j < E.length) : ∃ t, (srtT (E.map O))[j]? = some t := by
  have : (srtT (E.map O)).length = E.length := by rw [srtT_len, List.length_map]
  exact ⟨_, List.getElem?_eq_getElem (by omega)⟩
set_option linter.unusedSimpArgs false in
set_option maxRecDepth 20000 in
set_option maxHeartbeats 4000000 in
theorem full_walk (room : Int) (a : Option Addr) (n c : Nat) (l : List (Array Value)) (z : Int) (w : World) (hP : PL w a n l) (hz0 : 0 ≤ z) (hz1 : z ≤ 65534) :
    Calls Try.prog 3 #[.int .i64 room, .slice a n c, .int .i64 z] w fun e w' => e = .returned (.bool true) ∧ Below w.heap.size w w' := by
  obtain ⟨m, hm0, hm1, hmm⟩ := full_num room
  have hb6 := bound6 room
  have hN := new_emp (m + 1) (by omega) (by omega) w
  have HN : Hid _ := hN
  have hne := eql_ptab
  have HP : Hid _ := hP
  have hlim : n ≤ 17592186044416 := hP.room
  have d1 : ¬ z < 0 := by omega
  have d2 : ¬ 65534 < z := by omega
  have hzz : z + 1 ≠ z := by omega
  clear hN hP
  rcases hmm with ⟨hsg, hm⟩ | ⟨hsg, hm⟩
  all_goals go_enter Try.func3, Try.ntmps3
  all_goals go_wp2_with fail
  all_goals clear hm hsg hb6
  all_goals refine Calls.mono HN.out ?_
  all_goals rintro e W1 ⟨rfl, h1, b1⟩
  all_goals have H1 : Hid _ := h1
  all_goals have B1 : Hid _ := b1
  all_goals clear h1 b1 HN
  all_goals go_wp2_with fail
  all_goals refine (lives_any _).mono ?_
  all_goals rintro e W2 ⟨rfl, b2⟩
  all_goals have T2 : Hid (Tab W2 w.heap.size (w.heap.size + 1) w.heap.size (m + 1) z [] (fun _ => (0, 0, 0, 0, 0))) := .inl ⟨rfl, _, _, H1.out.of b2⟩
  all_goals have B2 : Hid (Below w.heap.size w W2) := B1.out.trans (b2.mono B1.out.size)
  all_goals clear b2 H1 B1
  all_goals go_wp2_with fail
  all_goals (
    go_loopw [10] (fun i wr => ∃ (k : Nat) (E : List Nat) (O : Nat → Tup), i = .int .i64 k ∧ k ≤ n ∧ Tab wr w.heap.size (w.heap.size + 1) w.heap.size (m + 1) z E O ∧ (E.length : Int) ≤ m + 1 ∧ Below w.heap.size w wr) (fun i _ => match i with | .int _ k => n - k.toNat | _ => 0)
    case atStart => exact ⟨0, [], _, rfl, by omega, T2.out, by simp; omega, B2.out⟩
    case round =>
      obtain ⟨k, E, O, rfl, hk, ht, hle, hb⟩ := hrel
      have HT : Hid _ := ht
      have HB : Hid _ := hb
      have HSZ : Hid _ := hb.size
      have HLE : Hid _ := hle
      clear ht hb hle
      by_cases hkn : k < n
      · have hkI : (k : Int) < n := by omega
        obtain ⟨b, off, ps, ha, hps, hr0, hl⟩ := HP.out.at hkn
        have hlt0 := rng_lt hr0 hps.size
        have RW : Hid (∀ W, Below w.heap.size w W → W.rangeAt b (off + k * 36) ps.toList) := fun W hW => PL.rng hr0 hlt0 hW
        subst ha
        have hk0 : (0 : Int) ≤ k := by omega
        have PS : Hid _ := hps
        have SB : Hid _ := st_built hps.size
        have SS : Hid _ := hps.st
        have SE : Hid _ := stP_ps hps.size
        obtain ⟨ip, fr, pr, src, dst, kk, ty, co, re, sp, dp, hp, hR⟩ := hps.pkr
        have HPK : Hid _ := hp
        have HR : Hid _ := hR
        obtain ⟨C, hC⟩ : ∃ C, stP ps = C := ⟨_, rfl⟩
        rw [hC] at SB SS SE
        clear hps hr0 hlt0 hl hp hR hC
        have HAL : Hid _ := tab_all HT.out
        go_wp2_with fail
        refine Calls.mono HAL.out ?_
        rintro e WA ⟨a1, c1, rfl, hcr, ba⟩
        have BA : Hid (Below wr.heap.size wr WA) := ba
        have DA : Hid (Below w.heap.size w WA) := HB.out.trans (ba.mono HSZ.out)
        have CR1 : Hid _ := hcr
        clear hcr ba HAL
        go_wp2_with (first
          | refine wpList_load_mid rfl 41 _ rfl b (off + k * 36) rfl ps.toList _ (RW.out _ DA.out) Try.underlying41 rfl (by rw [Array.length_toList]; exact infoPk PS.out.size) ?_
          | refine wpList_build_as rfl 46 _ rfl C (by rw [List.map_toArray]; exact SB.out) ?_
          | fail)
        cases hT : hasT ip fr kk ty co
        · obtain ⟨q0, hq0⟩ := Tab.row (Tab.of HT.out BA.out)
          have HL : Hid _ := look_noT _ w.heap.size _ _ z hz0 (by omega) _ C ps SE.out HPK.out hT WA hq0
          have ZO : Hid _ := zeroC_one
          have ZS : Hid _ := zeroC_size
          obtain ⟨Z, hZ⟩ : ∃ Z, zeroC = Z := ⟨_, rfl⟩
          rw [hZ] at HL ZO ZS
          clear hZ hq0 hT
          refine Calls.mono HL.out ?_
          rintro e W3 ⟨rfl, b3⟩
          have B3 : Hid (Below wr.heap.size wr (W3.alloc (.cells Z 46))) := (BA.out.trans (b3.mono BA.out.size)).alloc (by have := b3.size; have := BA.out.size; omega) _
          clear b3 HL
          go_wp2_with (first
            | refine wpList_store_new rfl 46 _ _ rfl _ Z W3.heap.size rfl rfl rfl (info_size ZS.out) (Eq.trans (b := 49) rfl ZS.out.symm) ZO.out ?_
            | fail)
          go_roundw
          case rel => exact ⟨k + 1, E, O, rfl, by omega, Tab.of HT.out B3.out, HLE.out, HB.out.trans (B3.out.mono HSZ.out)⟩
          case measure => exact meas9 hkn
        · obtain ⟨rfl, _⟩ : ip = true ∧ True := by
            refine ⟨?_, trivial⟩
            simp only [hasT, Bool.and_eq_true] at hT
            exact hT.1
          obtain ⟨o, ho⟩ : ∃ o, (pr, src, dst, portT kk re sp, portT kk re dp) = o := ⟨_, rfl⟩
          have hor : TupR o := by rw [← ho]; exact HR.out
          have HOO : Hid _ := ho
          have HTT : Hid _ := hT
          have HLK : Hid _ := tab_look (Tab.of HT.out BA.out) hz0 (by omega) C ps SS.out SE.out HPK.out hT o ho
          clear ho hT
          refine Calls.mono HLK.out ?_
          rintro e W3 ⟨⟨ct, rfl, k1, k2⟩, b3⟩
          have hct : 0 ≤ ct ∧ ct ≤ 255 := by
            cases hk9 : kn E O o with
            | true => rcases k2 hk9 with rfl | rfl <;> decide
            | false => rw [k1 hk9]; decide
          obtain ⟨F, hF⟩ : ∃ F, lookC C o ct = F := ⟨_, rfl⟩
          have FS : Hid (St F) := by rw [← hF]; exact look_st SS.out hor ct hct
          have FG : Hid (F.extract 44 (44 + 5) = tupC o.1 o.2.1 o.2.2.1 o.2.2.2.1 o.2.2.2.2) := by show _ = _; rw [← hF]; exact look_orig SS.out.size o ct
          have FP : Hid (F.extract 0 (0 + 36) = ps) := by show _ = _; rw [← hF]; exact look_ps SS.out.size SE.out o ct
          have FZ : Hid (F.size = 49) := by show _ = _; rw [← hF]; exact look_size SS.out.size o ct
          have FO : Hid (F.all (·.oneCell') = true) := by show _ = _; rw [← hF]; exact look_one SS.out.one o ct
          have F36 : F[36]? = some (.int .i64 ct) := by rw [← hF]; exact look_36 SS.out.size o ct
          rw [hF]
          have N3 : Hid _ := heap_alloc_new W3 (.cells F 46)
          have c36 : (W3.alloc (.cells F 46)).cell? ⟨W3.heap.size, 36, none⟩ = some (.int .i64 ct) := (cell_row N3.out 36).trans F36
          have B3 : Hid (Below wr.heap.size wr (W3.alloc (.cells F 46))) := (BA.out.trans (b3.mono BA.out.size)).alloc (by have := b3.size; have := BA.out.size; omega) _
          have BC : Hid (Below WA.heap.size WA (W3.alloc (.cells F 46))) := b3.alloc b3.size _
          clear b3 HLK hF hct F36
          cases hkk : kn E O o with
          | true =>
            have hc1 : ¬ ct = 1 := by rcases k2 hkk with rfl | rfl <;> decide
            have hc1' : (ct == 1) = false := by simpa using hc1
            go_wp2_with (first
              | refine wpList_store_new rfl 46 _ _ rfl _ F W3.heap.size rfl rfl rfl (info_size FZ.out) (Eq.trans (b := 49) rfl FZ.out.symm) FO.out ?_
              | fail)
            go_roundw
            case rel => exact ⟨k + 1, E, O, rfl, by omega, Tab.of HT.out B3.out, HLE.out, HB.out.trans (B3.out.mono HSZ.out)⟩
            case measure => exact meas9 hkn
          | false =>
            obtain rfl := k1 hkk
            have HKK : Hid _ := hkk
            clear k1 k2 hkk
            go_wp2_with (first
              | refine wpList_store_new rfl 46 _ _ rfl _ F W3.heap.size rfl rfl rfl (info_size FZ.out) (Eq.trans (b := 49) rfl FZ.out.symm) FO.out ?_
              | refine wpList_load_row rfl 46 _ rfl W3.heap.size rfl 46 F (0, 0) _ N3.out Try.underlying46 rfl (info_size FZ.out) ?_
              | fail)
            have hB3 : w.heap.size ≤ (W3.alloc (.cells F 46)).heap.size := Nat.le_trans HSZ.out B3.out.size
            refine (tab_commit (Tab.of HT.out B3.out) hB3 ⟨by omega, by omega⟩ hz0 (by omega) F ps FS.out FP.out HPK.out HTT.out o HOO.out FG.out).mono ?_
            rintro e W4 ⟨ans, rfl, hth⟩
            clear c36
            rcases hth with ⟨hx, _⟩ | ⟨_, hfull, rfl, b4⟩ | ⟨_, hroom, rfl, E4, O4, hl4, ht4, b4⟩
            · rw [HKK.out] at hx; cases hx
            · have HT4 : Hid _ := Tab.of (Tab.of HT.out B3.out) b4
              have D4 : Hid (Below w.heap.size w W4) := (HB.out.trans (B3.out.mono HSZ.out)).trans (b4.mono hB3)
              have CR4 : Hid _ := CR.of (CR.of CR1.out BC.out) b4
              have hgt : m < (E.length : Int) := by omega
              clear b4 hB3 N3 hfull
              have HAL : Hid _ := tab_all HT4.out
              go_wp2_with fail
              refine Calls.mono HAL.out ?_
              rintro e W5 ⟨a2, c2, rfl, hcr, ba⟩
              have T5 : Hid _ := Tab.of HT4.out ba
              have D5 : Hid (Below w.heap.size w W5) := D4.out.trans (ba.mono D4.out.size)
              have CR5 : Hid _ := CR.of CR4.out ba
              have CR6 : Hid _ := hcr
              clear hcr ba HAL CR4
              go_wp2_with fail
              have hgt2 : (E.length : Int) ≤ 65537 := by have := HLE.out; omega
              go_loopw [15] (fun i wr => ∃ j : Nat, i = .int .i64 j ∧ j ≤ E.length ∧ Hid (Below W5.heap.size W5 wr)) (fun i _ => E.length - (intOf i).toNat)
              case atStart => exact ⟨0, rfl, by omega, Below.refl _ _⟩
              case round =>
                obtain ⟨j, rfl, hj, hbj⟩ := hrel
                have BJ : Hid _ := hbj.out
                clear hbj
                have hj0 : (0 : Int) ≤ j := by omega
                by_cases hjn : j < E.length
                · have hjI : (j : Int) < E.length := by omega
                  obtain ⟨t, ht⟩ := get_srt (O := O) hjn
                  obtain ⟨gA, e1, hg1, hr1⟩ := (CR.of CR5.out BJ.out).at ht
                  obtain ⟨gB, e2, hg2, hr2⟩ := (CR.of CR6.out BJ.out).at ht
                  subst e1 e2
                  have np := neq_conn z t
                  have gp : ∀ u v W, (eqGuard .neq 51 u v (.agg (connC z t (turn t) false 30)) (.agg (connC z t (turn t) false 30))).run Try.prog W = .ok () W := fun u v W => guard_conn9 u v _ _ W
                  obtain ⟨A, hA⟩ : ∃ A, connC z t (turn t) false 30 = A := ⟨_, rfl⟩
                  have hAs : A.size = 13 := by rw [← hA]; rfl
                  rw [hA] at hr1 hr2 np gp
                  have HAS : Hid _ := hAs
                  have RG1 : Hid (∀ V, (∃ q, V = wr.drewN q) → V.rangeAt gB (j * 13) A.toList) := by
                    show ∀ V, _
                    rintro V ⟨q, rfl⟩
                    exact hr2
                  have RG2 : Hid (∀ V, (∃ q, V = wr.drewN q) → V.rangeAt gA (j * 13) A.toList) := by
                    show ∀ V, _
                    rintro V ⟨q, rfl⟩
                    exact hr1
                  clear hr1 hr2 hA hAs ht hg1 hg2
                  go_wp2_with fail
                  refine wp_region_quiet_lit (by kernel_rfl) (by kernel_rfl) ?_
                  repeat (first
                    | (refine quiet_load (by rfl) 51 _ rfl gB (j * 13) rfl A _ RG1.out Try.underlying51 rfl (by rw [HAS.out]; exact infoCn) ?_
                       simp only [List.getElem_toArray, List.getElem_cons_zero, List.getElem_cons_succ, Act.put, List.setIfInBounds_toArray, List.set_cons_zero, List.set_cons_succ])
                    | (refine quiet_load (by rfl) 51 _ rfl gA (j * 13) rfl A _ RG2.out Try.underlying51 rfl (by rw [HAS.out]; exact infoCn) ?_
                       simp only [List.getElem_toArray, List.getElem_cons_zero, List.getElem_cons_succ, Act.put, List.setIfInBounds_toArray, List.set_cons_zero, List.set_cons_succ])
                    | quiet_step (fail))
                  refine wpQuiet_nil ?_
                  intro _ hw'
                  obtain ⟨nq, hw''⟩ := hw'
                  subst hw''
                  clear np gp
                  go_wp2
                  go_roundw
                  case rel => exact ⟨j + 1, rfl, by omega, below_drewN9 BJ.out _⟩
                  case measure => simp [intOf]; omega
                · have hjI : ¬ (j : Int) < E.length := by omega
                  have T6 : Hid _ := Tab.of T5.out BJ.out
                  have D6 : Hid (Below w.heap.size w wr) := D5.out.trans (BJ.out.mono D5.out.size)
                  have HL4 : Hid _ := tab_look_other T6.out (z + 1) hzz (by omega) (by omega) C ps SS.out SE.out HPK.out HTT.out o HOO.out
                  go_wp2_with (first
                    | refine wpList_load_mid rfl 41 _ rfl b (off + k * 36) rfl ps.toList _ (RW.out _ D6.out) Try.underlying41 rfl (by rw [Array.length_toList]; exact infoPk PS.out.size) ?_
                    | refine wpList_build_as rfl 46 _ rfl C (by rw [List.map_toArray]; exact SB.out) ?_
                    | fail)
                  refine Calls.mono HL4.out ?_
                  rintro e W7 ⟨rfl, b7⟩
                  obtain ⟨G, hG⟩ : ∃ G, lookC C o 1 = G := ⟨_, rfl⟩
                  have GZ : Hid (G.size = 49) := by show _ = _; rw [← hG]; exact look_size SS.out.size o 1
                  have GO : Hid (G.all (·.oneCell') = true) := by show _ = _; rw [← hG]; exact look_one SS.out.one o 1
                  have G36 : G[36]? = some (.int .i64 1) := by rw [← hG]; exact look_36 SS.out.size o 1
                  rw [hG]
                  have B7 : Hid (Below wr.heap.size wr (W7.alloc (.cells G 46))) := b7.alloc b7.size _
                  have N7 : Hid _ := heap_alloc_new W7 (.cells G 46)
                  have c36 : (W7.alloc (.cells G 46)).cell? ⟨W7.heap.size, 36, none⟩ = some (.int .i64 1) := (cell_row N7.out 36).trans G36
                  clear b7 HL4 hG G36
                  go_wp2_with (first
                    | refine wpList_store_new rfl 46 _ _ rfl _ G W7.heap.size rfl rfl rfl (info_size GZ.out) (Eq.trans (b := 49) rfl GZ.out.symm) GO.out ?_
                    | fail)
                  go_roundw
                  case rel => exact ⟨k + 1, E, O, rfl, by omega, Tab.of T6.out B7.out, HLE.out, D6.out.trans (B7.out.mono D6.out.size)⟩
                  case measure => exact meas9 hkn
            · have D4 : Hid (Below w.heap.size w W4) := (HB.out.trans (B3.out.mono HSZ.out)).trans b4
              have T4 : Hid _ := ht4
              have hgt : ¬ m < (E.length : Int) := by omega
              clear b4 hB3 N3 ht4
              go_wp2
              go_roundw
              case rel => exact ⟨k + 1, E4, O4, rfl, by omega, T4.out, by omega, D4.out⟩
              case measure => exact meas9 hkn
      · have hkI : ¬ (k : Int) < n := by omega
        have hle := HLE.out
        go_wp2_with fail
        refine (tab_count HT.out).mono ?_
        rintro e V1 ⟨rfl, hv1⟩
        rw [hv1]
        clear hv1
        go_wp2
        go_ret
        exact ⟨by first | (simp; done) | (simp; omega), HB.out⟩)
end Go.Proofs.Ytjjehncnjcepkaa
