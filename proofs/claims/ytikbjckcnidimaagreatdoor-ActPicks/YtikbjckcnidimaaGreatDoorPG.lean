/- The law ActPicks where a way is picked, but for its frame. Conditions: the State's cells are of their kinds; the ways can be read. -/
import Derived.Test.YtikbjckcnidimaaGreatDoorPF
namespace Go.Proofs.YtikbjckcnidimaaGreatDoor
open Go.RowKit
set_option maxRecDepth 20000 in
set_option maxHeartbeats 8000000 in
theorem picks_ok (cs : Array Value) (hst : St cs) (v : Value) (ws : List (Int × Int)) (w : World) (hv : WVal w v ws) (hE : pickE cs ws = 0) : Calls Tryz.prog 6 #[.agg cs, v] w fun e w' => e = .returned (.bool true) ∧ Below w.heap.size w w' := by
  have hok : pickOk ws = true := by
    cases hp : pickOk ws
    · simp [pickE, hp] at hE
    · rfl
  obtain ⟨l1, l2⟩ := pickOk_len hok
  obtain ⟨dst, h18, d1, d2⟩ := hst.u32 18 (by decide)
  obtain ⟨dp, h25, p1, p2⟩ := hst.i64 25 (by decide)
  have heq := fun W => eq_state hst W
  have HST : Hid _ := hst
  have HR : Hid _ := pickR_st hst hv
  obtain ⟨a, n, c, rfl, hnc, hW⟩ := hv
  have hv2 : WVal w (.slice a n c) ws := ⟨a, n, c, rfl, hnc, hW⟩
  have HV : Hid _ := hv2
  obtain ⟨A, hA⟩ : ∃ A, pickA (.slice a n c) = A := ⟨_, rfl⟩
  have ha15 : A.size = 15 := by rw [← hA]; rfl
  have haone : A.all (·.oneCell') = true := by rw [← hA]; exact pickA_one a n c
  have HA15 : Hid _ := ha15
  have HA1 : Hid _ := haone
  have HAE : Hid _ := hA
  have HSTEP : Hid (∀ W, Below w.heap.size w W → Calls Tryz.prog 16 #[.agg cs, .agg A] W fun e W' => e = .returned (.tuple #[.agg (pickR cs ws), .int .i64 (pickE cs ws)]) ∧ Below W.heap.size W W') := by
    show ∀ W, _
    intro W hb; rw [← hA]; exact step_pick hst (hv2.below hb)
  have HCK : Hid (∀ W, Below w.heap.size w W → Calls Tryz.prog 10 #[.agg A] W fun e W' => e = .returned (.int .i64 (if pickOk ws then 0 else 110)) ∧ Below W.heap.size W W') := by
    show ∀ W, _
    intro W hb; rw [← hA]; exact check_pick (hv2.below hb)
  obtain ⟨R, hRR⟩ : ∃ R, pickR cs ws = R := ⟨_, rfl⟩
  rw [hRR] at HR HSTEP
  have HRR : Hid _ := hRR
  have HRI : Hid _ := info_size HR.out.size
  have HI : Hid _ := info_size hst.size
  have hneq := fun W => neq_state HR.out W
  have HS2 : Hid _ := two_first w (.cells cs 50) (.cells A 29)
  have HA2 : Hid _ := two_last w (.cells cs 50) (.cells A 29)
  clear hA ha15 haone hRR hst hv2
  have hl := hW.len
  obtain ⟨b, off, rfl, hcell⟩ := hW.cells.resolve_left (by omega)
  have hjget := pickW_get (cs := cs) l1
  have hjn : pickJ cs ws < n := by rw [← hl]; exact Nat.mod_lt _ l1
  have hRe : R = wayC cs (pickW cs ws).1 (pickW cs ws).2 := by rw [← HRR.out, pickR, if_pos hE]
  obtain ⟨⟨ip, port⟩, hpw⟩ : ∃ t, pickW cs ws = t := ⟨_, rfl⟩
  obtain ⟨j, hjj⟩ : ∃ j, pickJ cs ws = j := ⟨_, rfl⟩
  rw [hpw] at hjget hRe
  rw [hjj] at hjget hjn
  have hz49 := HST.out.size
  have r18 : R[18]? = some (.int .u32 ip) := by rw [hRe]; unfold wayC; rw [Array.getElem?_setIfInBounds_ne (by decide), Array.getElem?_setIfInBounds_self_of_lt (by omega)]
  have r25 : R[25]? = some (.int .i64 port) := by rw [hRe]; unfold wayC; rw [Array.getElem?_setIfInBounds_self_of_lt (by simp; omega)]
  have hback : (R.setIfInBounds 18 (.int .u32 dst)).setIfInBounds 25 (.int .i64 dp) = cs := by rw [hRe]; exact way_back h18 h25
  have HBK : Hid _ := hback
  have HJ : Hid _ := hjget
  have HW : Hid _ := hW
  have H18 : Hid _ := h18
  have H25 : Hid _ := h25
  have R18 : Hid _ := r18
  have R25 : Hid _ := r25
  rw [hE] at HSTEP
  have HEQ : Hid _ := heq
  clear hE hRe hpw hjj hjget hback hcell hW h18 h25 r18 r25 hz49 heq hok
  · go_enter Tryz.func6, Tryz.ntmps6
    go_wp2_with (first
      | refine wpList_store_new rfl 29 _ _ rfl _ A (w.heap.size + 1) (by simp) rfl (by rw [← HAE.out]; rfl) (info15 HA15.out) (Eq.trans (b := 15) rfl HA15.out.symm) HA1.out ?_
      | refine wpList_load_row rfl 50 _ rfl w.heap.size rfl 50 cs (0, 0) _ HS2.out Tryz.underlying50 rfl HI.out ?_
      | refine wpList_load_row rfl 29 _ rfl (w.heap.size + 1) rfl 29 A (0, 0) _ HA2.out Tryz.underlying29 rfl (info15 HA15.out) ?_
      | fail)
    refine (HSTEP.out _ (below2 w _ _)).mono ?_
    rintro e W1 ⟨rfl, hb1⟩
    have hs1 : W1.heap[w.heap.size]? = some (.cells cs 50 (0, 0)) := (hb1.block _ (by simp; omega)).trans HS2.out
    have ha1 : W1.heap[w.heap.size + 1]? = some (.cells A 29 (0, 0)) := (hb1.block _ (by simp)).trans HA2.out
    have hlt1 : w.heap.size + 1 < W1.heap.size := lt_of_heap ha1
    have hB1 : Below w.heap.size w W1 := (below2 w _ _).trans (hb1.mono (by simp; omega))
    have HB1 : Hid _ := hB1
    have hB1a : Below w.heap.size w (W1.alloc (.cells R 50)) := hB1.trans ((below1 W1 _).mono hB1.size)
    have HB1a : Hid _ := hB1a
    have S1 : Hid _ := (heap_alloc_old W1 (.cells R 50) (by omega)).trans hs1
    have A1 : Hid _ := (heap_alloc_old W1 (.cells R 50) (by omega)).trans ha1
    clear hb1 hs1 ha1 hB1 hB1a
    go_wp2_with (first
      | refine wpList_store_new rfl 50 _ _ rfl _ R W1.heap.size rfl rfl rfl HRI.out (Eq.trans (b := 49) rfl HR.out.size.symm) HR.out.one ?_
      | refine wpList_load_row rfl 50 _ rfl w.heap.size rfl 50 cs (0, 0) _ S1.out Tryz.underlying50 rfl HI.out ?_
      | refine wpList_load_row rfl 29 _ rfl (w.heap.size + 1) rfl 29 A (0, 0) _ A1.out Tryz.underlying29 rfl (info15 HA15.out) ?_
      | fail)
    refine (HSTEP.out _ HB1a.out).mono ?_
    rintro e W2 ⟨rfl, hb2⟩
    have hs2 : W2.heap[w.heap.size]? = some (.cells cs 50 (0, 0)) := (hb2.block _ (lt_of_heap S1.out)).trans S1.out
    have ha2 : W2.heap[w.heap.size + 1]? = some (.cells A 29 (0, 0)) := (hb2.block _ (lt_of_heap A1.out)).trans A1.out
    have ht2 : W2.heap[W1.heap.size]? = some (.cells R 50 (0, 0)) := (hb2.block _ (by simp)).trans (heap_alloc_new _ _)
    have hlt2 : W1.heap.size < W2.heap.size := lt_of_heap ht2
    have hB2 : Below w.heap.size w W2 := HB1a.out.trans (hb2.mono HB1a.out.size)
    have HB2 : Hid _ := hB2
    have S2 : Hid _ := hs2
    have A2 : Hid _ := ha2
    have T2 : Hid _ := ht2
    clear hb2 hs2 ha2 ht2 hB2 S1 A1
    go_wp2_with (first
      | refine wpList_store_new rfl 50 _ _ rfl _ R W2.heap.size rfl rfl rfl HRI.out (Eq.trans (b := 49) rfl HR.out.size.symm) HR.out.one ?_
      | fail)
    refine (lives_any _).mono ?_
    rintro e W3 ⟨rfl, hb3⟩
    have S3 : Hid (W3.heap[w.heap.size]? = some (.cells cs 50 (0, 0))) := (hb3.block _ (by simp; omega)).trans ((heap_alloc_old _ _ (by omega)).trans S2.out)
    have H5 : Hid (W3.heap[w.heap.size + 1]? = some (.cells A 29 (0, 0))) := (hb3.block _ (by simp; omega)).trans ((heap_alloc_old _ _ (by omega)).trans A2.out)
    have T3 : Hid (W3.heap[W1.heap.size]? = some (.cells R 50 (0, 0))) := (hb3.block _ (by simp; omega)).trans ((heap_alloc_old _ _ (by omega)).trans T2.out)
    have U3 : Hid (W3.heap[W2.heap.size]? = some (.cells R 50 (0, 0))) := (hb3.block _ (by simp)).trans (heap_alloc_new _ _)
    have HB4 : Hid (Below w.heap.size w W3) := HB2.out.trans (((below1 W2 _).trans (hb3.mono (by simp))).mono HB2.out.size)
    clear hb3 S2 A2 T2
    go_wp2_with (first
      | refine wpList_load_want (by rfl) 50 _ rfl W1.heap.size rfl 50 R (0, 0) _ T3.out Tryz.underlying50 rfl HRI.out ?_
      | refine wpList_load_want (by rfl) 50 _ rfl W2.heap.size rfl 50 R (0, 0) _ U3.out Tryz.underlying50 rfl HRI.out ?_
      | fail)
    go_loopw [10, 11] (fun s i wr => ∃ k : Nat, k ≤ n ∧ i = .int .i64 k ∧ ∃ sm : Bool, s = .bool sm ∧ (j < k → sm = true) ∧ wr.heap[w.heap.size]? = some (.cells cs 50 (0, 0)) ∧ wr.heap[W1.heap.size]? = some (.cells R 50 (0, 0)) ∧ Below w.heap.size w wr) (fun _ i _ => n - (intOf i).toNat)
    case atStart => exact ⟨0, by omega, rfl, false, rfl, fun h => by omega, S3.out, T3.out, HB4.out⟩
    case round =>
      obtain ⟨k, hk, rfl, sm, rfl, hsm, hrr⟩ := hrel
      have HR2 : Hid _ := hrr
      have HSM : Hid _ := hsm
      clear hrr hsm
      by_cases hlt : k < n
      · have hkI : (k : Int) < n := by omega
        have hk0 : (0 : Int) ≤ k := by omega
        have hkl : k < ws.length := by omega
        obtain ⟨⟨t1, t2⟩, ht⟩ : ∃ t, ws[k] = t := ⟨_, rfl⟩
        obtain ⟨b', off', eb, hc⟩ := (HW.out.below HR2.out.2.2).cells.resolve_left (by omega)
        cases eb
        obtain ⟨c0, c1, b0, b1⟩ := hc k (t1, t2) (by rw [List.getElem?_eq_getElem hkl, ht])
        have c18 := (cell_row HR2.out.2.1 18).trans R18.out
        have c25 := (cell_row HR2.out.2.1 25).trans R25.out
        have hit : k = j → t1 = ip ∧ t2 = port := fun e => by
          subst e
          have := HJ.out
          rw [List.getElem?_eq_getElem hkl, ht] at this
          injection this with this
          injection this with e1 e2
          exact ⟨e1, e2⟩
        have HIT : Hid _ := hit
        clear hc ht hit
        cases sm
        · by_cases e1 : t1 = ip
          · by_cases e2 : t2 = port
            · subst e1
              subst e2
              go_wp2_with fail
              go_quiet (fail)
              go_wp2
              go_roundw
              case rel =>
                refine ⟨k + 1, by omega, by go_num, _, rfl, ?_, HR2.out.1, HR2.out.2.1, below_drewN HR2.out.2.2 _⟩
                intro _; rfl
              case measure => simp [intOf]; omega
            · have e2' : (t2 == port) = false := by simp [e2]
              subst e1
              go_wp2_with fail
              go_quiet (fail)
              go_wp2
              go_roundw
              case rel =>
                refine ⟨k + 1, by omega, by go_num, _, rfl, ?_, HR2.out.1, HR2.out.2.1, below_drewN HR2.out.2.2 _⟩
                intro hj; exfalso; have h3 := HSM.out; have h4 := HIT.out; by_cases e : j = k <;> first | (exact absurd (h4 e.symm).2 e2) | (exact absurd (h3 (by omega)) (by decide))
              case measure => simp [intOf]; omega
          · have e1' : (t1 == ip) = false := by simp [e1]
            go_wp2_with fail
            go_quiet (fail)
            go_wp2
            go_roundw
            case rel =>
              refine ⟨k + 1, by omega, by go_num, _, rfl, ?_, HR2.out.1, HR2.out.2.1, below_drewN HR2.out.2.2 _⟩
              intro hj; exfalso; have h3 := HSM.out; have h4 := HIT.out; by_cases e : j = k <;> first | (exact absurd (h4 e.symm).1 e1) | (exact absurd (h3 (by omega)) (by decide))
            case measure => simp [intOf]; omega
        · skip
          go_wp2_with fail
          go_quiet (fail)
          go_wp2
          go_roundw
          case rel =>
            refine ⟨k + 1, by omega, by go_num, _, rfl, ?_, HR2.out.1, HR2.out.2.1, below_drewN HR2.out.2.2 _⟩
            intro _; rfl
          case measure => simp [intOf]; omega
      · obtain rfl : k = n := by omega
        have hst2 : sm = true := HSM.out hjn
        subst hst2
        have c18 := (cell_row HR2.out.1 18).trans H18.out
        have c25 := (cell_row HR2.out.1 25).trans H25.out
        have e18 := (cell_row HR2.out.2.1 18).trans R18.out
        have e25 := (cell_row HR2.out.2.1 25).trans R25.out
        have f18 := frozen_of_row wr _ 18 _ _ HR2.out.2.1
        have f25 := frozen_of_row wr _ 25 _ _ HR2.out.2.1
        have hne : w.heap.size ≠ W1.heap.size := by omega
        clear hneq
        go_wp2_with fail
        go_region
        have hbw2 : ∀ u v, Below w.heap.size w (((wr.setCell ⟨W1.heap.size, 18, none⟩ u).setCell ⟨W1.heap.size, 25, none⟩ v).drew) := fun u v => ((HR2.out.2.2.setCell (show w.heap.size ≤ W1.heap.size by omega) u).setCell (show w.heap.size ≤ W1.heap.size by omega) v).drew
        have hrow : ∀ u v, ((wr.setCell ⟨W1.heap.size, 18, none⟩ u).setCell ⟨W1.heap.size, 25, none⟩ v).drew.heap[W1.heap.size]? = some (.cells ((R.setIfInBounds 18 u).setIfInBounds 25 v) 50 (0, 0)) := fun u v => row_setCell (row_setCell HR2.out.2.1 18 u) 25 v
        have q1 : ((wr.setCell ⟨W1.heap.size, 18, none⟩ (.int .u32 dst)).setCell ⟨W1.heap.size, 25, none⟩ (.int .i64 dp)).drew.heap[W1.heap.size]? = some (.cells cs 50 (0, 0)) := by rw [hrow, HBK.out]
        have q0 : ((wr.setCell ⟨W1.heap.size, 18, none⟩ (.int .u32 dst)).setCell ⟨W1.heap.size, 25, none⟩ (.int .i64 dp)).drew.heap[w.heap.size]? = some (.cells cs 50 (0, 0)) := ((Below.heap_setCell _ _ _ _ hne).trans (Below.heap_setCell _ _ _ _ hne)).trans HR2.out.1
        have qb := hbw2 (.int .u32 dst) (.int .i64 dp)
        clear hrow hbw2 c18 c25 e18 e25 f18 f25
        generalize ((wr.setCell ⟨W1.heap.size, 18, none⟩ (.int .u32 dst)).setCell ⟨W1.heap.size, 25, none⟩ (.int .i64 dp)).drew = V at *
        have Q0 : Hid _ := q0
        have Q1 : Hid _ := q1
        have QB : Hid _ := qb
        have heq := HEQ.out
        clear q0 q1 qb
        go_wp2_with (first
          | refine wpList_load_want (by rfl) 50 _ rfl W1.heap.size rfl 50 cs (0, 0) _ Q1.out Tryz.underlying50 rfl HI.out ?_
          | refine wpList_load_want (by rfl) 50 _ rfl w.heap.size rfl 50 cs (0, 0) _ Q0.out Tryz.underlying50 rfl HI.out ?_
          | fail)
        go_ret
        exact ⟨rfl, QB.out⟩
theorem picks_any (W : World) (cs : Array Value) (hst : St cs) (v : Value) (ws : List (Int × Int)) (hv : WVal W v ws) : Calls Tryz.prog 6 #[.agg cs, v] W fun e w' => e = .returned (.bool true) ∧ Below W.heap.size W w' := by
  by_cases hE : pickE cs ws = 0
  · exact picks_ok cs hst v ws W hv hE
  · exact picks_err cs hst v ws W hv hE
end Go.Proofs.YtikbjckcnidimaaGreatDoor
