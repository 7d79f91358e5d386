/- The law ActClones, but for its frame. No condition. -/
import Derived.Test.YtikbjckcnidimaaGreatDoorAL
namespace Go.Proofs.YtikbjckcnidimaaGreatDoor
open Go.RowKit
theorem ret_bool {a b : Bool} (h : a = b) : Ending.returned (.bool a) = .returned (.bool b) := by rw [h]
set_option maxRecDepth 20000 in
set_option maxHeartbeats 4000000 in
theorem clones_pp (deep count : Int) (n m : Nat) (hn : n ≤ 7) (hm : m ≤ 4099) (hr : deep.tmod 8 = (n : Int)) (hq : count.tmod 4100 = (m : Int)) (w : World) :
    Calls Tryz.prog 8 #[.int .i64 deep, .int .i64 count] w fun e w' => e = .returned (.bool true) ∧ Below w.heap.size w w' := by
  have hmk := fun w => make_acts w m (by omega)
  have HMK : Hid _ := hmk
  clear hmk
  have hnI : (0 : Int) ≤ n := by omega
  have hnI7 : (n : Int) ≤ 7 := by omega
  have hmI : (0 : Int) ≤ m := by omega
  have hmI9 : (m : Int) ≤ 4099 := by omega
  go_enter Tryz.func8, Tryz.ntmps8
  go_wp2_with fail
  clear hr hq
  go_loopw [8] (fun i wr => ∃ k : Nat, k ≤ n ∧ i = .int .i64 k ∧ Hid (∃ A, wr.heap[w.heap.size]? = some (.cells A 29 (0, 0)) ∧ A.size = 15 ∧ A.all (·.oneCell') = true ∧ Nest w.heap.size wr k A ∧ Below w.heap.size w wr)) (fun i _ => n - (intOf i).toNat)
  case atStart => exact ⟨0, by omega, rfl, leafA 3, heap_alloc_new _ _, rfl, by kernel_rfl, rfl, below1 _ _⟩
  case round =>
    obtain ⟨k, hk, rfl, hrel⟩ := hrel
    obtain ⟨A, hA, hs, ho, hN, hb⟩ := hrel.out
    have HA : Hid _ := hA
    have HS : Hid _ := hs
    have HO : Hid _ := ho
    have HN : Hid _ := hN
    have HB : Hid _ := hb
    have hz : w.heap.size < wr.heap.size := lt_of_heap hA
    have HA2 : Hid _ := (heap_alloc_old wr (.cells A 29) hz).trans hA
    clear hrel hA hs ho hN hb
    by_cases hlt : k < n
    · have hkI : (k : Int) < n := by omega
      clear HMK
      go_wp2_with (first
        | refine wpList_load_row rfl 29 _ rfl w.heap.size rfl 29 A (0, 0) _ HA.out Tryz.underlying29 rfl (info15 HS.out) ?_
        | refine wpList_build1 rfl _ rfl A rfl HS.out ?_
        | refine wpList_store_row rfl 29 _ _ rfl w.heap.size A (cloneA (.slice (some ⟨wr.heap.size, 0, none⟩) 1 1)) 29 rfl rfl HA2.out (info15 rfl) (HS.out.trans rfl) (cloneA_one _ _ _) ?_
        | fail)
      intro W9 z1 z2 z3 z4
      have hrest : Hid (∃ A, W9.heap[w.heap.size]? = some (.cells A 29 (0, 0)) ∧ A.size = 15 ∧ A.all (·.oneCell') = true ∧ Nest w.heap.size W9 (k + 1) A ∧ Below w.heap.size w W9) := by
        refine ⟨_, z1, rfl, cloneA_one _ _ _, ⟨wr.heap.size, A, hz, rfl, (z2 _ (by omega)).trans (heap_alloc_new _ _), HS.out, HO.out, ?_⟩, ?_⟩
        · refine HN.out.keep (fun j hj hj2 => (z2 j (by omega)).trans (heap_alloc_old _ _ hj2))
        · exact (HB.out.trans ((below1 wr _).mono HB.out.size)).trans z4
      clear z1 z2 z3 z4
      go_wp2
      go_roundw
      case rel => exact ⟨k + 1, by omega, by go_num, hrest⟩
      case measure => simp [intOf]; omega
    · obtain rfl : k = n := by omega
      rename World => wo
      have hmk := HMK.out wo
      have HN0 : Hid _ := hops_made m
      obtain ⟨C0, hC0⟩ : ∃ C0, madeCells (leafA 0) (m * 15) = C0 := ⟨_, rfl⟩
      rw [hC0] at hmk HN0
      clear HMK hC0
      go_wp2_with fail
      clear hmk
      go_loopw [10] (fun i wr => ∃ j : Nat, j ≤ m ∧ i = .int .i64 j ∧ Hid (∃ C, wr.heap[wo.heap.size]? = some (.cells C 29 (0, 0)) ∧ Hops C m j ∧ Below wo.heap.size wo wr)) (fun i _ => m - (intOf i).toNat)
      case atStart => exact ⟨0, by omega, rfl, C0, heap_alloc_new _ _, HN0.out, below1 _ _⟩
      case round =>
        obtain ⟨j, hj, rfl, hrel⟩ := hrel
        obtain ⟨C, hC, hH, hb2⟩ := hrel.out
        have HC : Hid _ := hC
        have HH : Hid _ := hH
        have HB2 : Hid _ := hb2
        clear hrel hC hH hb2
        by_cases hlt2 : j < m
        · have hjI : (j : Int) < m := by omega
          have hj0 : (0 : Int) ≤ j := by omega
          have hin : j * 15 + (leafA 3).size ≤ C.size := by rw [HH.out.size]; show j * 15 + 15 ≤ m * 15; omega
          have HIN : Hid _ := hin
          have hl1 : (leafA 3).all (·.oneCell') = true := by kernel_rfl
          have HL1 : Hid _ := hl1
          clear hin hl1
          go_wp2_with (first
            | refine wpList_store_at rfl 29 _ _ rfl wo.heap.size (j * 15) C (leafA 3) 29 rfl rfl HC.out size15 HIN.out HL1.out ?_
            | fail)
          intro W9 z1 z2 z3 z4
          have hrest : Hid (∃ C, W9.heap[wo.heap.size]? = some (.cells C 29 (0, 0)) ∧ Hops C m (j + 1) ∧ Below wo.heap.size wo W9) := ⟨_, z1, HH.out.next hlt2, HB2.out.trans z4⟩
          clear z1 z2 z3 z4
          go_wp2
          go_roundw
          case rel => exact ⟨j + 1, by omega, by go_num, hrest⟩
          case measure => simp [intOf]; omega
        · obtain rfl : j = m := by omega
          obtain ⟨s0, hs0⟩ : ∃ s0, cloneA (.slice (some ⟨wo.heap.size, 0, none⟩) j j) = s0 := ⟨_, rfl⟩
          have HS0 : Hid _ := hs0
          clear hs0
          go_wp2_with (first
            | (refine wpList_build1 rfl _ rfl (cloneA (.slice (some ⟨wo.heap.size, 0, none⟩) j j)) rfl rfl ?_; rw [HS0.out])
            | fail)
          refine (lives_any _).mono ?_
          rintro e V1 ⟨rfl, hv1⟩
          have hzq : wo.heap.size < wr.heap.size := lt_of_heap HC.out
          have q1 : V1.heap[wr.heap.size]? = some (.cells s0 29 (0, 0)) := (hv1.block _ (by simp)).trans (heap_alloc_new _ _)
          have q2 : V1.heap[wo.heap.size]? = some (.cells C 29 (0, 0)) := (hv1.block _ (by simp; omega)).trans ((heap_alloc_old _ _ hzq).trans HC.out)
          have hbw : Below wo.heap.size wo V1 := (HB2.out.trans ((below1 wr _).mono HB2.out.size)).trans (hv1.mono (by simp; omega))
          have q7 : V1.heap[w.heap.size]? = some (.cells A 29 (0, 0)) := (hbw.block _ hz).trans HA.out
          have hNV : Nest w.heap.size V1 k A := HN.out.below hbw
          have Q1 : Hid _ := q1
          have Q2 : Hid _ := q2
          have Q7 : Hid _ := q7
          have HNV : Hid _ := hNV
          have HBV : Hid (Below w.heap.size w V1) := HB.out.trans (hbw.mono HB.out.size)
          clear hv1 q1 q2 q7 hNV hbw
          by_cases hn4 : k ≤ 4 <;> by_cases hm4 : j + 1 ≤ 4096
          all_goals
            go_wp2_with (first
              | refine wpList_load_want (by rfl) 29 _ rfl w.heap.size rfl 29 A (0, 0) _ Q7.out Tryz.underlying29 rfl (info15 HS.out) ?_
              | fail)
            refine (check_gen A HS.out (decide ((0 : Int) + k ≤ 4)) _ (fun W hW => nest_right w.heap.size k A 0 W (by omega) (by omega) (HNV.out.below hW))).mono ?_
            first
              | rw [show decide ((0 : Int) + k ≤ 4) = true by simp; omega, if_pos rfl]
              | rw [show decide ((0 : Int) + k ≤ 4) = false by simp; omega, if_neg (by simp)]
            rintro e V2 ⟨rfl, hv2⟩
            have Q12 : Hid _ := (hv2.block _ (lt_of_heap Q1.out)).trans Q1.out
            have Q22 : Hid _ := (hv2.block _ (lt_of_heap Q2.out)).trans Q2.out
            have HBV2 : Hid (Below w.heap.size w V2) := HBV.out.trans (hv2.mono HBV.out.size)
            clear hv2
            first
              | have hk4 : (k : Int) ≤ 4 := by omega
              | have hk4 : 4 < (k : Int) := by omega
            first
              | have hj4 : (j : Int) + 1 ≤ 4096 := by omega
              | have hj4 : 4096 < (j : Int) + 1 := by omega
            go_wp2_with fail
            refine (checkAll_hops wr.heap.size wo.heap.size j j C (by omega) _ (by rw [HS0.out]; exact Q12.out) Q22.out HH.out).mono ?_
            rw [limE]
            first
              | rw [if_pos hm4]
              | rw [if_neg hm4]
            rintro e V3 ⟨rfl, hv3⟩
            have HBV3 : Hid (Below w.heap.size w V3) := HBV2.out.trans (hv3.mono HBV2.out.size)
            clear hv3
            go_wp2
            go_ret
            refine ⟨?_, HBV3.out⟩
            first
              | rfl
              | exact ret_bool (by simp; omega)
              | exact ret_bool (by simp <;> omega)
set_option maxRecDepth 20000 in
set_option maxHeartbeats 4000000 in
theorem clones_np (deep count : Int) (n m : Nat) (hn : n ≤ 7) (hm : m ≤ 4099) (h1 : 1 ≤ n) (hr : deep.tmod 8 = -(n : Int)) (hq : count.tmod 4100 = (m : Int)) (w : World) :
    Calls Tryz.prog 8 #[.int .i64 deep, .int .i64 count] w fun e w' => e = .returned (.bool true) ∧ Below w.heap.size w w' := by
  have hn1 : 1 ≤ n := h1
  have hpos : 0 < n := h1
  have hneg : -(n : Int) < 0 := by omega
  have hnn : - -(n : Int) = n := by omega
  have hmk := fun w => make_acts w m (by omega)
  have HMK : Hid _ := hmk
  clear hmk
  have hnI : (0 : Int) ≤ n := by omega
  have hnI7 : (n : Int) ≤ 7 := by omega
  have hmI : (0 : Int) ≤ m := by omega
  have hmI9 : (m : Int) ≤ 4099 := by omega
  go_enter Tryz.func8, Tryz.ntmps8
  go_wp2_with fail
  clear hr hq
  go_loopw [8] (fun i wr => ∃ k : Nat, k ≤ n ∧ i = .int .i64 k ∧ Hid (∃ A, wr.heap[w.heap.size]? = some (.cells A 29 (0, 0)) ∧ A.size = 15 ∧ A.all (·.oneCell') = true ∧ Nest w.heap.size wr k A ∧ Below w.heap.size w wr)) (fun i _ => n - (intOf i).toNat)
  case atStart => exact ⟨0, by omega, rfl, leafA 3, heap_alloc_new _ _, rfl, by kernel_rfl, rfl, below1 _ _⟩
  case round =>
    obtain ⟨k, hk, rfl, hrel⟩ := hrel
    obtain ⟨A, hA, hs, ho, hN, hb⟩ := hrel.out
    have HA : Hid _ := hA
    have HS : Hid _ := hs
    have HO : Hid _ := ho
    have HN : Hid _ := hN
    have HB : Hid _ := hb
    have hz : w.heap.size < wr.heap.size := lt_of_heap hA
    have HA2 : Hid _ := (heap_alloc_old wr (.cells A 29) hz).trans hA
    clear hrel hA hs ho hN hb
    by_cases hlt : k < n
    · have hkI : (k : Int) < n := by omega
      clear HMK
      go_wp2_with (first
        | refine wpList_load_row rfl 29 _ rfl w.heap.size rfl 29 A (0, 0) _ HA.out Tryz.underlying29 rfl (info15 HS.out) ?_
        | refine wpList_build1 rfl _ rfl A rfl HS.out ?_
        | refine wpList_store_row rfl 29 _ _ rfl w.heap.size A (cloneA (.slice (some ⟨wr.heap.size, 0, none⟩) 1 1)) 29 rfl rfl HA2.out (info15 rfl) (HS.out.trans rfl) (cloneA_one _ _ _) ?_
        | fail)
      intro W9 z1 z2 z3 z4
      have hrest : Hid (∃ A, W9.heap[w.heap.size]? = some (.cells A 29 (0, 0)) ∧ A.size = 15 ∧ A.all (·.oneCell') = true ∧ Nest w.heap.size W9 (k + 1) A ∧ Below w.heap.size w W9) := by
        refine ⟨_, z1, rfl, cloneA_one _ _ _, ⟨wr.heap.size, A, hz, rfl, (z2 _ (by omega)).trans (heap_alloc_new _ _), HS.out, HO.out, ?_⟩, ?_⟩
        · refine HN.out.keep (fun j hj hj2 => (z2 j (by omega)).trans (heap_alloc_old _ _ hj2))
        · exact (HB.out.trans ((below1 wr _).mono HB.out.size)).trans z4
      clear z1 z2 z3 z4
      go_wp2
      go_roundw
      case rel => exact ⟨k + 1, by omega, by go_num, hrest⟩
      case measure => simp [intOf]; omega
    · obtain rfl : k = n := by omega
      rename World => wo
      have hmk := HMK.out wo
      have HN0 : Hid _ := hops_made m
      obtain ⟨C0, hC0⟩ : ∃ C0, madeCells (leafA 0) (m * 15) = C0 := ⟨_, rfl⟩
      rw [hC0] at hmk HN0
      clear HMK hC0
      go_wp2_with fail
      clear hmk
      go_loopw [10] (fun i wr => ∃ j : Nat, j ≤ m ∧ i = .int .i64 j ∧ Hid (∃ C, wr.heap[wo.heap.size]? = some (.cells C 29 (0, 0)) ∧ Hops C m j ∧ Below wo.heap.size wo wr)) (fun i _ => m - (intOf i).toNat)
      case atStart => exact ⟨0, by omega, rfl, C0, heap_alloc_new _ _, HN0.out, below1 _ _⟩
      case round =>
        obtain ⟨j, hj, rfl, hrel⟩ := hrel
        obtain ⟨C, hC, hH, hb2⟩ := hrel.out
        have HC : Hid _ := hC
        have HH : Hid _ := hH
        have HB2 : Hid _ := hb2
        clear hrel hC hH hb2
        by_cases hlt2 : j < m
        · have hjI : (j : Int) < m := by omega
          have hj0 : (0 : Int) ≤ j := by omega
          have hin : j * 15 + (leafA 3).size ≤ C.size := by rw [HH.out.size]; show j * 15 + 15 ≤ m * 15; omega
          have HIN : Hid _ := hin
          have hl1 : (leafA 3).all (·.oneCell') = true := by kernel_rfl
          have HL1 : Hid _ := hl1
          clear hin hl1
          go_wp2_with (first
            | refine wpList_store_at rfl 29 _ _ rfl wo.heap.size (j * 15) C (leafA 3) 29 rfl rfl HC.out size15 HIN.out HL1.out ?_
            | fail)
          intro W9 z1 z2 z3 z4
          have hrest : Hid (∃ C, W9.heap[wo.heap.size]? = some (.cells C 29 (0, 0)) ∧ Hops C m (j + 1) ∧ Below wo.heap.size wo W9) := ⟨_, z1, HH.out.next hlt2, HB2.out.trans z4⟩
          clear z1 z2 z3 z4
          go_wp2
          go_roundw
          case rel => exact ⟨j + 1, by omega, by go_num, hrest⟩
          case measure => simp [intOf]; omega
        · obtain rfl : j = m := by omega
          obtain ⟨s0, hs0⟩ : ∃ s0, cloneA (.slice (some ⟨wo.heap.size, 0, none⟩) j j) = s0 := ⟨_, rfl⟩
          have HS0 : Hid _ := hs0
          clear hs0
          go_wp2_with (first
            | (refine wpList_build1 rfl _ rfl (cloneA (.slice (some ⟨wo.heap.size, 0, none⟩) j j)) rfl rfl ?_; rw [HS0.out])
            | fail)
          refine (lives_any _).mono ?_
          rintro e V1 ⟨rfl, hv1⟩
          have hzq : wo.heap.size < wr.heap.size := lt_of_heap HC.out
          have q1 : V1.heap[wr.heap.size]? = some (.cells s0 29 (0, 0)) := (hv1.block _ (by simp)).trans (heap_alloc_new _ _)
          have q2 : V1.heap[wo.heap.size]? = some (.cells C 29 (0, 0)) := (hv1.block _ (by simp; omega)).trans ((heap_alloc_old _ _ hzq).trans HC.out)
          have hbw : Below wo.heap.size wo V1 := (HB2.out.trans ((below1 wr _).mono HB2.out.size)).trans (hv1.mono (by simp; omega))
          have q7 : V1.heap[w.heap.size]? = some (.cells A 29 (0, 0)) := (hbw.block _ hz).trans HA.out
          have hNV : Nest w.heap.size V1 k A := HN.out.below hbw
          have Q1 : Hid _ := q1
          have Q2 : Hid _ := q2
          have Q7 : Hid _ := q7
          have HNV : Hid _ := hNV
          have HBV : Hid (Below w.heap.size w V1) := HB.out.trans (hbw.mono HB.out.size)
          clear hv1 q1 q2 q7 hNV hbw
          by_cases hn4 : k ≤ 4 <;> by_cases hm4 : j + 1 ≤ 4096
          all_goals
            go_wp2_with (first
              | refine wpList_load_want (by rfl) 29 _ rfl w.heap.size rfl 29 A (0, 0) _ Q7.out Tryz.underlying29 rfl (info15 HS.out) ?_
              | fail)
            refine (check_gen A HS.out (decide ((0 : Int) + k ≤ 4)) _ (fun W hW => nest_right w.heap.size k A 0 W (by omega) (by omega) (HNV.out.below hW))).mono ?_
            first
              | rw [show decide ((0 : Int) + k ≤ 4) = true by simp; omega, if_pos rfl]
              | rw [show decide ((0 : Int) + k ≤ 4) = false by simp; omega, if_neg (by simp)]
            rintro e V2 ⟨rfl, hv2⟩
            have Q12 : Hid _ := (hv2.block _ (lt_of_heap Q1.out)).trans Q1.out
            have Q22 : Hid _ := (hv2.block _ (lt_of_heap Q2.out)).trans Q2.out
            have HBV2 : Hid (Below w.heap.size w V2) := HBV.out.trans (hv2.mono HBV.out.size)
            clear hv2
            first
              | have hk4 : (k : Int) ≤ 4 := by omega
              | have hk4 : 4 < (k : Int) := by omega
            first
              | have hj4 : (j : Int) + 1 ≤ 4096 := by omega
              | have hj4 : 4096 < (j : Int) + 1 := by omega
            go_wp2_with fail
            refine (checkAll_hops wr.heap.size wo.heap.size j j C (by omega) _ (by rw [HS0.out]; exact Q12.out) Q22.out HH.out).mono ?_
            rw [limE]
            first
              | rw [if_pos hm4]
              | rw [if_neg hm4]
            rintro e V3 ⟨rfl, hv3⟩
            have HBV3 : Hid (Below w.heap.size w V3) := HBV2.out.trans (hv3.mono HBV2.out.size)
            clear hv3
            go_wp2
            go_ret
            refine ⟨?_, HBV3.out⟩
            first
              | rfl
              | exact ret_bool (by simp; omega)
              | exact ret_bool (by simp <;> omega)
set_option maxRecDepth 20000 in
set_option maxHeartbeats 4000000 in
theorem clones_pn (deep count : Int) (n m : Nat) (hn : n ≤ 7) (hm : m ≤ 4099) (h2 : 1 ≤ m) (hr : deep.tmod 8 = (n : Int)) (hq : count.tmod 4100 = -(m : Int)) (w : World) :
    Calls Tryz.prog 8 #[.int .i64 deep, .int .i64 count] w fun e w' => e = .returned (.bool true) ∧ Below w.heap.size w w' := by
  have hm1 : 1 ≤ m := h2
  have hposm : 0 < m := h2
  have hnegm : -(m : Int) < 0 := by omega
  have hmm : - -(m : Int) = m := by omega
  have hmk := fun w => make_acts w m (by omega)
  have HMK : Hid _ := hmk
  clear hmk
  have hnI : (0 : Int) ≤ n := by omega
  have hnI7 : (n : Int) ≤ 7 := by omega
  have hmI : (0 : Int) ≤ m := by omega
  have hmI9 : (m : Int) ≤ 4099 := by omega
  go_enter Tryz.func8, Tryz.ntmps8
  go_wp2_with fail
  clear hr hq
  go_loopw [8] (fun i wr => ∃ k : Nat, k ≤ n ∧ i = .int .i64 k ∧ Hid (∃ A, wr.heap[w.heap.size]? = some (.cells A 29 (0, 0)) ∧ A.size = 15 ∧ A.all (·.oneCell') = true ∧ Nest w.heap.size wr k A ∧ Below w.heap.size w wr)) (fun i _ => n - (intOf i).toNat)
  case atStart => exact ⟨0, by omega, rfl, leafA 3, heap_alloc_new _ _, rfl, by kernel_rfl, rfl, below1 _ _⟩
  case round =>
    obtain ⟨k, hk, rfl, hrel⟩ := hrel
    obtain ⟨A, hA, hs, ho, hN, hb⟩ := hrel.out
    have HA : Hid _ := hA
    have HS : Hid _ := hs
    have HO : Hid _ := ho
    have HN : Hid _ := hN
    have HB : Hid _ := hb
    have hz : w.heap.size < wr.heap.size := lt_of_heap hA
    have HA2 : Hid _ := (heap_alloc_old wr (.cells A 29) hz).trans hA
    clear hrel hA hs ho hN hb
    by_cases hlt : k < n
    · have hkI : (k : Int) < n := by omega
      clear HMK
      go_wp2_with (first
        | refine wpList_load_row rfl 29 _ rfl w.heap.size rfl 29 A (0, 0) _ HA.out Tryz.underlying29 rfl (info15 HS.out) ?_
        | refine wpList_build1 rfl _ rfl A rfl HS.out ?_
        | refine wpList_store_row rfl 29 _ _ rfl w.heap.size A (cloneA (.slice (some ⟨wr.heap.size, 0, none⟩) 1 1)) 29 rfl rfl HA2.out (info15 rfl) (HS.out.trans rfl) (cloneA_one _ _ _) ?_
        | fail)
      intro W9 z1 z2 z3 z4
      have hrest : Hid (∃ A, W9.heap[w.heap.size]? = some (.cells A 29 (0, 0)) ∧ A.size = 15 ∧ A.all (·.oneCell') = true ∧ Nest w.heap.size W9 (k + 1) A ∧ Below w.heap.size w W9) := by
        refine ⟨_, z1, rfl, cloneA_one _ _ _, ⟨wr.heap.size, A, hz, rfl, (z2 _ (by omega)).trans (heap_alloc_new _ _), HS.out, HO.out, ?_⟩, ?_⟩
        · refine HN.out.keep (fun j hj hj2 => (z2 j (by omega)).trans (heap_alloc_old _ _ hj2))
        · exact (HB.out.trans ((below1 wr _).mono HB.out.size)).trans z4
      clear z1 z2 z3 z4
      go_wp2
      go_roundw
      case rel => exact ⟨k + 1, by omega, by go_num, hrest⟩
      case measure => simp [intOf]; omega
    · obtain rfl : k = n := by omega
      rename World => wo
      have hmk := HMK.out wo
      have HN0 : Hid _ := hops_made m
      obtain ⟨C0, hC0⟩ : ∃ C0, madeCells (leafA 0) (m * 15) = C0 := ⟨_, rfl⟩
      rw [hC0] at hmk HN0
      clear HMK hC0
      go_wp2_with fail
      clear hmk
      go_loopw [10] (fun i wr => ∃ j : Nat, j ≤ m ∧ i = .int .i64 j ∧ Hid (∃ C, wr.heap[wo.heap.size]? = some (.cells C 29 (0, 0)) ∧ Hops C m j ∧ Below wo.heap.size wo wr)) (fun i _ => m - (intOf i).toNat)
      case atStart => exact ⟨0, by omega, rfl, C0, heap_alloc_new _ _, HN0.out, below1 _ _⟩
      case round =>
        obtain ⟨j, hj, rfl, hrel⟩ := hrel
        obtain ⟨C, hC, hH, hb2⟩ := hrel.out
        have HC : Hid _ := hC
        have HH : Hid _ := hH
        have HB2 : Hid _ := hb2
        clear hrel hC hH hb2
        by_cases hlt2 : j < m
        · have hjI : (j : Int) < m := by omega
          have hj0 : (0 : Int) ≤ j := by omega
          have hin : j * 15 + (leafA 3).size ≤ C.size := by rw [HH.out.size]; show j * 15 + 15 ≤ m * 15; omega
          have HIN : Hid _ := hin
          have hl1 : (leafA 3).all (·.oneCell') = true := by kernel_rfl
          have HL1 : Hid _ := hl1
          clear hin hl1
          go_wp2_with (first
            | refine wpList_store_at rfl 29 _ _ rfl wo.heap.size (j * 15) C (leafA 3) 29 rfl rfl HC.out size15 HIN.out HL1.out ?_
            | fail)
          intro W9 z1 z2 z3 z4
          have hrest : Hid (∃ C, W9.heap[wo.heap.size]? = some (.cells C 29 (0, 0)) ∧ Hops C m (j + 1) ∧ Below wo.heap.size wo W9) := ⟨_, z1, HH.out.next hlt2, HB2.out.trans z4⟩
          clear z1 z2 z3 z4
          go_wp2
          go_roundw
          case rel => exact ⟨j + 1, by omega, by go_num, hrest⟩
          case measure => simp [intOf]; omega
        · obtain rfl : j = m := by omega
          obtain ⟨s0, hs0⟩ : ∃ s0, cloneA (.slice (some ⟨wo.heap.size, 0, none⟩) j j) = s0 := ⟨_, rfl⟩
          have HS0 : Hid _ := hs0
          clear hs0
          go_wp2_with (first
            | (refine wpList_build1 rfl _ rfl (cloneA (.slice (some ⟨wo.heap.size, 0, none⟩) j j)) rfl rfl ?_; rw [HS0.out])
            | fail)
          refine (lives_any _).mono ?_
          rintro e V1 ⟨rfl, hv1⟩
          have hzq : wo.heap.size < wr.heap.size := lt_of_heap HC.out
          have q1 : V1.heap[wr.heap.size]? = some (.cells s0 29 (0, 0)) := (hv1.block _ (by simp)).trans (heap_alloc_new _ _)
          have q2 : V1.heap[wo.heap.size]? = some (.cells C 29 (0, 0)) := (hv1.block _ (by simp; omega)).trans ((heap_alloc_old _ _ hzq).trans HC.out)
          have hbw : Below wo.heap.size wo V1 := (HB2.out.trans ((below1 wr _).mono HB2.out.size)).trans (hv1.mono (by simp; omega))
          have q7 : V1.heap[w.heap.size]? = some (.cells A 29 (0, 0)) := (hbw.block _ hz).trans HA.out
          have hNV : Nest w.heap.size V1 k A := HN.out.below hbw
          have Q1 : Hid _ := q1
          have Q2 : Hid _ := q2
          have Q7 : Hid _ := q7
          have HNV : Hid _ := hNV
          have HBV : Hid (Below w.heap.size w V1) := HB.out.trans (hbw.mono HB.out.size)
          clear hv1 q1 q2 q7 hNV hbw
          by_cases hn4 : k ≤ 4 <;> by_cases hm4 : j + 1 ≤ 4096
          all_goals
            go_wp2_with (first
              | refine wpList_load_want (by rfl) 29 _ rfl w.heap.size rfl 29 A (0, 0) _ Q7.out Tryz.underlying29 rfl (info15 HS.out) ?_
              | fail)
            refine (check_gen A HS.out (decide ((0 : Int) + k ≤ 4)) _ (fun W hW => nest_right w.heap.size k A 0 W (by omega) (by omega) (HNV.out.below hW))).mono ?_
            first
              | rw [show decide ((0 : Int) + k ≤ 4) = true by simp; omega, if_pos rfl]
              | rw [show decide ((0 : Int) + k ≤ 4) = false by simp; omega, if_neg (by simp)]
            rintro e V2 ⟨rfl, hv2⟩
            have Q12 : Hid _ := (hv2.block _ (lt_of_heap Q1.out)).trans Q1.out
            have Q22 : Hid _ := (hv2.block _ (lt_of_heap Q2.out)).trans Q2.out
            have HBV2 : Hid (Below w.heap.size w V2) := HBV.out.trans (hv2.mono HBV.out.size)
            clear hv2
            first
              | have hk4 : (k : Int) ≤ 4 := by omega
              | have hk4 : 4 < (k : Int) := by omega
            first
              | have hj4 : (j : Int) + 1 ≤ 4096 := by omega
              | have hj4 : 4096 < (j : Int) + 1 := by omega
            go_wp2_with fail
            refine (checkAll_hops wr.heap.size wo.heap.size j j C (by omega) _ (by rw [HS0.out]; exact Q12.out) Q22.out HH.out).mono ?_
            rw [limE]
            first
              | rw [if_pos hm4]
              | rw [if_neg hm4]
            rintro e V3 ⟨rfl, hv3⟩
            have HBV3 : Hid (Below w.heap.size w V3) := HBV2.out.trans (hv3.mono HBV2.out.size)
            clear hv3
            go_wp2
            go_ret
            refine ⟨?_, HBV3.out⟩
            first
              | rfl
              | exact ret_bool (by simp; omega)
              | exact ret_bool (by simp <;> omega)
set_option maxRecDepth 20000 in
set_option maxHeartbeats 4000000 in
theorem clones_nn (deep count : Int) (n m : Nat) (hn : n ≤ 7) (hm : m ≤ 4099) (h1 : 1 ≤ n) (h2 : 1 ≤ m) (hr : deep.tmod 8 = -(n : Int)) (hq : count.tmod 4100 = -(m : Int)) (w : World) :
    Calls Tryz.prog 8 #[.int .i64 deep, .int .i64 count] w fun e w' => e = .returned (.bool true) ∧ Below w.heap.size w w' := by
  have hn1 : 1 ≤ n := h1
  have hpos : 0 < n := h1
  have hneg : -(n : Int) < 0 := by omega
  have hnn : - -(n : Int) = n := by omega
  have hm1 : 1 ≤ m := h2
  have hposm : 0 < m := h2
  have hnegm : -(m : Int) < 0 := by omega
  have hmm : - -(m : Int) = m := by omega
  have hmk := fun w => make_acts w m (by omega)
  have HMK : Hid _ := hmk
  clear hmk
  have hnI : (0 : Int) ≤ n := by omega
  have hnI7 : (n : Int) ≤ 7 := by omega
  have hmI : (0 : Int) ≤ m := by omega
  have hmI9 : (m : Int) ≤ 4099 := by omega
  go_enter Tryz.func8, Tryz.ntmps8
  go_wp2_with fail
  clear hr hq
  go_loopw [8] (fun i wr => ∃ k : Nat, k ≤ n ∧ i = .int .i64 k ∧ Hid (∃ A, wr.heap[w.heap.size]? = some (.cells A 29 (0, 0)) ∧ A.size = 15 ∧ A.all (·.oneCell') = true ∧ Nest w.heap.size wr k A ∧ Below w.heap.size w wr)) (fun i _ => n - (intOf i).toNat)
  case atStart => exact ⟨0, by omega, rfl, leafA 3, heap_alloc_new _ _, rfl, by kernel_rfl, rfl, below1 _ _⟩
  case round =>
    obtain ⟨k, hk, rfl, hrel⟩ := hrel
    obtain ⟨A, hA, hs, ho, hN, hb⟩ := hrel.out
    have HA : Hid _ := hA
    have HS : Hid _ := hs
    have HO : Hid _ := ho
    have HN : Hid _ := hN
    have HB : Hid _ := hb
    have hz : w.heap.size < wr.heap.size := lt_of_heap hA
    have HA2 : Hid _ := (heap_alloc_old wr (.cells A 29) hz).trans hA
    clear hrel hA hs ho hN hb
    by_cases hlt : k < n
    · have hkI : (k : Int) < n := by omega
      clear HMK
      go_wp2_with (first
        | refine wpList_load_row rfl 29 _ rfl w.heap.size rfl 29 A (0, 0) _ HA.out Tryz.underlying29 rfl (info15 HS.out) ?_
        | refine wpList_build1 rfl _ rfl A rfl HS.out ?_
        | refine wpList_store_row rfl 29 _ _ rfl w.heap.size A (cloneA (.slice (some ⟨wr.heap.size, 0, none⟩) 1 1)) 29 rfl rfl HA2.out (info15 rfl) (HS.out.trans rfl) (cloneA_one _ _ _) ?_
        | fail)
      intro W9 z1 z2 z3 z4
      have hrest : Hid (∃ A, W9.heap[w.heap.size]? = some (.cells A 29 (0, 0)) ∧ A.size = 15 ∧ A.all (·.oneCell') = true ∧ Nest w.heap.size W9 (k + 1) A ∧ Below w.heap.size w W9) := by
        refine ⟨_, z1, rfl, cloneA_one _ _ _, ⟨wr.heap.size, A, hz, rfl, (z2 _ (by omega)).trans (heap_alloc_new _ _), HS.out, HO.out, ?_⟩, ?_⟩
        · refine HN.out.keep (fun j hj hj2 => (z2 j (by omega)).trans (heap_alloc_old _ _ hj2))
        · exact (HB.out.trans ((below1 wr _).mono HB.out.size)).trans z4
      clear z1 z2 z3 z4
      go_wp2
      go_roundw
      case rel => exact ⟨k + 1, by omega, by go_num, hrest⟩
      case measure => simp [intOf]; omega
    · obtain rfl : k = n := by omega
      rename World => wo
      have hmk := HMK.out wo
      have HN0 : Hid _ := hops_made m
      obtain ⟨C0, hC0⟩ : ∃ C0, madeCells (leafA 0) (m * 15) = C0 := ⟨_, rfl⟩
      rw [hC0] at hmk HN0
      clear HMK hC0
      go_wp2_with fail
      clear hmk
      go_loopw [10] (fun i wr => ∃ j : Nat, j ≤ m ∧ i = .int .i64 j ∧ Hid (∃ C, wr.heap[wo.heap.size]? = some (.cells C 29 (0, 0)) ∧ Hops C m j ∧ Below wo.heap.size wo wr)) (fun i _ => m - (intOf i).toNat)
      case atStart => exact ⟨0, by omega, rfl, C0, heap_alloc_new _ _, HN0.out, below1 _ _⟩
      case round =>
        obtain ⟨j, hj, rfl, hrel⟩ := hrel
        obtain ⟨C, hC, hH, hb2⟩ := hrel.out
        have HC : Hid _ := hC
        have HH : Hid _ := hH
        have HB2 : Hid _ := hb2
        clear hrel hC hH hb2
        by_cases hlt2 : j < m
        · have hjI : (j : Int) < m := by omega
          have hj0 : (0 : Int) ≤ j := by omega
          have hin : j * 15 + (leafA 3).size ≤ C.size := by rw [HH.out.size]; show j * 15 + 15 ≤ m * 15; omega
          have HIN : Hid _ := hin
          have hl1 : (leafA 3).all (·.oneCell') = true := by kernel_rfl
          have HL1 : Hid _ := hl1
          clear hin hl1
          go_wp2_with (first
            | refine wpList_store_at rfl 29 _ _ rfl wo.heap.size (j * 15) C (leafA 3) 29 rfl rfl HC.out size15 HIN.out HL1.out ?_
            | fail)
          intro W9 z1 z2 z3 z4
          have hrest : Hid (∃ C, W9.heap[wo.heap.size]? = some (.cells C 29 (0, 0)) ∧ Hops C m (j + 1) ∧ Below wo.heap.size wo W9) := ⟨_, z1, HH.out.next hlt2, HB2.out.trans z4⟩
          clear z1 z2 z3 z4
          go_wp2
          go_roundw
          case rel => exact ⟨j + 1, by omega, by go_num, hrest⟩
          case measure => simp [intOf]; omega
        · obtain rfl : j = m := by omega
          obtain ⟨s0, hs0⟩ : ∃ s0, cloneA (.slice (some ⟨wo.heap.size, 0, none⟩) j j) = s0 := ⟨_, rfl⟩
          have HS0 : Hid _ := hs0
          clear hs0
          go_wp2_with (first
            | (refine wpList_build1 rfl _ rfl (cloneA (.slice (some ⟨wo.heap.size, 0, none⟩) j j)) rfl rfl ?_; rw [HS0.out])
            | fail)
          refine (lives_any _).mono ?_
          rintro e V1 ⟨rfl, hv1⟩
          have hzq : wo.heap.size < wr.heap.size := lt_of_heap HC.out
          have q1 : V1.heap[wr.heap.size]? = some (.cells s0 29 (0, 0)) := (hv1.block _ (by simp)).trans (heap_alloc_new _ _)
          have q2 : V1.heap[wo.heap.size]? = some (.cells C 29 (0, 0)) := (hv1.block _ (by simp; omega)).trans ((heap_alloc_old _ _ hzq).trans HC.out)
          have hbw : Below wo.heap.size wo V1 := (HB2.out.trans ((below1 wr _).mono HB2.out.size)).trans (hv1.mono (by simp; omega))
          have q7 : V1.heap[w.heap.size]? = some (.cells A 29 (0, 0)) := (hbw.block _ hz).trans HA.out
          have hNV : Nest w.heap.size V1 k A := HN.out.below hbw
          have Q1 : Hid _ := q1
          have Q2 : Hid _ := q2
          have Q7 : Hid _ := q7
          have HNV : Hid _ := hNV
          have HBV : Hid (Below w.heap.size w V1) := HB.out.trans (hbw.mono HB.out.size)
          clear hv1 q1 q2 q7 hNV hbw
          by_cases hn4 : k ≤ 4 <;> by_cases hm4 : j + 1 ≤ 4096
          all_goals
            go_wp2_with (first
              | refine wpList_load_want (by rfl) 29 _ rfl w.heap.size rfl 29 A (0, 0) _ Q7.out Tryz.underlying29 rfl (info15 HS.out) ?_
              | fail)
            refine (check_gen A HS.out (decide ((0 : Int) + k ≤ 4)) _ (fun W hW => nest_right w.heap.size k A 0 W (by omega) (by omega) (HNV.out.below hW))).mono ?_
            first
              | rw [show decide ((0 : Int) + k ≤ 4) = true by simp; omega, if_pos rfl]
              | rw [show decide ((0 : Int) + k ≤ 4) = false by simp; omega, if_neg (by simp)]
            rintro e V2 ⟨rfl, hv2⟩
            have Q12 : Hid _ := (hv2.block _ (lt_of_heap Q1.out)).trans Q1.out
            have Q22 : Hid _ := (hv2.block _ (lt_of_heap Q2.out)).trans Q2.out
            have HBV2 : Hid (Below w.heap.size w V2) := HBV.out.trans (hv2.mono HBV.out.size)
            clear hv2
            first
              | have hk4 : (k : Int) ≤ 4 := by omega
              | have hk4 : 4 < (k : Int) := by omega
            first
              | have hj4 : (j : Int) + 1 ≤ 4096 := by omega
              | have hj4 : 4096 < (j : Int) + 1 := by omega
            go_wp2_with fail
            refine (checkAll_hops wr.heap.size wo.heap.size j j C (by omega) _ (by rw [HS0.out]; exact Q12.out) Q22.out HH.out).mono ?_
            rw [limE]
            first
              | rw [if_pos hm4]
              | rw [if_neg hm4]
            rintro e V3 ⟨rfl, hv3⟩
            have HBV3 : Hid (Below w.heap.size w V3) := HBV2.out.trans (hv3.mono HBV2.out.size)
            clear hv3
            go_wp2
            go_ret
            refine ⟨?_, HBV3.out⟩
            first
              | rfl
              | exact ret_bool (by simp; omega)
              | exact ret_bool (by simp <;> omega)
theorem clones_any (deep : Int) (_ : -9223372036854775808 ≤ deep ∧ deep ≤ 9223372036854775807) (count : Int) (_ : -9223372036854775808 ≤ count ∧ count ≤ 9223372036854775807) (w : World) :
    Calls Tryz.prog 8 #[.int .i64 deep, .int .i64 count] w fun e w' => e = .returned (.bool true) ∧ Below w.heap.size w w' := by
  have a1 := Int.tmod_lt_of_pos deep (show (0 : Int) < 8 by omega)
  have a2 := Int.lt_tmod_of_pos deep (show (0 : Int) < 8 by omega)
  have b1 := Int.tmod_lt_of_pos count (show (0 : Int) < 4100 by omega)
  have b2 := Int.lt_tmod_of_pos count (show (0 : Int) < 4100 by omega)
  obtain ⟨r, hr⟩ : ∃ r, deep.tmod 8 = r := ⟨_, rfl⟩
  obtain ⟨q, hq⟩ : ∃ q, count.tmod 4100 = q := ⟨_, rfl⟩
  rw [hr] at a1 a2
  rw [hq] at b1 b2
  by_cases h1 : 0 ≤ r
  · obtain ⟨n, rfl⟩ := Int.eq_ofNat_of_zero_le h1
    by_cases h2 : 0 ≤ q
    · obtain ⟨m, rfl⟩ := Int.eq_ofNat_of_zero_le h2
      exact clones_pp deep count n m (by omega) (by omega) hr hq w
    · obtain ⟨m, hm⟩ := Int.eq_ofNat_of_zero_le (show 0 ≤ -q by omega)
      exact clones_pn deep count n m (by omega) (by omega) (by omega) hr (by omega) w
  · obtain ⟨n, hn⟩ := Int.eq_ofNat_of_zero_le (show 0 ≤ -r by omega)
    by_cases h2 : 0 ≤ q
    · obtain ⟨m, rfl⟩ := Int.eq_ofNat_of_zero_le h2
      exact clones_np deep count n m (by omega) (by omega) (by omega) (by omega) hq w
    · obtain ⟨m, hm⟩ := Int.eq_ofNat_of_zero_le (show 0 ≤ -q by omega)
      exact clones_nn deep count n m (by omega) (by omega) (by omega) (by omega) (by omega) (by omega) w
end Go.Proofs.YtikbjckcnidimaaGreatDoor
