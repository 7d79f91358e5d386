/- ActArp of a State that asks. Conditions: as said. -/
import Derived.Test.YtikbjckcnidimaaGreatDoorAF
import Derived.Deep.RegionWith
namespace Go.Proofs.YtikbjckcnidimaaGreatDoor
open Go.RowKit
theorem size5 : (Tryz.prog.info? 39).map (·.size) = some 5 := by kernel_rfl
theorem four_last (w : World) (A B C D : Obj) : ((((w.alloc A).alloc B).alloc C).alloc D).heap[w.heap.size + 1 + 1 + 1]? = some D := by
  have := heap_alloc_new (((w.alloc A).alloc B).alloc C) D
  simpa using this
theorem five_last (w : World) (A B C D E : Obj) : (((((w.alloc A).alloc B).alloc C).alloc D).alloc E).heap[w.heap.size + 1 + 1 + 1 + 1]? = some E := by
  have := heap_alloc_new ((((w.alloc A).alloc B).alloc C).alloc D) E
  simpa using this
theorem five_fourth (w : World) (A B C D E : Obj) : (((((w.alloc A).alloc B).alloc C).alloc D).alloc E).heap[w.heap.size + 1 + 1 + 1]? = some D := (heap_alloc_old _ _ (by simp)).trans (four_last _ _ _ _ _)
theorem five_third (w : World) (A B C D E : Obj) : (((((w.alloc A).alloc B).alloc C).alloc D).alloc E).heap[w.heap.size + 1 + 1]? = some C := (heap_alloc_old _ _ (by simp)).trans ((heap_alloc_old _ _ (by simp)).trans (three_last _ _ _ _))
theorem five_second (w : World) (A B C D E : Obj) : (((((w.alloc A).alloc B).alloc C).alloc D).alloc E).heap[w.heap.size + 1]? = some B := (heap_alloc_old _ _ (by simp)).trans ((heap_alloc_old _ _ (by simp)).trans ((heap_alloc_old _ _ (by simp)).trans (two_last _ _ _)))
theorem five_first (w : World) (A B C D E : Obj) : (((((w.alloc A).alloc B).alloc C).alloc D).alloc E).heap[w.heap.size]? = some A := (heap_alloc_old _ _ (by simp; omega)).trans (four_first _ _ _ _ _)
theorem size3n (w : World) (A B C : Obj) : w.heap.size + 1 + 1 + 1 = (((w.alloc A).alloc B).alloc C).heap.size := by simp
theorem one5 (a b c d e : Int) : (#[.int .i64 a, .int .u64 b, .int .u32 c, .int .u64 d, .int .u32 e] : Array Value).all (·.oneCell') = true := by simp [Value.oneCell']
/-- What stands behind an ARP request that is answered. -/
structure Asks (cs ps qs : Array Value) (sha spa tha tpa src dst v : Int) : Prop where
  size : cs.size = 49
  psize : ps.size = 36
  pone : ps.all (·.oneCell') = true
  p : cs.extract 0 (0 + 36) = ps
  a : ps.extract 6 (6 + 5) = #[.int .i64 1, .int .u64 sha, .int .u32 spa, .int .u64 tha, .int .u32 tpa]
  q : putC ps 6 (#[.int .i64 2, .int .u64 v, .int .u32 tpa, .int .u64 sha, .int .u32 spa] : Array Value).toList = qs
  q0 : qs[0]? = some (.int .u64 dst)
  q1 : qs[1]? = some (.int .u64 src)
  q5 : qs[5]? = some (.bool true)
set_option maxRecDepth 20000 in
set_option maxHeartbeats 1000000 in
theorem arp_gen (cs A ps qs : Array Value) (sha spa tha tpa src dst v : Int) (h : Asks cs ps qs sha spa tha tpa src dst v) (a3 : A[3]? = some (.int .u64 v))
    (R : Array Value) (hR : withP cs ((qs.setIfInBounds 0 (.int .u64 src)).setIfInBounds 1 (.int .u64 v)) = R) (hR1 : R.all (·.oneCell') = true) (hQ1 : ((qs.setIfInBounds 0 (.int .u64 src)).setIfInBounds 1 (.int .u64 v)).all (·.oneCell') = true) (w : World) :
    Calls Tryz.prog 69 #[.agg cs, .agg A] w fun e w' => e = .returned (.tuple #[.agg R, .int .i64 0]) ∧ Below w.heap.size w w' := by
  have H : Hid _ := h
  have HRE : Hid _ := hR
  have HR1 : Hid _ := hR1
  have HQ1 : Hid _ := hQ1
  have HIP : Hid _ := (show (Tryz.prog.info? 45).map (·.size) = some ps.size by rw [h.psize]; exact size36)
  have hin : 6 + (#[.int .i64 2, .int .u64 v, .int .u32 tpa, .int .u64 sha, .int .u32 spa] : Array Value).size ≤ ps.size := by rw [h.psize]; simp
  have HIN : Hid _ := hin
  have HS3 : Hid _ := three_first w (.cells cs 50) (.cells A 29) (.cells zeroC 50)
  have HS4 : Hid _ := four_last w (.cells cs 50) (.cells A 29) (.cells zeroC 50) (.cells ps 45)
  have HS5 : Hid _ := five_fourth w (.cells cs 50) (.cells A 29) (.cells zeroC 50) (.cells ps 45) (.cells #[.int .i64 1, .int .u64 sha, .int .u32 spa, .int .u64 tha, .int .u32 tpa] 39)
  have HN3 : Hid _ := size3n w (.cells cs 50) (.cells A 29) (.cells zeroC 50)
  clear h hR hR1 hQ1 hin
  go_enter Tryz.func69, Tryz.ntmps69
  go_wp2_with (first
    | refine wpList_load_as rfl 45 _ rfl w.heap.size 0 36 rfl cs ps 50 _ HS3.out Tryz.underlying45 rfl H.out.p H.out.psize size36 ?_
    | refine wpList_store_new rfl 45 _ _ rfl _ ps (w.heap.size + 1 + 1 + 1) HN3.out rfl rfl HIP.out (Eq.trans (b := 36) rfl H.out.psize.symm) H.out.pone ?_
    | refine wpList_load_as rfl 39 _ rfl (w.heap.size + 1 + 1 + 1) 6 5 rfl ps #[.int .i64 1, .int .u64 sha, .int .u32 spa, .int .u64 tha, .int .u32 tpa] 45 _ HS4.out Tryz.underlying39 rfl H.out.a rfl size5 ?_
    | refine wpList_store_at rfl 39 _ _ rfl (w.heap.size + 1 + 1 + 1) 6 ps #[.int .i64 2, .int .u64 v, .int .u32 tpa, .int .u64 sha, .int .u32 spa] 45 rfl rfl HS5.out size5 HIN.out (one5 _ _ _ _ _) ?_
    | fail)
  intro W9 z1 z2 z3 z4
  rw [H.out.q] at z1
  have y0 : W9.heap[w.heap.size]? = some (.cells cs 50 (0, 0)) := (z2 _ (by omega)).trans (five_first _ _ _ _ _ _)
  have ya : W9.heap[w.heap.size + 1]? = some (.cells A 29 (0, 0)) := (z2 _ (by omega)).trans (five_second _ _ _ _ _ _)
  have y2 : W9.heap[w.heap.size + 1 + 1]? = some (.cells zeroC 50 (0, 0)) := (z2 _ (by omega)).trans (five_third _ _ _ _ _ _)
  have y4 : W9.heap[w.heap.size + 1 + 1 + 1 + 1]? = some (.cells #[.int .i64 1, .int .u64 sha, .int .u32 spa, .int .u64 tha, .int .u32 tpa] 39 (0, 0)) := (z2 _ (by omega)).trans (five_last _ _ _ _ _ _)
  have HB : Hid (Below w.heap.size w W9) := ((below4 w _ _ _ _).alloc (by simp; omega) _).trans (z4.mono (by omega))
  have c0 := (cell_row z1 0).trans H.out.q0
  have c1 := (cell_row z1 1).trans H.out.q1
  have f0 := frozen_of_row W9 _ 0 _ _ z1
  have f1 := frozen_of_row W9 _ 1 _ _ z1
  have d3 := (cell_row ya 3).trans a3
  have HY0 : Hid _ := y0
  have HY1 : Hid _ := z1
  have HY2 : Hid _ := y2
  have HY4 : Hid _ := y4
  clear z1 z2 z3 z4 y0 y2 y4 ya a3
  go_wp2_with fail
  go_region
  have hbw : ∀ u v, Below w.heap.size w (((W9.setCell ⟨w.heap.size + 1 + 1 + 1, 0, none⟩ u).setCell ⟨w.heap.size + 1 + 1 + 1, 1, none⟩ v).drew) := fun u v => ((HB.out.setCell (show w.heap.size ≤ w.heap.size + 1 + 1 + 1 by omega) u).setCell (show w.heap.size ≤ w.heap.size + 1 + 1 + 1 by omega) v).drew
  have hrow : ∀ u v, ((W9.setCell ⟨w.heap.size + 1 + 1 + 1, 0, none⟩ u).setCell ⟨w.heap.size + 1 + 1 + 1, 1, none⟩ v).drew.heap[w.heap.size + 1 + 1 + 1]? = some (.cells ((qs.setIfInBounds 0 u).setIfInBounds 1 v) 45 (0, 0)) := fun u v => row_setCell (row_setCell HY1.out 0 u) 1 v
  have hoth : ∀ u v k, k ≠ w.heap.size + 1 + 1 + 1 → ((W9.setCell ⟨w.heap.size + 1 + 1 + 1, 0, none⟩ u).setCell ⟨w.heap.size + 1 + 1 + 1, 1, none⟩ v).drew.heap[k]? = W9.heap[k]? := fun u v k hk => (Below.heap_setCell _ _ _ _ hk).trans (Below.heap_setCell _ _ _ _ hk)
  obtain ⟨rs, hrs⟩ : ∃ rs, rs = (qs.setIfInBounds 0 (.int .u64 src)).setIfInBounds 1 (.int .u64 v) := ⟨_, rfl⟩
  have q3 := hrow (.int .u64 src) (.int .u64 v)
  rw [← hrs] at q3
  have q0 := (hoth (.int .u64 src) (.int .u64 v) w.heap.size (by omega)).trans HY0.out
  have q2 := (hoth (.int .u64 src) (.int .u64 v) (w.heap.size + 1 + 1) (by omega)).trans HY2.out
  have q4 := (hoth (.int .u64 src) (.int .u64 v) (w.heap.size + 1 + 1 + 1 + 1) (by omega)).trans HY4.out
  have qb := hbw (.int .u64 src) (.int .u64 v)
  have r5 : rs[5]? = some (.bool true) := by rw [hrs, Array.getElem?_setIfInBounds_ne (by decide), Array.getElem?_setIfInBounds_ne (by decide)]; exact H.out.q5
  have hrsz : rs.size = 36 := by
    have e1 : (putC ps 6 (#[.int .i64 2, .int .u64 v, .int .u32 tpa, .int .u64 sha, .int .u32 spa] : Array Value).toList).size = ps.size := putC_size _ _ _
    rw [H.out.q, H.out.psize] at e1
    rw [hrs]; simpa using e1
  have HRZ : Hid _ := hrsz
  have HIR : Hid _ := (show (Tryz.prog.info? 45).map (·.size) = some rs.size by rw [hrsz]; exact size36)
  have HRW : Hid (withP cs rs = R) := by rw [hrs]; exact HRE.out
  have HQR : Hid (rs.all (·.oneCell') = true) := by rw [hrs]; exact HQ1.out
  have HIC : Hid _ := info_size H.out.size
  have HWS : Hid (R.size = 49) := by rw [← HRW.out]; unfold withP; rw [putC_size]; exact H.out.size
  have HIW : Hid _ := info_size HWS.out
  clear hrow hoth hbw hrs hrsz HY0 HY1 HY2 HY4 HQ1 HRE HB c0 c1 f0 f1 d3 HS3 HS4 HS5 HN3
  generalize ((W9.setCell ⟨w.heap.size + 1 + 1 + 1, 0, none⟩ (.int .u64 src)).setCell ⟨w.heap.size + 1 + 1 + 1, 1, none⟩ (.int .u64 v)).drew = V at *
  have c5 := (cell_row q3 5).trans r5
  have c4 : V.cell? ⟨w.heap.size + 1 + 1 + 1 + 1, 0, none⟩ = some (.int .i64 1) := cell_row q4 0
  have Q0 : Hid _ := q0
  have Q2 : Hid _ := q2
  have Q3 : Hid _ := q3
  have QB : Hid _ := qb
  clear q0 q2 q3 q4 qb r5
  go_wp2_with (first
    | refine wpList_load_row rfl 50 _ rfl w.heap.size rfl 50 cs (0, 0) _ Q0.out Tryz.underlying50 rfl HIC.out ?_
    | refine wpList_load_row rfl 45 _ rfl (w.heap.size + 1 + 1 + 1) rfl 45 rs (0, 0) _ Q3.out Tryz.underlying45 rfl HIR.out ?_
    | fail)
  refine (become_yes cs rs H.out.size HRZ.out (by rw [HRW.out]; exact HR1.out) HQR.out _).mono ?_
  rw [HRW.out]
  rintro e V2 ⟨rfl, hv2⟩
  have Q2' : Hid _ := (hv2.block _ (lt_of_heap Q2.out)).trans Q2.out
  have QB2 : Hid (Below w.heap.size w V2) := QB.out.trans (hv2.mono QB.out.size)
  clear hv2 c5 c4
  go_wp2_with (first
    | refine wpList_store_row rfl 50 _ _ rfl (w.heap.size + 1 + 1) zeroC R 50 rfl rfl Q2'.out HIW.out (Eq.trans (b := 49) rfl HWS.out.symm) HR1.out ?_
    | fail)
  intro W8 y1 y2 y3 y4
  go_wp2
  exact bodyPost_ret (results_state (p := 4) (u := 5) rfl _ _ (w.heap.size + 1 + 1) _ rfl y1 HWS.out) rfl ⟨rfl, QB2.out.trans (y4.mono (by omega))⟩
theorem ask_asks : Asks askC askP midP 5 6 0 7 5 0 9 where
  size := rfl
  psize := rfl
  pone := by kernel_rfl
  p := by kernel_rfl
  a := by kernel_rfl
  q := by kernel_rfl
  q0 := rfl
  q1 := rfl
  q5 := rfl
theorem arp_ask (w : World) : Calls Tryz.prog 69 #[.agg askC, .agg arpA] w fun e w' => e = .returned (.tuple #[.agg gotC, .int .i64 0]) ∧ Below w.heap.size w w' :=
  arp_gen askC arpA askP midP 5 6 0 7 5 0 9 ask_asks rfl gotC (by kernel_rfl) (by kernel_rfl) (by kernel_rfl) w
end Go.Proofs.YtikbjckcnidimaaGreatDoor
