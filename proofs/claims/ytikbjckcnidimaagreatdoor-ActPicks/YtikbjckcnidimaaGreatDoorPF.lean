/- The law ActPicks, but for its frame. Conditions: the State's cells are of their kinds; the ways can be read. -/
import Derived.Test.YtikbjckcnidimaaGreatDoorPE
import Derived.Test.YtikbjckcnidimaaGreatDoorFY
import Derived.Deep.RegionWith
namespace Go.Proofs.YtikbjckcnidimaaGreatDoor
open Go.RowKit
theorem pickR_st {cs : Array Value} (hst : St cs) {v : Value} {ws : List (Int × Int)} {w : World} (h : WVal w v ws) : St (pickR cs ws) := by
  unfold pickR
  split
  · rename_i h0
    have hp : pickOk ws = true := by
      cases hp : pickOk ws
      · simp [pickE, hp] at h0
      · rfl
    obtain ⟨a, n, c, rfl, _, hW⟩ := h
    have := pickOk_len hp
    have bd := pickW_bd (cs := cs) hW (by have := hW.len; omega)
    exact way_st hst _ _ bd.1 bd.2
  · exact zeroSt
theorem way_back {cs : Array Value} {ip port d p : Int} (h18 : cs[18]? = some (.int .u32 d)) (h25 : cs[25]? = some (.int .i64 p)) : ((wayC cs ip port).setIfInBounds 18 (.int .u32 d)).setIfInBounds 25 (.int .i64 p) = cs := by
  have l18 := (Array.getElem?_eq_some_iff.1 h18).1
  have l25 := (Array.getElem?_eq_some_iff.1 h25).1
  unfold wayC
  apply Array.ext_getElem?
  intro i
  by_cases e : 25 = i
  · subst e; rw [Array.getElem?_setIfInBounds_self_of_lt (by simpa using l25), h25]
  · rw [Array.getElem?_setIfInBounds_ne e]
    by_cases e2 : 18 = i
    · subst e2; rw [Array.getElem?_setIfInBounds_self_of_lt (by simpa using l18), h18]
    · rw [Array.getElem?_setIfInBounds_ne e2, Array.getElem?_setIfInBounds_ne e, Array.getElem?_setIfInBounds_ne e2]
set_option maxRecDepth 20000 in
set_option maxHeartbeats 4000000 in
theorem picks_err (cs : Array Value) (hst : St cs) (v : Value) (ws : List (Int × Int)) (w : World) (hv : WVal w v ws) (hE : pickE cs ws ≠ 0) : Calls Tryz.prog 6 #[.agg cs, v] w fun e w' => e = .returned (.bool true) ∧ Below w.heap.size w w' := by
  have HST : Hid _ := hst
  have HR : Hid _ := pickR_st hst hv
  obtain ⟨a, n, c, rfl, hnc, hW⟩ := hv
  have hv2 : WVal w (.slice a n c) ws := ⟨a, n, c, rfl, hnc, hW⟩
  have HV : Hid _ := hv2
  obtain ⟨A, hA⟩ : ∃ A, pickA (.slice a n c) = A := ⟨_, rfl⟩
  have ha15 : A.size = 15 := by rw [← hA]; rfl
  have haone : A.all (·.oneCell') = true := by rw [← hA]; exact pickA_one a n c
  have HA15 : Hid _ := ha15
  have HA1 : Hid _ := haone
  have HAE : Hid _ := hA
  have HSTEP : Hid (∀ W, Below w.heap.size w W → Calls Tryz.prog 16 #[.agg cs, .agg A] W fun e W' => e = .returned (.tuple #[.agg (pickR cs ws), .int .i64 (pickE cs ws)]) ∧ Below W.heap.size W W') := by
    show ∀ W, _
    intro W hb; rw [← hA]; exact step_pick hst (hv2.below hb)
  have HCK : Hid (∀ W, Below w.heap.size w W → Calls Tryz.prog 10 #[.agg A] W fun e W' => e = .returned (.int .i64 (if pickOk ws then 0 else 110)) ∧ Below W.heap.size W W') := by
    show ∀ W, _
    intro W hb; rw [← hA]; exact check_pick (hv2.below hb)
  obtain ⟨R, hRR⟩ : ∃ R, pickR cs ws = R := ⟨_, rfl⟩
  rw [hRR] at HR HSTEP
  have HRR : Hid _ := hRR
  have HRI : Hid _ := info_size HR.out.size
  have HI : Hid _ := info_size hst.size
  have hneq := fun W => neq_state HR.out W
  have HS2 : Hid _ := two_first w (.cells cs 50) (.cells A 29)
  have HA2 : Hid _ := two_last w (.cells cs 50) (.cells A 29)
  clear hA ha15 haone hRR hst hv2
  have hEE : (pickOk ws = false ∧ pickE cs ws = 110) ∨ (pickE cs ws = 81) := by
    unfold pickE at hE ⊢
    cases hp : pickOk ws
    · left; exact ⟨rfl, rfl⟩
    · right
      cases hh : hasF 19 cs
      · rfl
      · simp [hp, hh] at hE
  clear hE
  rcases hEE with ⟨hp, hE'⟩ | hE'
  · rw [hE'] at HSTEP
    go_enter Tryz.func6, Tryz.ntmps6
    go_wp2_with (first
      | refine wpList_store_new rfl 29 _ _ rfl _ A (w.heap.size + 1) (by simp) rfl (by rw [← HAE.out]; rfl) (info15 HA15.out) (Eq.trans (b := 15) rfl HA15.out.symm) HA1.out ?_
      | refine wpList_load_row rfl 50 _ rfl w.heap.size rfl 50 cs (0, 0) _ HS2.out Tryz.underlying50 rfl HI.out ?_
      | refine wpList_load_row rfl 29 _ rfl (w.heap.size + 1) rfl 29 A (0, 0) _ HA2.out Tryz.underlying29 rfl (info15 HA15.out) ?_
      | fail)
    refine (HSTEP.out _ (below2 w _ _)).mono ?_
    rintro e W1 ⟨rfl, hb1⟩
    have hs1 : W1.heap[w.heap.size]? = some (.cells cs 50 (0, 0)) := (hb1.block _ (by simp; omega)).trans HS2.out
    have ha1 : W1.heap[w.heap.size + 1]? = some (.cells A 29 (0, 0)) := (hb1.block _ (by simp)).trans HA2.out
    have hlt1 : w.heap.size + 1 < W1.heap.size := lt_of_heap ha1
    have hB1 : Below w.heap.size w W1 := (below2 w _ _).trans (hb1.mono (by simp; omega))
    have HB1 : Hid _ := hB1
    have hB1a : Below w.heap.size w (W1.alloc (.cells R 50)) := hB1.trans ((below1 W1 _).mono hB1.size)
    have HB1a : Hid _ := hB1a
    have S1 : Hid _ := (heap_alloc_old W1 (.cells R 50) (by omega)).trans hs1
    have A1 : Hid _ := (heap_alloc_old W1 (.cells R 50) (by omega)).trans ha1
    clear hb1 hs1 ha1 hB1 hB1a
    go_wp2_with (first
      | refine wpList_store_new rfl 50 _ _ rfl _ R W1.heap.size rfl rfl rfl HRI.out (Eq.trans (b := 49) rfl HR.out.size.symm) HR.out.one ?_
      | refine wpList_load_row rfl 50 _ rfl w.heap.size rfl 50 cs (0, 0) _ S1.out Tryz.underlying50 rfl HI.out ?_
      | refine wpList_load_row rfl 29 _ rfl (w.heap.size + 1) rfl 29 A (0, 0) _ A1.out Tryz.underlying29 rfl (info15 HA15.out) ?_
      | fail)
    refine (HSTEP.out _ HB1a.out).mono ?_
    rintro e W2 ⟨rfl, hb2⟩
    have hs2 : W2.heap[w.heap.size]? = some (.cells cs 50 (0, 0)) := (hb2.block _ (lt_of_heap S1.out)).trans S1.out
    have ha2 : W2.heap[w.heap.size + 1]? = some (.cells A 29 (0, 0)) := (hb2.block _ (lt_of_heap A1.out)).trans A1.out
    have ht2 : W2.heap[W1.heap.size]? = some (.cells R 50 (0, 0)) := (hb2.block _ (by simp)).trans (heap_alloc_new _ _)
    have hlt2 : W1.heap.size < W2.heap.size := lt_of_heap ht2
    have hB2 : Below w.heap.size w W2 := HB1a.out.trans (hb2.mono HB1a.out.size)
    have HB2 : Hid _ := hB2
    have S2 : Hid _ := hs2
    have A2 : Hid _ := ha2
    have T2 : Hid _ := ht2
    clear hb2 hs2 ha2 ht2 hB2 S1 A1
    go_wp2_with (first
      | refine wpList_store_new rfl 50 _ _ rfl _ R W2.heap.size rfl rfl rfl HRI.out (Eq.trans (b := 49) rfl HR.out.size.symm) HR.out.one ?_
      | fail)
    refine (lives_any _).mono ?_
    rintro e W3 ⟨rfl, hb3⟩
    have S3 : Hid (W3.heap[w.heap.size]? = some (.cells cs 50 (0, 0))) := (hb3.block _ (by simp; omega)).trans ((heap_alloc_old _ _ (by omega)).trans S2.out)
    have H5 : Hid (W3.heap[w.heap.size + 1]? = some (.cells A 29 (0, 0))) := (hb3.block _ (by simp; omega)).trans ((heap_alloc_old _ _ (by omega)).trans A2.out)
    have T3 : Hid (W3.heap[W1.heap.size]? = some (.cells R 50 (0, 0))) := (hb3.block _ (by simp; omega)).trans ((heap_alloc_old _ _ (by omega)).trans T2.out)
    have U3 : Hid (W3.heap[W2.heap.size]? = some (.cells R 50 (0, 0))) := (hb3.block _ (by simp)).trans (heap_alloc_new _ _)
    have HB4 : Hid (Below w.heap.size w W3) := HB2.out.trans (((below1 W2 _).trans (hb3.mono (by simp))).mono HB2.out.size)
    clear hb3 S2 A2 T2
    go_wp2_with (first
      | refine wpList_load_want (by rfl) 50 _ rfl W1.heap.size rfl 50 R (0, 0) _ T3.out Tryz.underlying50 rfl HRI.out ?_
      | refine wpList_load_want (by rfl) 50 _ rfl W2.heap.size rfl 50 R (0, 0) _ U3.out Tryz.underlying50 rfl HRI.out ?_
      | refine wpList_load_want (by rfl) 29 _ rfl (w.heap.size + 1) rfl 29 A (0, 0) _ H5.out Tryz.underlying29 rfl (info15 HA15.out) ?_
      | fail)
    refine (HCK.out _ HB4.out).mono ?_
    rw [hp]
    rintro e W5 ⟨rfl, hb5⟩
    have HB5 : Hid (Below w.heap.size w W5) := HB4.out.trans (hb5.mono HB4.out.size)
    clear hb5
    go_wp2
    go_ret
    exact ⟨rfl, HB5.out⟩
  · rw [hE'] at HSTEP
    go_enter Tryz.func6, Tryz.ntmps6
    go_wp2_with (first
      | refine wpList_store_new rfl 29 _ _ rfl _ A (w.heap.size + 1) (by simp) rfl (by rw [← HAE.out]; rfl) (info15 HA15.out) (Eq.trans (b := 15) rfl HA15.out.symm) HA1.out ?_
      | refine wpList_load_row rfl 50 _ rfl w.heap.size rfl 50 cs (0, 0) _ HS2.out Tryz.underlying50 rfl HI.out ?_
      | refine wpList_load_row rfl 29 _ rfl (w.heap.size + 1) rfl 29 A (0, 0) _ HA2.out Tryz.underlying29 rfl (info15 HA15.out) ?_
      | fail)
    refine (HSTEP.out _ (below2 w _ _)).mono ?_
    rintro e W1 ⟨rfl, hb1⟩
    have hs1 : W1.heap[w.heap.size]? = some (.cells cs 50 (0, 0)) := (hb1.block _ (by simp; omega)).trans HS2.out
    have ha1 : W1.heap[w.heap.size + 1]? = some (.cells A 29 (0, 0)) := (hb1.block _ (by simp)).trans HA2.out
    have hlt1 : w.heap.size + 1 < W1.heap.size := lt_of_heap ha1
    have hB1 : Below w.heap.size w W1 := (below2 w _ _).trans (hb1.mono (by simp; omega))
    have HB1 : Hid _ := hB1
    have hB1a : Below w.heap.size w (W1.alloc (.cells R 50)) := hB1.trans ((below1 W1 _).mono hB1.size)
    have HB1a : Hid _ := hB1a
    have S1 : Hid _ := (heap_alloc_old W1 (.cells R 50) (by omega)).trans hs1
    have A1 : Hid _ := (heap_alloc_old W1 (.cells R 50) (by omega)).trans ha1
    clear hb1 hs1 ha1 hB1 hB1a
    go_wp2_with (first
      | refine wpList_store_new rfl 50 _ _ rfl _ R W1.heap.size rfl rfl rfl HRI.out (Eq.trans (b := 49) rfl HR.out.size.symm) HR.out.one ?_
      | refine wpList_load_row rfl 50 _ rfl w.heap.size rfl 50 cs (0, 0) _ S1.out Tryz.underlying50 rfl HI.out ?_
      | refine wpList_load_row rfl 29 _ rfl (w.heap.size + 1) rfl 29 A (0, 0) _ A1.out Tryz.underlying29 rfl (info15 HA15.out) ?_
      | fail)
    refine (HSTEP.out _ HB1a.out).mono ?_
    rintro e W2 ⟨rfl, hb2⟩
    have hs2 : W2.heap[w.heap.size]? = some (.cells cs 50 (0, 0)) := (hb2.block _ (lt_of_heap S1.out)).trans S1.out
    have ha2 : W2.heap[w.heap.size + 1]? = some (.cells A 29 (0, 0)) := (hb2.block _ (lt_of_heap A1.out)).trans A1.out
    have ht2 : W2.heap[W1.heap.size]? = some (.cells R 50 (0, 0)) := (hb2.block _ (by simp)).trans (heap_alloc_new _ _)
    have hlt2 : W1.heap.size < W2.heap.size := lt_of_heap ht2
    have hB2 : Below w.heap.size w W2 := HB1a.out.trans (hb2.mono HB1a.out.size)
    have HB2 : Hid _ := hB2
    have S2 : Hid _ := hs2
    have A2 : Hid _ := ha2
    have T2 : Hid _ := ht2
    clear hb2 hs2 ha2 ht2 hB2 S1 A1
    go_wp2_with (first
      | refine wpList_store_new rfl 50 _ _ rfl _ R W2.heap.size rfl rfl rfl HRI.out (Eq.trans (b := 49) rfl HR.out.size.symm) HR.out.one ?_
      | fail)
    refine (lives_any _).mono ?_
    rintro e W3 ⟨rfl, hb3⟩
    have S3 : Hid (W3.heap[w.heap.size]? = some (.cells cs 50 (0, 0))) := (hb3.block _ (by simp; omega)).trans ((heap_alloc_old _ _ (by omega)).trans S2.out)
    have H5 : Hid (W3.heap[w.heap.size + 1]? = some (.cells A 29 (0, 0))) := (hb3.block _ (by simp; omega)).trans ((heap_alloc_old _ _ (by omega)).trans A2.out)
    have T3 : Hid (W3.heap[W1.heap.size]? = some (.cells R 50 (0, 0))) := (hb3.block _ (by simp; omega)).trans ((heap_alloc_old _ _ (by omega)).trans T2.out)
    have U3 : Hid (W3.heap[W2.heap.size]? = some (.cells R 50 (0, 0))) := (hb3.block _ (by simp)).trans (heap_alloc_new _ _)
    have HB4 : Hid (Below w.heap.size w W3) := HB2.out.trans (((below1 W2 _).trans (hb3.mono (by simp))).mono HB2.out.size)
    clear hb3 S2 A2 T2
    go_wp2_with (first
      | refine wpList_load_want (by rfl) 50 _ rfl W1.heap.size rfl 50 R (0, 0) _ T3.out Tryz.underlying50 rfl HRI.out ?_
      | refine wpList_load_want (by rfl) 50 _ rfl W2.heap.size rfl 50 R (0, 0) _ U3.out Tryz.underlying50 rfl HRI.out ?_
      | fail)
    go_ret
    exact ⟨rfl, HB4.out⟩
end Go.Proofs.YtikbjckcnidimaaGreatDoor
