/- check of package geneve. Conditions: the options can be read. -/
import Derived.Test.YtgonckbdkgiddaaHC
import Derived.Test.YtgonckbdkgiddaaPCg
namespace Go.Proofs.Ytgonckbdkgiddaa
open Go.RowKit
set_option maxRecDepth 20000
set_option linter.unusedSimpArgs false
/-- What check answers. -/
def chkE (sp vni : Int) (os : List Opt) (m : Nat) : Int :=
  if fit16 sp = true ∧ 0 ≤ vni ∧ vni ≤ 16777215 then (if os.all optG = true then (if szO os ≤ 252 then (if m ≤ 9018 then 0 else 3) else 1) else 1) else 1
theorem optG_124 {os : List Opt} (h : os.all optG = true) : ∀ o ∈ os, o.data.length ≤ 124 := fun o ho => by
  have := List.all_eq_true.1 h o ho
  unfold optG at this
  simp only [Bool.and_eq_true, decide_eq_true_eq] at this
  exact this.2.2.1
set_option maxHeartbeats 4000000 in
theorem gcheck_any (src dst sp vni : Int) (oam : Bool) (a : Option Addr) (n cap : Nat) (os : List Opt) (fr : List Int) (w : World) (h : OS w a n os) :
    Calls Try.prog 17 #[.agg (tnC src dst sp vni oam a n cap fr)] w fun e w' => e = .returned (.int .i64 (chkE sp vni os fr.length)) ∧ Below w.heap.size w w' := by
  unfold tnC
  have hl := h.len
  have hr := h.room
  have H : Hid _ := h
  have hfs := strOfNums_size fr
  clear h
  by_cases c1 : fit16 sp = true
  · by_cases c2 : vni < 0
    · have HE : Hid (chkE sp vni os fr.length = 1) := by show _ = _; unfold chkE; rw [if_neg (by omega)]
      go_enter Try.func17, Try.ntmps17
      go_wp2_with fail
      refine scope_from ?_
      go_wp2_with fail
      refine (fits16_any sp _).mono ?_
      rintro e W1 ⟨rfl, rfl⟩
      rw [c1]
      go_wp2_with fail
      go_step3
      show FromLabel _ _ _ _ _ _
      refine from_label rfl ?_
      go_wp2
      simp only [Exit.jumpTo]
      go_ret
      rw [HE.out]
      exact ⟨rfl, below1 w _⟩
    by_cases c3 : 16777215 < vni
    · have HE : Hid (chkE sp vni os fr.length = 1) := by show _ = _; unfold chkE; rw [if_neg (by omega)]
      go_enter Try.func17, Try.ntmps17
      go_wp2_with fail
      refine scope_from ?_
      go_wp2_with fail
      refine (fits16_any sp _).mono ?_
      rintro e W1 ⟨rfl, rfl⟩
      rw [c1]
      go_wp2_with fail
      go_step3
      show FromLabel _ _ _ _ _ _
      refine from_label rfl ?_
      go_wp2
      simp only [Exit.jumpTo]
      go_ret
      rw [HE.out]
      exact ⟨rfl, below1 w _⟩
    have HE : Hid (chkE sp vni os fr.length = if os.all optG = true then (if szO os ≤ 252 then (if fr.length ≤ 9018 then 0 else 3) else 1) else 1) := by
      show _ = _
      unfold chkE
      rw [if_pos ⟨c1, by omega, by omega⟩]
    go_enter Try.func17, Try.ntmps17
    go_wp2_with fail
    refine scope_from ?_
    go_wp2_with fail
    refine (fits16_any sp _).mono ?_
    rintro e W1 ⟨rfl, rfl⟩
    rw [c1]
    go_wp2_with fail
    have A0 : Hid ((w.alloc (.cells #[.int .u32 src, .int .u32 dst, .int .i64 sp, .int .i64 vni, .bool oam, .slice a n cap, .string (strOfNums fr)] 25)).heap[w.heap.size]? = some (.cells #[.int .u32 src, .int .u32 dst, .int .i64 sp, .int .i64 vni, .bool oam, .slice a n cap, .string (strOfNums fr)] 25 (0, 0))) := heap_alloc_new w _
    go_loopw [23] (fun i wr => ∃ k : Nat, k ≤ n ∧ i = .int .i64 k ∧ Hid ((os.take k).all optG = true) ∧ Below w.heap.size w wr ∧ wr.heap[w.heap.size]? = some (.cells #[.int .u32 src, .int .u32 dst, .int .i64 sp, .int .i64 vni, .bool oam, .slice a n cap, .string (strOfNums fr)] 25 (0, 0))) (fun i _ => n - (intOf i).toNat)
    case atStart => exact ⟨0, by omega, rfl, rfl, below1 w _, A0.out⟩
    case round =>
      obtain ⟨k, hk, rfl, hall, hb, hA⟩ := hrel
      have HB : Hid _ := hb
      have HA : Hid _ := hA
      by_cases hlt : k = n
      · have e0 : ¬ (k : Int) < (n : Int) := by omega
        have hfull : os.all optG = true := by
          have := hall.out
          rw [List.take_of_length_le (by omega)] at this
          exact this
        have c5 := cell_of_row wr w.heap.size 5 _ 25 (0, 0) hA
        have c6 := cell_of_row wr w.heap.size 6 _ 25 (0, 0) hA
        simp only [List.getElem?_toArray, List.getElem?_cons_succ, List.getElem?_cons_zero] at c5 c6
        clear hlt hb hA hall A0
        go_wp2_with fail
        refine (gsize_any a n cap os wr (H.out.below HB.out) (optG_124 hfull)).mono ?_
        rintro e W2 ⟨rfl, hb2⟩
        have HB2 : Hid _ := HB.out.trans (hb2.mono HB.out.size)
        have hA2 := (hb2.block _ (Ca.lt_of_heap HA.out)).trans HA.out
        have d6 := cell_of_row W2 w.heap.size 6 _ 25 (0, 0) hA2
        simp only [List.getElem?_toArray, List.getElem?_cons_succ, List.getElem?_cons_zero] at d6
        have HEE : Hid (chkE sp vni os fr.length = if szO os ≤ 252 then (if fr.length ≤ 9018 then 0 else 3) else 1) := by
          show _ = _
          rw [HE.out, if_pos hfull]
        clear hb2 hA2 HA HE c5 c6 hfull
        by_cases c9 : 252 < szO os
        · have HF : Hid (chkE sp vni os fr.length = 1) := by show _ = _; rw [HEE.out, if_neg (by omega)]
          clear HEE
          go_wp2_with fail
          go_step3
          show FromLabel _ _ _ _ _ _
          refine from_label rfl ?_
          go_wp2
          simp only [Exit.jumpTo]
          go_ret
          rw [HF.out]
          exact ⟨rfl, HB2.out⟩
        by_cases c10 : 9018 < fr.length
        · have HF : Hid (chkE sp vni os fr.length = 3) := by show _ = _; rw [HEE.out, if_pos (by omega), if_neg (by omega)]
          have hgt : (9018 : Int) < ((strOfNums fr).size : Int) := by rw [hfs]; omega
          clear HEE
          go_wp2_with fail
          go_step3
          show FromLabel _ _ _ _ _ _
          refine from_label rfl ?_
          go_wp2
          simp only [Exit.jumpTo]
          go_ret
          rw [HF.out]
          exact ⟨rfl, HB2.out⟩
        · have HF : Hid (chkE sp vni os fr.length = 0) := by show _ = _; rw [HEE.out, if_pos (by omega), if_pos (by omega)]
          have hgt : ¬ (9018 : Int) < ((strOfNums fr).size : Int) := by rw [hfs]; omega
          clear HEE
          go_wp2
          simp only [Exit.jumpTo]
          go_ret
          rw [HF.out]
          exact ⟨rfl, HB2.out⟩
      · have hkI : (k : Int) < (n : Int) := by omega
        obtain ⟨o, b, off, ho, rfl, c0, c1', c2', hbl, hfit, hlen⟩ := os_cell (H.out.below hb) (show k < n by omega)
        have hs := strOfNums_size o.data
        have HT : Hid ((os.take (k + 1)).all optG = ((os.take k).all optG && optG o)) := by show _ = _; rw [take_snocO ho, List.all_append]; simp
        have HN : Hid (optG o = false → chkE sp vni os fr.length = 1) := fun hf => by
          have : os.all optG = false := by
            rw [Bool.eq_false_iff]; intro h
            have := List.all_eq_true.1 h o (List.mem_of_getElem? ho)
            rw [hf] at this; cases this
          rw [HE.out, this]; rfl
        have HG : Hid (optG o = (fit16 o.cls && (fit8 o.code && (decide (o.data.length ≤ 124) && decide (o.data.length % 4 = 0))))) := rfl
        have HR : Hid (Below w.heap.size w (wr.alloc (.cells #[.int .i64 o.cls, .int .i64 o.code, .string (strOfNums o.data)] 38))) := hb.alloc hb.size _
        have HRA : Hid ((wr.alloc (.cells #[.int .i64 o.cls, .int .i64 o.code, .string (strOfNums o.data)] 38)).heap[w.heap.size]? = some (.cells #[.int .u32 src, .int .u32 dst, .int .i64 sp, .int .i64 vni, .bool oam, .slice (some ⟨b, off, none⟩) n cap, .string (strOfNums fr)] 25 (0, 0))) := ((below1 wr _).block _ (Ca.lt_of_heap hA)).trans hA
        have hne : ¬ b = wr.heap.size := by omega
        generalize optG o = og at *
        generalize o.cls = oc at *
        generalize o.code = od at *
        generalize o.data = ds at *
        clear ho hfit hlen hb hA A0
        go_wp2_with fail
        refine (fits16_any oc _).mono ?_
        rintro e W2 ⟨rfl, rfl⟩
        cases d1 : fit16 oc
        · have hof : og = false := by rw [HG.out, d1]; rfl
          go_wp2_with fail
          go_step3
          show FromLabel _ _ _ _ _ _
          refine from_label rfl ?_
          go_wp2
          simp only [Exit.jumpTo]
          go_ret
          rw [HN.out hof]
          exact ⟨rfl, HR.out⟩
        go_wp2_with fail
        refine (fits8_any od _).mono ?_
        rintro e W2 ⟨rfl, rfl⟩
        cases d2 : fit8 od
        · have hof : og = false := by rw [HG.out, d1, d2]; rfl
          go_wp2_with fail
          go_step3
          show FromLabel _ _ _ _ _ _
          refine from_label rfl ?_
          go_wp2
          simp only [Exit.jumpTo]
          go_ret
          rw [HN.out hof]
          exact ⟨rfl, HR.out⟩
        by_cases d3 : 124 < ds.length
        · have hof : og = false := by rw [HG.out, d1, d2, show decide (ds.length ≤ 124) = false by simp; omega]; rfl
          have hgt : (124 : Int) < ((ds.length : Nat) : Int) := by omega
          go_wp2_with fail
          go_step3
          show FromLabel _ _ _ _ _ _
          refine from_label rfl ?_
          go_wp2
          simp only [Exit.jumpTo]
          go_ret
          rw [HN.out hof]
          exact ⟨rfl, HR.out⟩
        by_cases d4 : ds.length % 4 = 0
        · have hot : og = true := by rw [HG.out, d1, d2, show decide (ds.length ≤ 124) = true by simp; omega, show decide (ds.length % 4 = 0) = true by simp; omega]; rfl
          have hm : (((ds.length : Nat) : Int) % 4 != 0) = false := by simp; omega
          have hgl : ((ds.length : Nat) : Int) ≤ 124 := by omega
          have HAL : Hid ((os.take (k + 1)).all optG = true) := by show _ = _; rw [HT.out, hall.out, hot]; rfl
          clear HT HG HN hot
          go_wp2
          go_roundw
          case rel => exact ⟨k + 1, by omega, by go_num, HAL, HR.out, HRA.out⟩
          case measure => simp [intOf]; omega
        · have hof : og = false := by rw [HG.out, d1, d2, show decide (ds.length % 4 = 0) = false by simp; omega]; simp
          have hm : (((ds.length : Nat) : Int) % 4 != 0) = true := by simp; omega
          have hgl : ((ds.length : Nat) : Int) ≤ 124 := by omega
          go_wp2_with fail
          go_step3
          show FromLabel _ _ _ _ _ _
          refine from_label rfl ?_
          go_wp2
          simp only [Exit.jumpTo]
          go_ret
          rw [HN.out hof]
          exact ⟨rfl, HR.out⟩
  · have c1' : fit16 sp = false := by simpa using c1
    have HE : Hid (chkE sp vni os fr.length = 1) := by show _ = _; unfold chkE; rw [if_neg (fun h => c1 h.1)]
    go_enter Try.func17, Try.ntmps17
    go_wp2_with fail
    refine scope_from ?_
    go_wp2_with fail
    refine (fits16_any sp _).mono ?_
    rintro e W1 ⟨rfl, rfl⟩
    rw [c1']
    go_wp2_with fail
    go_step3
    show FromLabel _ _ _ _ _ _
    refine from_label rfl ?_
    go_wp2
    simp only [Exit.jumpTo]
    go_ret
    rw [HE.out]
    exact ⟨rfl, below1 w _⟩
end Go.Proofs.Ytgonckbdkgiddaa
