/- The document's table: Find. Conditions: as said. -/
import Derived.Test.YtlopnagajhjmmaaLV
namespace Go.Proofs.Ytlopnagajhjmmaa
open Go.RowKit Tr
set_option maxRecDepth 20000 in
set_option maxHeartbeats 4000000 in
theorem rFind_any {w : World} {B xb : Nat} {L : List Ro} {qa : Option Addr} {qc : Nat} (h : RTab w B xb L qa qc) (hr : ∀ x ∈ L, x.2.1 ≤ 32 ∧ rightB x.1 x.2.1 = true) (ip : BitVec 32) :
    Calls Try.prog 15 #[ptr xb, .int .u32 ip.toNat] w fun e w' => ∃ x ok, e = .returned (.tuple #[.agg #[.int .u32 x.1.toNat, .int .i64 x.2.1, .int .i64 x.2.2], .bool ok]) ∧ FindV L ip x ok ∧ Below w.heap.size w w' := by
  have cx0 : w.cell? ⟨xb, 0, none⟩ = some (.slice qa L.length qc) := cell_row h.blk 0
  have HL : Hid _ := h
  have HRR : Hid _ := hr
  have hlen := h.len
  have hxl := lt_of_heap h.blk
  clear h hr
  go_enter Try.func15, Try.ntmps15
  go_wp2
  go_loopw [7] (fun i wr => ∃ (k : Nat) (bp bn bv : Int), k ≤ L.length ∧ i = .int .i64 k ∧ Hid (BestK L ip k bp bn bv) ∧ Hid (wr.heap[w.heap.size + 1]? = some (.cells #[.int .u32 bp, .int .i64 bn, .int .i64 bv] 37 (0, 0)) ∧ wr.heap[w.heap.size]? = some (.cells #[.int .u32 0, .int .i64 0, .int .i64 0] 37 (0, 0)) ∧ Below w.heap.size w wr)) (fun i _ => L.length - (intOf i).toNat)
  case atStart => exact ⟨0, 0, -1, 0, Nat.zero_le _, rfl, .inl ⟨rfl, rfl, rfl, fun j x hj => by omega⟩, two_last w _ _, two_first w _ _, below2 w _ _⟩
  case round =>
    obtain ⟨k, bp, bn, bv, hk, rfl, HB, HW⟩ := hrel
    have bel := HW.out.2.2
    have cx : wr.cell? ⟨xb, 0, none⟩ = some (.slice qa L.length qc) := (bel.cell (p := ⟨xb, 0, none⟩) hxl).trans cx0
    have cb0 : wr.cell? ⟨w.heap.size + 1, 0, none⟩ = some (.int .u32 bp) := cell_row HW.out.1 0
    have cb1 : wr.cell? ⟨w.heap.size + 1, 1, none⟩ = some (.int .i64 bn) := cell_row HW.out.1 1
    have cb2 : wr.cell? ⟨w.heap.size + 1, 2, none⟩ = some (.int .i64 bv) := cell_row HW.out.1 2
    have fb0 := frozen_of_row wr _ 0 _ _ HW.out.1
    have fb1 := frozen_of_row wr _ 1 _ _ HW.out.1
    have fb2 := frozen_of_row wr _ 2 _ _ HW.out.1
    by_cases hlt : k < L.length
    · obtain ⟨x, hx⟩ : ∃ x, L[k]? = some x := ⟨L[k], List.getElem?_eq_getElem hlt⟩
      obtain ⟨g, rfl, d0, d1, d2⟩ := HL.out.at hx
      have c0 := (bel.cell (p := ⟨g, k * 3, none⟩) (cell_lt d0)).trans d0
      have c1 := (bel.cell (p := ⟨g, k * 3 + 1, none⟩) (cell_lt d1)).trans d1
      have c2 := (bel.cell (p := ⟨g, k * 3 + 2, none⟩) (cell_lt d2)).trans d2
      have hI : (k : Int) < (L.length : Int) := by omega
      have hI0 : (0 : Int) ≤ (k : Int) := by omega
      have hI2 : (k : Int) ≤ 274877906944 := by omega
      have hrx := HRR.out x (List.mem_of_getElem? hx)
      have HM : Hid (∀ V, Calls Try.prog 20 #[.int .i64 x.2.1] V fun e w' => e = .returned (.int .u32 (mskI x.2.1).toNat) ∧ w' = V) := fun V => rmask_any _ (by omega) (by omega) V
      have EA := and_has ip hrx.1 hrx.2
      obtain ⟨s1, s2, s3⟩ := BestK.step HB.out hx
      clear d0 d1 d2 hx
      cases hb : hasB x.1 x.2.1 ip
      · rw [hb] at EA
        have S1 : Hid _ := s1 hb
        clear s1 s2 s3 hb hrx
        go_wp2
        go_quiet ((go_at_call 20; exact Calls.quiet_of_same (HM.out _)))
        go_wp2
        go_roundw
        case rel => exact ⟨k + 1, bp, bn, bv, by omega, by go_num, S1, HW.out.1, HW.out.2.1, below_drewN bel _⟩
        case measure => simp [intOf]; omega
      · rw [hb] at EA
        by_cases hn : bn < (x.2.1 : Int)
        · have S3 : Hid _ := s3 hb hn
          clear s1 s2 s3 hb hrx
          go_wp2
          go_quiet ((go_at_call 20; exact Calls.quiet_of_same (HM.out _)))
          go_wp2
          refine ⟨⟨k + 1, x.1.toNat, x.2.1, x.2.2, by omega, by go_num, S3, ?_, ?_, ?_⟩, by simp [intOf]; omega⟩
          · exact row_setCell (row_setCell (row_setCell (w := wr.drewN nq) HW.out.1 0 _) 1 _) 2 _
          · have hne : w.heap.size ≠ w.heap.size + 1 := by omega
            exact (Below.heap_setCell _ _ _ _ hne).trans ((Below.heap_setCell _ _ _ _ hne).trans ((Below.heap_setCell _ _ _ _ hne).trans HW.out.2.1))
          · exact (((below_drewN bel nq).setCell (p := ⟨w.heap.size + 1, 0, none⟩) (by simp) _).setCell (p := ⟨w.heap.size + 1, 1, none⟩) (by simp) _).setCell (p := ⟨w.heap.size + 1, 2, none⟩) (by simp) _
        · have S2 : Hid _ := s2 hb hn
          clear s1 s2 s3 hb hrx
          go_wp2
          go_quiet ((go_at_call 20; exact Calls.quiet_of_same (HM.out _)))
          go_wp2
          go_roundw
          case rel => exact ⟨k + 1, bp, bn, bv, by omega, by go_num, S2, HW.out.1, HW.out.2.1, below_drewN bel _⟩
          case measure => simp [intOf]; omega
    · have hnl : ¬ (k : Int) < (L.length : Int) := by omega
      obtain rfl : k = L.length := by omega
      have f0 := frozen_of_row wr _ 0 _ _ HW.out.2.1
      have f1 := frozen_of_row wr _ 1 _ _ HW.out.2.1
      have f2 := frozen_of_row wr _ 2 _ _ HW.out.2.1
      have g0 : wr.cell? ⟨w.heap.size, 0, none⟩ = some (.int .u32 0) := cell_row HW.out.2.1 0
      have g1 : wr.cell? ⟨w.heap.size, 1, none⟩ = some (.int .i64 0) := cell_row HW.out.2.1 1
      have g2 : wr.cell? ⟨w.heap.size, 2, none⟩ = some (.int .i64 0) := cell_row HW.out.2.1 2
      rcases BestK.all HB.out with ⟨hz, hv⟩ | ⟨hz, x, rfl, rfl, rfl, hv⟩
      · have HV : Hid (FindV L ip (0#32, 0, 0) false) := hv
        clear hv
        go_wp2
        have rr := row_setCell (row_setCell (row_setCell (w := wr) HW.out.2.1 0 (.int .u32 0)) 1 (.int .i64 0)) 2 (.int .i64 0)
        refine bodyPost_ret (results_route (p := 4) (u := 5) rfl _ _ w.heap.size _ rfl rr rfl) rfl ⟨0#32, 0, 0, .inl ⟨rfl, HV.out, ?_⟩⟩
        exact ((bel.setCell (p := ⟨w.heap.size, 0, none⟩) (by simp) _).setCell (p := ⟨w.heap.size, 1, none⟩) (by simp) _).setCell (p := ⟨w.heap.size, 2, none⟩) (by simp) _
      · have HV : Hid (FindV L ip (x.1, x.2.1, x.2.2) true) := hv
        clear hv
        go_wp2
        have rr := row_setCell (row_setCell (row_setCell (w := wr) HW.out.2.1 0 (.int .u32 x.1.toNat)) 1 (.int .i64 x.2.1)) 2 (.int .i64 x.2.2)
        refine bodyPost_ret (results_route (p := 4) (u := 5) rfl _ _ w.heap.size _ rfl rr rfl) rfl ⟨x.1, x.2.1, x.2.2, .inr ⟨rfl, HV.out, ?_⟩⟩
        exact ((bel.setCell (p := ⟨w.heap.size, 0, none⟩) (by simp) _).setCell (p := ⟨w.heap.size, 1, none⟩) (by simp) _).setCell (p := ⟨w.heap.size, 2, none⟩) (by simp) _
end Go.Proofs.Ytlopnagajhjmmaa
