/- tupleOf, where the shape is new. Conditions: as said. -/
import Derived.Test.YtijeakggeichcaaGreatDoorQI
import Derived.Lib.Hide
namespace Go.Proofs.YtijeakggeichcaaGreatDoor
open Go.RowKit
theorem TV.putm {w : World} {v : Value} {ts : List Tm} (h : TV w v ts) {r c : Nat} {es : Array MapEntry} (hr : w.heap[r]? = some (.map es c)) (o : Obj) : TV (putObj w r o) v ts := by
  obtain ⟨a, n, c, rfl, hc, ht⟩ := h
  refine ⟨a, n, c, rfl, hc, ht.len, ht.room, ?_⟩
  rcases ht.cells with h0 | ⟨b, off, e, hcell⟩
  · exact .inl h0
  · refine .inr ⟨b, off, e, fun i t hi => ?_⟩
    have c0 := hcell i t hi
    have hne : b ≠ r := fun e => by
      subst e
      have := c0.1
      unfold World.cell? at this
      rw [hr] at this
      cases this
    have key : ∀ j, (putObj w r o).cell? ⟨b, j, none⟩ = w.cell? ⟨b, j, none⟩ := fun j => World.cell?_of_block (putObj_other w hne o)
    exact ⟨by rw [key]; exact c0.1, by rw [key]; exact c0.2.1, by rw [key]; exact c0.2.2⟩
theorem eql_ptuple (a : Addr) (W : World) : (binOp .eql 71 (.pointer (some a)) (.pointer none)).run Tryz.prog W = .ok (.bool false) W := by
  first | kernel_rfl | simp [binOp, go_sem]
theorem eql_ptuple0 (W : World) : (binOp .eql 71 (.pointer none) (.pointer none)).run Tryz.prog W = .ok (.bool true) W := by
  first | kernel_rfl | simp [binOp, go_sem]
theorem zero_ptuple (W : World) : (zeroValue 71).run Tryz.prog W = .ok (.pointer none) W := by
  first | kernel_rfl | simp [go_sem]
set_option linter.unusedSimpArgs false in
set_option maxRecDepth 20000 in
set_option maxHeartbeats 2000000 in
theorem tupleOf_new {w : World} {B cb rb tm ct : Nat} {tx : ByteArray} {s : Value} {ts : List Tm} {lt : List (ByteArray × Value × Nat)} (hc : w.heap[cb]? = some (.cells (clC rb tm) 66 (0, 0))) (hm : w.heap[tm]? = some (.map (entG sv lt).toArray ct))
    (hs : TV w s ts) (hlen : ts.length ≤ 100) (hx : ∀ W x, Below w.heap.size w W → TV W x (ts.map z0) → Calls Tryz.prog 37 #[x] W fun e w' => e = .returned (.string tx) ∧ Below W.heap.size W w') (hf : findG tx lt 0 = none) (hB : B ≤ w.heap.size) (hBm : B ≤ tm) :
    Calls Tryz.prog 20 #[.pointer (some ⟨cb, 0, none⟩), s] w fun e w' => ∃ tb qm sh mk, e = .returned (.pointer (some ⟨tb, 0, none⟩)) ∧ w.heap.size ≤ tb ∧ w.heap.size ≤ qm ∧ w'.heap[tm]? = some (.map (entG sv (lt ++ [(tx, .pointer (some ⟨tb, 0, none⟩), ct)])).toArray (ct + 1)) ∧
      w'.heap[tb]? = some (.cells (tuC tx sh mk qm) 90 (0, 0)) ∧ w'.heap[qm]? = some (.map #[] 0) ∧ w'.ownsRow w.heap.size 68 3 sh ts.length (rowT (ts.map z0)) ∧ (∀ g, g < w.heap.size → g ≠ tm → w'.heap[g]? = w.heap[g]?) ∧ Below B w w' := by
  have HS : Hid _ := shapeOf_any s ts w hs (by omega)
  have HX : Hid _ := hx
  have HC : Hid _ := hc
  have HM : Hid _ := hm
  have HF : Hid _ := hf
  have hlc := lt_of_heap hc
  have hlm := lt_of_heap hm
  obtain ⟨sa, sn, sc, rfl, _, _⟩ := hs
  clear hx hc hm hf
  go_enter Tryz.func20, Tryz.ntmps20
  go_wp2_with fail
  refine Calls.mono HS.out ?_
  rintro e W1 ⟨x, rfl, ho, hb⟩
  have tv1 : TV W1 x (ts.map z0) := own_any (B := w.heap.size) (by simpa using ho) (by simp; omega)
  obtain ⟨xa, xn, xc, rfl⟩ : ∃ a n c, x = .slice a n c := by
    obtain ⟨a, n, c, e, _⟩ := tv1
    exact ⟨a, n, c, e⟩
  have B1 : Hid _ := hb
  have TV1 : Hid _ := tv1
  have OW1 : Hid _ := ho
  have HXX : Hid _ := HX.out W1 _ hb tv1
  clear ho hb tv1
  go_wp2_with fail
  refine Calls.mono HXX.out ?_
  rintro e W ⟨rfl, hb⟩
  have BW : Hid (Below w.heap.size w W) := B1.out.trans (hb.mono B1.out.size)
  have TVW : Hid (TV W (.slice xa xn xc) (ts.map z0)) := TV.below TV1.out hb
  have OWW : Hid (W.ownsRow w.heap.size 68 3 (.slice xa xn xc) ts.length (rowT (ts.map z0))) := own_below OW1.out hb
  clear hb
  have c1 : W.cell? ⟨cb, 1, none⟩ = some (.map (some tm)) := cell_row ((BW.out.block _ hlc).trans HC.out) 1
  have m0 : W.heap[tm]? = some (.map (entG sv lt).toArray ct) := (BW.out.block _ hlm).trans HM.out
  have M0 : Hid _ := m0
  have hlk : (Instr.lookup 64 (.map (some tm)) (.string tx) false).run Tryz.prog W = .ok (.pointer none) W := by
    have := look_any strK Tryz.underlying64 (.pointer none) zero_ptuple m0 tx
    simpa [HF.out, sv] using this
  have heq := eql_ptuple0
  have HK : Hid _ := marksOf_any (.slice xa xn xc) (ts.map z0) W TVW.out (by simp; omega)
  clear m0
  go_wp2_with fail
  refine Calls.mono HK.out ?_
  rintro e W2 ⟨⟨mk, rfl⟩, hb2⟩
  have hsz := BW.out.size
  have hsz2 := hb2.size
  obtain ⟨V, hV⟩ : ∃ V, V = (W2.alloc (.map #[] 0)).alloc (.cells (tuC tx (.slice xa xn xc) mk W2.heap.size) 90) := ⟨_, rfl⟩
  have BV : Hid (Below W2.heap.size W2 V) := by rw [hV]; exact below2 W2 _ _
  have BWV : Hid (Below W.heap.size W V) := hb2.trans (BV.out.mono hb2.size)
  have SV : Hid (V.heap.size = W2.heap.size + 2) := by show _ = _; rw [hV]; simp
  have V1 : Hid (V.heap[W2.heap.size]? = some (.map #[] 0)) := by show _ = _; rw [hV]; exact two_first _ _ _
  have V2 : Hid (V.heap[W2.heap.size + 1]? = some (.cells (tuC tx (.slice xa xn xc) mk W2.heap.size) 90 (0, 0))) := by show _ = _; rw [hV]; exact two_last _ _ _
  have hput : (Instr.mapUpdate 64 (.map (some tm)) (.string tx) (.pointer (some ⟨W2.heap.size + 1, 0, none⟩))).run Tryz.prog V = .ok () (putObj V tm (.map (entG sv (lt ++ [(tx, .pointer (some ⟨W2.heap.size + 1, 0, none⟩), ct)])).toArray (ct + 1))) := by
    have := put_new strK Tryz.underlying64 (w := V) ((BWV.out.block _ (by omega)).trans M0.out) tx HF.out (.pointer (some ⟨W2.heap.size + 1, 0, none⟩))
    simpa [sv] using this
  have t4 : V.cell? ⟨cb, 1, none⟩ = some (.map (some tm)) := cell_row ((BWV.out.block _ (by omega)).trans ((BW.out.block _ hlc).trans HC.out)) 1
  have hmm := @run_makeMap Tryz.prog
  rw [hV] at hput t4
  have HV : Hid _ := hV
  clear hb2 hlk hV c1
  go_wp2_with fail
  go_ret
  rw [← HV.out]
  refine ⟨W2.heap.size + 1, W2.heap.size, .slice xa xn xc, mk, rfl, by omega, by omega, putObj_same (by rw [SV.out]; omega) _, (putObj_other V (by omega) _).trans V2.out, (putObj_other V (by omega) _).trans V1.out, ?_, fun g h1 h2 => (putObj_other V h2 _).trans ((BWV.out.block _ (by omega)).trans (BW.out.block _ h1)), (BW.out.mono hB).trans ((BWV.out.mono (by omega)).trans ((putObj_below V tm _).mono hBm))⟩
  exact own_from (own_below OWW.out BWV.out) (fun g hg1 hg2 => putObj_other V (by omega) _)
end Go.Proofs.YtijeakggeichcaaGreatDoor
