/- An entry put into a tuple under a key that is new there. Conditions: as said. -/
import Derived.Test.YtijeakggeichcaaGreatDoorQH
import Derived.Lib.Hide
namespace Go.Proofs.YtijeakggeichcaaGreatDoor
open Go.RowKit
/-- A tuple by its cells. -/
abbrev tuC (tx : ByteArray) (sh : Value) (mk : Int) (qm : Nat) : Array Value := #[.string tx, sh, .int .u64 mk, .map (some qm)]
theorem run_queue0 (w : World) : (Instr.buildSlice 103 0 #[]).run Tryz.prog w = .ok (.slice (some ⟨w.heap.size, 0, none⟩) 0 0) (w.alloc (.cells #[] 69)) := by kernel_rfl
theorem eql_pqueue (a : Addr) (W : World) : (binOp .eql 102 (.pointer (some a)) (.pointer none)).run Tryz.prog W = .ok (.bool false) W := by
  first | kernel_rfl | simp [binOp, go_sem]
theorem eql_pqueue0 (W : World) : (binOp .eql 102 (.pointer none) (.pointer none)).run Tryz.prog W = .ok (.bool true) W := by
  first | kernel_rfl | simp [binOp, go_sem]
theorem zero_pqueue (W : World) : (zeroValue 102).run Tryz.prog W = .ok (.pointer none) W := by
  first | kernel_rfl | simp [go_sem]
set_option linter.unusedSimpArgs false in
set_option maxRecDepth 20000 in
set_option maxHeartbeats 2000000 in
theorem tadd_new {w : World} {B tb qm c eb : Nat} {tx : ByteArray} {sh s : Value} {mk p id pl : Int} {ts : List Tm} {lq : List (ByteArray × Value × Nat)} (ht : w.heap[tb]? = some (.cells (tuC tx sh mk qm) 90 (0, 0))) (hq : w.heap[qm]? = some (.map (entG sv lq).toArray c))
    (he : w.heap[eb]? = some (.cells (enC p s id tb pl) 74 (0, 0))) (hs : TV w s ts) (hlen : ts.length ≤ 100) (hf : findG (keyS ts) lq 0 = none) (hB : B ≤ w.heap.size) (hBq : B ≤ qm) (hBe : B ≤ eb) :
    Calls Tryz.prog 21 #[.pointer (some ⟨tb, 0, none⟩), .pointer (some ⟨eb, 0, none⟩)] w fun e w' => e = .returned (.tuple #[]) ∧ ∃ qb qa qc, w.heap.size ≤ qb ∧ w'.heap[qm]? = some (.map (entG sv (lq ++ [(keyS ts, .pointer (some ⟨qb, 0, none⟩), c)])).toArray (c + 1)) ∧
      w'.heap[qb]? = some (.cells (quC (.slice qa 1 qc)) 103 (0, 0)) ∧ w'.ownsRow B 69 1 (.slice qa 1 qc) 1 [.pointer (some ⟨eb, 0, none⟩)] ∧ w'.heap[eb]? = some (.cells (enC p s id tb 0) 74 (0, 0)) ∧ (∀ g, g < w.heap.size → g ≠ qm → g ≠ eb → w'.heap[g]? = w.heap[g]?) ∧ Below B w w' := by
  have HV : Hid _ := valuesOf_any s ts w hs hlen
  obtain ⟨sa, sn, sc, rfl, _, _⟩ := hs
  have c1 : w.cell? ⟨eb, 1, none⟩ = some (.slice sa sn sc) := cell_row he 1
  have HE : Hid _ := he
  have HT : Hid _ := ht
  have HQ : Hid _ := hq
  have HF : Hid _ := hf
  have hlt := lt_of_heap ht
  have hlq := lt_of_heap hq
  have hle := lt_of_heap he
  obtain ⟨key, hkey⟩ : ∃ key, keyS ts = key := ⟨_, rfl⟩
  rw [hkey] at HV HF ⊢
  clear he ht hq hf hkey
  go_enter Tryz.func21, Tryz.ntmps21
  go_wp2_with fail
  refine Calls.mono HV.out ?_
  rintro e W ⟨rfl, hb⟩
  have HB : Hid _ := hb
  have t3 : W.cell? ⟨tb, 3, none⟩ = some (.map (some qm)) := cell_row ((hb.block _ hlt).trans HT.out) 3
  have q0 : W.heap[qm]? = some (.map (entG sv lq).toArray c) := (hb.block _ hlq).trans HQ.out
  have Q0 : Hid _ := q0
  have hlk : (Instr.lookup 88 (.map (some qm)) (.string key) false).run Tryz.prog W = .ok (.pointer none) W := by
    have := look_any strK Tryz.underlying88 (.pointer none) zero_pqueue q0 key
    simpa [HF.out, sv] using this
  have hqb := run_queue0
  have heq := eql_pqueue0
  obtain ⟨V, hV⟩ : ∃ V, V = (W.alloc (.cells #[] 69)).alloc (.cells (quC (.slice (some ⟨W.heap.size, 0, none⟩) 0 0)) 103) := ⟨_, rfl⟩
  have BV : Hid (Below W.heap.size W V) := by rw [hV]; exact below2 W _ _
  have SV : Hid (V.heap.size = W.heap.size + 2) := by show _ = _; rw [hV]; simp
  have V1 : Hid (V.heap[W.heap.size]? = some (.cells #[] 69 (0, 0))) := by show _ = _; rw [hV]; exact two_first _ _ _
  have V2 : Hid (V.heap[W.heap.size + 1]? = some (.cells (quC (.slice (some ⟨W.heap.size, 0, none⟩) 0 0)) 103 (0, 0))) := by show _ = _; rw [hV]; exact two_last _ _ _
  have hput : (Instr.mapUpdate 88 (.map (some qm)) (.string key) (.pointer (some ⟨W.heap.size + 1, 0, none⟩))).run Tryz.prog V = .ok () (putObj V qm (.map (entG sv (lq ++ [(key, .pointer (some ⟨W.heap.size + 1, 0, none⟩), c)])).toArray (c + 1))) := by
    have := put_new strK Tryz.underlying88 (w := V) ((BV.out.block _ (by have := hb.size; omega)).trans q0) key HF.out (.pointer (some ⟨W.heap.size + 1, 0, none⟩))
    simpa [sv] using this
  have t4 : V.cell? ⟨tb, 3, none⟩ = some (.map (some qm)) := cell_row ((BV.out.block _ (by have := hb.size; omega)).trans ((hb.block _ hlt).trans HT.out)) 3
  have hsz := hb.size
  rw [hV] at hput t4
  clear hb q0
  go_wp2_with fail
  rw [← hV]
  obtain ⟨U, hU⟩ : ∃ U, U = putObj V qm (.map (entG sv (lq ++ [(key, .pointer (some ⟨W.heap.size + 1, 0, none⟩), c)])).toArray (c + 1)) := ⟨_, rfl⟩
  rw [← hU]
  have us : U.heap.size = W.heap.size + 2 := by rw [hU, putObj_size, SV.out]
  have uq : U.heap[qm]? = some (.map (entG sv (lq ++ [(key, .pointer (some ⟨W.heap.size + 1, 0, none⟩), c)])).toArray (c + 1)) := by rw [hU]; exact putObj_same (by rw [SV.out]; omega) _
  have uo : ∀ g, g ≠ qm → U.heap[g]? = V.heap[g]? := fun g hg => by rw [hU]; exact putObj_other V hg _
  have ue : U.heap[eb]? = some (.cells (enC p (.slice sa sn sc) id tb pl) 74 (0, 0)) := by
    have hne : eb ≠ qm := fun e => by subst e; have := HE.out; rw [HQ.out] at this; cases this
    exact (uo _ hne).trans ((BV.out.block _ (by omega)).trans ((HB.out.block _ hle).trans HE.out))
  have u1 : U.heap[W.heap.size]? = some (.cells #[] 69 (0, 0)) := (uo _ (by omega)).trans V1.out
  have u2 : U.heap[W.heap.size + 1]? = some (.cells (quC (.slice (some ⟨W.heap.size, 0, none⟩) 0 0)) 103 (0, 0)) := (uo _ (by omega)).trans V2.out
  have uown : U.ownsRow B 69 1 (.slice (some ⟨W.heap.size, 0, none⟩) 0 0) 0 [] := ⟨rfl, .inr ⟨W.heap.size, 0, #[], rfl, by omega, u1, Nat.le_refl _, Nat.zero_le _, rfl, rfl⟩⟩
  have bU : Below B w U := (HB.out.mono hB).trans ((BV.out.mono (by omega)).trans (by rw [hU]; exact (putObj_below V qm _).mono hBq))
  have HU : Hid (Below B w U) := bU
  have UQ : Hid _ := uq
  have UO : Hid _ := uo
  have hqe : qm ≠ eb := fun e => by subst e; have := HE.out; rw [HQ.out] at this; cases this
  have HP : Hid _ := hPush_zero (W.heap.size + 1) eb B (.slice (some ⟨W.heap.size, 0, none⟩) 0 0) p id (.slice sa sn sc) tb pl U u2 ue uown (by omega) (by omega) hBe
  clear hU uq uo ue u1 u2 uown bU hput t3 t4 hlk hqb heq c1 hV
  go_wp2_with fail
  refine Calls.mono HP.out ?_
  rintro e Z ⟨rfl, qa, qc, x1, x2, x3, x4, x5⟩
  have hold : ∀ g, g < w.heap.size → g ≠ qm → g ≠ eb → Z.heap[g]? = w.heap[g]? := fun g h1 h2 h3 =>
    (x4 g (by omega) (by omega) h3 (by simp [Value.ownBlock]; omega)).trans ((UO.out g h2).trans ((BV.out.block _ (by omega)).trans (HB.out.block _ h1)))
  have hqm : Z.heap[qm]? = some (.map (entG sv (lq ++ [(key, .pointer (some ⟨W.heap.size + 1, 0, none⟩), c)])).toArray (c + 1)) := (x4 qm (by omega) (by omega) hqe (by simp [Value.ownBlock]; omega)).trans UQ.out
  have K : Hid _ := And.intro hqm (And.intro x1 (And.intro x3 (And.intro x2 (And.intro hold (HU.out.trans x5)))))
  clear x1 x2 x3 x4 x5 hold hqm HP
  go_wp2
  go_end0
  exact ⟨rfl, W.heap.size + 1, qa, qc, by omega, K.out⟩
end Go.Proofs.YtijeakggeichcaaGreatDoor
