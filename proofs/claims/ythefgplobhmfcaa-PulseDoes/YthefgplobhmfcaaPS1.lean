/- Tick, of both sides. Conditions: the pulse is the call's own. -/
import Derived.Test.YthefgplobhmfcaaPR1
namespace Go.Proofs.Ythefgplobhmfcaa
open Go.RowKit Ieee
def tckE (L : List Int) (n : Int) : Int := if n < 0 then 1 else if 1048576 - (L.length : Int) < n then 2 else 0
def tckL (L : List Int) (n : Int) : List Int := if n < 0 then L else if 1048576 - (L.length : Int) < n then L else L ++ List.replicate n.toNat 0
theorem Cnt.tick {L : List Int} (h : Cnt L) (n : Int) : Cnt (tckL L n) := by
  have h1 := h.one
  unfold tckL
  split
  · exact h
  · split
    · exact h
    · refine ⟨by simp; omega, by simp; omega, fun x hx => ?_⟩
      rcases List.mem_append.1 hx with hx | hx
      · exact h.each x hx
      · rw [List.eq_of_mem_replicate hx]; omega
/-- append of no noughts. -/
theorem run_append_no {P : Program} (w : World) (base : Nat) (t tn ty e : TypeId) (i : TypeInfo) (kq kn : IntKind) (ht : P.underlying t = some (.slice e)) (htn : P.underlying tn = some (.int kn)) (hi : P.info? e = some i) (z : Value) (hz : i.zero = some z)
    (v : Value) (n : Nat) (xs : List Value) (hown : w.ownsRow base e 1 v n xs) :
    (Builtin.append_ #[t, tn] ty #[v, .int kq 0]).run P w = .ok v w := by
  have hw : IntKind.i64.wrap (0 : Int) = 0 := by decide
  rcases hown.2 with ⟨rfl, rfl⟩ | ⟨g, cap, cur, rfl, _, _, hnc, _⟩
  · simp [Builtin.append_, run_underlying ht, run_underlying htn, sizeOf, typeInfo, zeroValue, hi, hz, asInt, asIntOf, hw]
  · simp [Builtin.append_, run_underlying ht, run_underlying htn, sizeOf, typeInfo, zeroValue, hi, hz, asInt, asIntOf, hw, hnc, storeCells]
theorem run_append_tick (w : World) (base : Nat) (g cap : Nat) (L : List Int) (h1 : 1 ≤ L.length) (hown : w.ownsRow base 3 1 (.slice (some ⟨g, 0, none⟩) L.length cap) L.length (L.map (Value.int .i64))) (k : Nat) (hk : L.length + k ≤ 1048576) (hbase : base ≤ w.heap.size) :
    ∃ g' cap' w', (Builtin.append_ #[26, 3] 26 #[.slice (some ⟨g, 0, none⟩) L.length cap, .int .i64 k]).run Try.prog w = .ok (.slice (some ⟨g', 0, none⟩) (L.length + k) cap') w' ∧ w'.ownsRow base 3 1 (.slice (some ⟨g', 0, none⟩) (L.length + k) cap') (L.length + k) ((L ++ List.replicate k 0).map (Value.int .i64)) ∧ w.grownBy w' (some g) ∧ (g' = g ∨ w.heap.size ≤ g') := by
  obtain ⟨i, hi, hz, hs, hby⟩ := info3
  by_cases h0 : k = 0
  · subst h0
    refine ⟨g, cap, w, run_append_no w base 26 3 26 3 i .i64 .i64 Try.underlying26 Try.underlying3 hi _ hz _ _ _ hown, by simpa using hown, World.grownBy.refl _ _, .inl rfl⟩
  · obtain ⟨a', cap', w', hr, ho, hgr, ha⟩ := run_append_zeros (P := Try.prog) w base 26 3 26 3 i .i64 .i64 Try.underlying26 Try.underlying3 hi hz hs hby (.slice (some ⟨g, 0, none⟩) L.length cap) L.length L hown (by omega) k (by omega) (by omega) hbase
    rcases ho.2 with ⟨e, _⟩ | ⟨g', cap2, cur, e, _⟩
    · simp at e; omega
    · cases e
      refine ⟨g', cap', w', hr, ho, hgr, ?_⟩
      rcases ha with ha | ha
      · exact .inl (by simpa [Value.ownBlock] using ha)
      · cases ha; exact .inr (Nat.le_refl _)
set_option maxHeartbeats 1000000 in
theorem tick_any (base b g cap : Nat) (L : List Int) (n : Int) (w : World) (h : Pu w base 55 b g cap L) (hL : Cnt L) (hbase : base ≤ w.heap.size) :
    Calls Try.prog 13 #[.pointer (some ⟨b, 0, none⟩), .int .i64 n] w fun e w' => ChgPost w base 55 b g (tckE L n) (tckL L n) e w' := by
  have hfew := hL.few
  have hone := hL.one
  have hc := h.pr.cell
  have hle := h.pr.le
  have HPR : Hid _ := h.pr
  have H : Hid _ := h
  have h0I : decide (0 < L.length) = true := decide_eq_true (by omega)
  have hlt := h.lt
  have hbg := h.heap.1
  clear h hL
  generalize hm : L.length = m at *
  go_enter Try.func13, Try.ntmps13
  go_wp2_with fail
  refine (isMade_any _ _ _ _ L _ HPR.out).mono ?_
  rintro e W ⟨rfl, rfl⟩
  rw [h0I]
  rcases (by omega : n < 0 ∨ 0 ≤ n) with hn | hn
  · have E1 : Hid (tckE L n = 1) := by show _ = _; unfold tckE; rw [if_pos hn]
    have E2 : Hid (tckL L n = L) := by show _ = _; unfold tckL; rw [if_pos hn]
    go_wp2
    go_ret
    exact ⟨by rw [E1.out]; rfl, Mod.refl _ _ _ _, g, cap, by rw [E2.out]; exact H.out, .inl rfl⟩
  · rcases (by omega : 1048576 - (m : Int) < n ∨ n ≤ 1048576 - (m : Int)) with hx | hx
    · have E1 : Hid (tckE L n = 2) := by show _ = _; unfold tckE; rw [if_neg (by omega), hm, if_pos hx]
      have E2 : Hid (tckL L n = L) := by show _ = _; unfold tckL; rw [if_neg (by omega), hm, if_pos hx]
      go_wp2
      go_ret
      exact ⟨by rw [E1.out]; rfl, Mod.refl _ _ _ _, g, cap, by rw [E2.out]; exact H.out, .inl rfl⟩
    · have E1 : Hid (tckE L n = 0) := by show _ = _; unfold tckE; rw [if_neg (by omega), hm, if_neg (by omega)]
      have E2 : Hid (tckL L n = L ++ List.replicate n.toNat 0) := by show _ = _; unfold tckL; rw [if_neg (by omega), hm, if_neg (by omega)]
      obtain ⟨k, rfl⟩ : ∃ k : Nat, n = k := ⟨n.toNat, by omega⟩
      obtain ⟨g', cap', w', hr, ho, hgr, hg'⟩ := run_append_tick W base g cap L (by omega) H.out.row k (by omega) hbase
      rw [hm] at hr ho
      have HAP : Hid _ := hr
      have hb1 : w'.heap[b]? = some (.cells #[.slice (some ⟨g, 0, none⟩) m cap] 55 (0, 0)) := by
        rw [hgr.block b hlt.1 (by simpa using H.out.ne), ← hm]; exact H.out.blk
      have hc1 := cell_row hb1 0
      have hf1 := frozen_of_row w' b 0 _ _ hb1
      have HB1 : Hid _ := hb1
      have HO : Hid _ := ho
      have HGR : Hid _ := hgr
      have HG : Hid _ := hg'
      clear hr ho hgr hg' hb1
      simp only [List.getElem?_toArray, List.getElem?_cons_zero] at hc1
      go_wp2_with (first
        | (at_builtin; refine wpList_append_run2 rfl _ _ 26 3 rfl _ _ rfl rfl _ HAP.out ?_)
        | fail)
      go_ret
      have hb2 : Below base W w' := (Below.refl base W).grown HGR.out hbase (fun q hq => by cases hq; exact hbg)
      refine ⟨by rw [E1.out]; rfl, ⟨hb2.setCell H.out.lo _, ?_, fun j hj h1 h2 => ?_⟩, g', cap', ?_, HG.out⟩
      · have := HGR.out.size
        simp only [World.setCell, Array.size_modify]; omega
      · rw [Below.heap_setCell _ _ _ _ h1]
        exact HGR.out.block j hj (by simpa using h2)
      · have hgb : b ≠ g' := by
          rcases HG.out with rfl | hge
          · exact H.out.ne
          · omega
        have hl : (L ++ List.replicate k 0).length = m + k := by simp [hm]
        have hrow : (w'.setCell ⟨b, 0, none⟩ (.slice (some ⟨g', 0, none⟩) (m + k) cap')).ownsRow base 3 1 (.slice (some ⟨g', 0, none⟩) (m + k) cap') (m + k) ((L ++ List.replicate k 0).map (Value.int .i64)) := by
          refine ⟨HO.out.1, ?_⟩
          rcases HO.out.2 with h0 | ⟨q, cp, cur, e, a1, a2, a3⟩
          · exact .inl h0
          · cases e
            exact .inr ⟨g', cap', cur, rfl, a1, (Below.heap_setCell _ _ _ _ hgb.symm).trans a2, a3⟩
        rw [E2.out, Int.toNat_natCast]
        exact ⟨by rw [hl]; exact row_setCell HB1.out 0 _, by rw [hl]; exact hrow, H.out.lo, hgb⟩
set_option maxHeartbeats 1000000 in
theorem rtick_any (base b g cap : Nat) (L : List Int) (n : Int) (w : World) (h : Pu w base 28 b g cap L) (hL : Cnt L) (hbase : base ≤ w.heap.size) :
    Calls Try.prog 14 #[.pointer (some ⟨b, 0, none⟩), .int .i64 n] w fun e w' => ChgPost w base 28 b g (tckE L n) (tckL L n) e w' := by
  have hfew := hL.few
  have hone := hL.one
  have hc := h.pr.cell
  have hle := h.pr.le
  have H : Hid _ := h
  have hlt := h.lt
  have hbg := h.heap.1
  clear h hL
  generalize hm : L.length = m at *
  go_enter Try.func14, Try.ntmps14
  rcases (by omega : n < 0 ∨ 0 ≤ n) with hn | hn
  · have E1 : Hid (tckE L n = 1) := by show _ = _; unfold tckE; rw [if_pos hn]
    have E2 : Hid (tckL L n = L) := by show _ = _; unfold tckL; rw [if_pos hn]
    go_wp2
    go_ret
    exact ⟨by rw [E1.out]; rfl, Mod.refl _ _ _ _, g, cap, by rw [E2.out]; exact H.out, .inl rfl⟩
  · rcases (by omega : 1048576 - (m : Int) < n ∨ n ≤ 1048576 - (m : Int)) with hx | hx
    · have E1 : Hid (tckE L n = 2) := by show _ = _; unfold tckE; rw [if_neg (by omega), hm, if_pos hx]
      have E2 : Hid (tckL L n = L) := by show _ = _; unfold tckL; rw [if_neg (by omega), hm, if_pos hx]
      go_wp2
      go_ret
      exact ⟨by rw [E1.out]; rfl, Mod.refl _ _ _ _, g, cap, by rw [E2.out]; exact H.out, .inl rfl⟩
    · have E1 : Hid (tckE L n = 0) := by show _ = _; unfold tckE; rw [if_neg (by omega), hm, if_neg (by omega)]
      have E2 : Hid (tckL L n = L ++ List.replicate n.toNat 0) := by show _ = _; unfold tckL; rw [if_neg (by omega), hm, if_neg (by omega)]
      obtain ⟨k, rfl⟩ : ∃ k : Nat, n = k := ⟨n.toNat, by omega⟩
      obtain ⟨g', cap', w', hr, ho, hgr, hg'⟩ := run_append_tick w base g cap L (by omega) H.out.row k (by omega) hbase
      rw [hm] at hr ho
      have HAP : Hid _ := hr
      have hb1 : w'.heap[b]? = some (.cells #[.slice (some ⟨g, 0, none⟩) m cap] 28 (0, 0)) := by
        rw [hgr.block b hlt.1 (by simpa using H.out.ne), ← hm]; exact H.out.blk
      have hc1 := cell_row hb1 0
      have hf1 := frozen_of_row w' b 0 _ _ hb1
      have HB1 : Hid _ := hb1
      have HO : Hid _ := ho
      have HGR : Hid _ := hgr
      have HG : Hid _ := hg'
      clear hr ho hgr hg' hb1
      simp only [List.getElem?_toArray, List.getElem?_cons_zero] at hc1
      go_wp2_with (first
        | (at_builtin; refine wpList_append_run2 rfl _ _ 26 3 rfl _ _ rfl rfl _ HAP.out ?_)
        | fail)
      go_ret
      have hb2 : Below base w w' := (Below.refl base w).grown HGR.out hbase (fun q hq => by cases hq; exact hbg)
      refine ⟨by rw [E1.out]; rfl, ⟨hb2.setCell H.out.lo _, ?_, fun j hj h1 h2 => ?_⟩, g', cap', ?_, HG.out⟩
      · have := HGR.out.size
        simp only [World.setCell, Array.size_modify]; omega
      · rw [Below.heap_setCell _ _ _ _ h1]
        exact HGR.out.block j hj (by simpa using h2)
      · have hgb : b ≠ g' := by
          rcases HG.out with rfl | hge
          · exact H.out.ne
          · omega
        have hl : (L ++ List.replicate k 0).length = m + k := by simp [hm]
        have hrow : (w'.setCell ⟨b, 0, none⟩ (.slice (some ⟨g', 0, none⟩) (m + k) cap')).ownsRow base 3 1 (.slice (some ⟨g', 0, none⟩) (m + k) cap') (m + k) ((L ++ List.replicate k 0).map (Value.int .i64)) := by
          refine ⟨HO.out.1, ?_⟩
          rcases HO.out.2 with h0 | ⟨q, cp, cur, e, a1, a2, a3⟩
          · exact .inl h0
          · cases e
            exact .inr ⟨g', cap', cur, rfl, a1, (Below.heap_setCell _ _ _ _ hgb.symm).trans a2, a3⟩
        rw [E2.out, Int.toNat_natCast]
        exact ⟨by rw [hl]; exact row_setCell HB1.out 0 _, by rw [hl]; exact hrow, H.out.lo, hgb⟩
end Go.Proofs.Ythefgplobhmfcaa
