/- flow.Copy's list of actions. Conditions: the row can be read; what becomes of the lists within is given. -/
import Derived.Test.YtnahhmcmahbnkaaGreatDoorGAJtoWE
import Derived.Deep.DeepMust
import Derived.Deep.RegionHeld
import Derived.Lib.Hide
import Derived.Test.YtnahhmcmahbnkaaGreatDoorGFHtoAA
import Derived.Deep.RegionHeld3
import Derived.Deep.RegionWith
import Derived.Deep.DrawnRows
namespace Go.Proofs.YtnahhmcmahbnkaaGreatDoor.Ac
open Go.RowKit
/-- Something that is said of a value and of the blocks from B on. -/
def Lasts (R : Nat → World → Value → Prop) : Prop := ∀ B W W' v, R B W v → W.heap.size ≤ W'.heap.size → (∀ k, B ≤ k → k < W.heap.size → W'.heap[k]? = W.heap[k]?) → R B W' v
/-- A copy of n actions, the first k of them done. -/
structure Cpd (w : World) (R : Nat → Nat → World → Value → Prop) (C : Array Value) (n k : Nat) (g' : Nat) (D : Array Value) (W : World) : Prop where
  row : W.heap[g']? = some (.cells D 49 (0, 0))
  base : w.heap.size ≤ g'
  size : n * 15 ≤ D.size
  one : ∀ j v, j < n * 15 → D[j]? = some v → v.oneCell' = true
  same : ∀ i j, i < n → j < 15 → (k ≤ i ∨ (j ≠ 7 ∧ j ≠ 8)) → D[i * 15 + j]? = C[i * 15 + j]?
  kids : ∀ i, i < k → ∃ v B, D[i * 15 + 7]? = some v ∧ g' < B ∧ R i B W v
  ways : ∀ i, i < k → D[i * 15 + 8]? = some (.slice none 0 0)
  below : Below w.heap.size w W
theorem Cpd.next {w W W' : World} {R : Nat → Nat → World → Value → Prop} {C : Array Value} {n k g' : Nat} {D : Array Value} (h : Cpd w R C n k g' D W) (hb : Below W.heap.size W W') (hR : ∀ i, Lasts (R i)) : Cpd w R C n k g' D W' :=
  ⟨(hb.block _ (lt_of_heap h.row)).trans h.row, h.base, h.size, h.one, h.same, fun i hi => by
    obtain ⟨v, B, q1, q2, q3⟩ := h.kids i hi
    exact ⟨v, B, q1, q2, hR i B W W' v q3 hb.size (fun k _ hk => hb.block k hk)⟩, h.ways, h.below.trans (hb.mono h.below.size)⟩
set_option linter.unusedSimpArgs false in
set_option maxRecDepth 100000 in
set_option maxHeartbeats 4000000 in
theorem copyacts_row (g n c : Nat) (C : Array Value) (w : World) (hC : w.heap[g]? = some (.cells C 49 (0, 0))) (hn : n * 15 ≤ C.size) (hone : C.all (·.oneCell') = true) (hm : n ≤ 1000000) (hn1 : 1 ≤ n) (R : Nat → Nat → World → Value → Prop)
    (hk : ∀ i, i < n → ∃ a m k, C[i * 15 + 7]? = some (.slice a m k)) (hw : ∀ i, i < n → ∃ k, C[i * 15 + 8]? = some (.slice none 0 k))
    (h : ∀ i a m k, i < n → C[i * 15 + 7]? = some (.slice a m k) → ∀ W, Below w.heap.size w W → Calls Tryz.prog 41 #[.slice a m k] W fun e w' => ∃ a' m' k', e = .returned (.slice a' m' k') ∧ R i W.heap.size w' (.slice a' m' k') ∧ Below W.heap.size W w')
    (hR : ∀ i, Lasts (R i)) :
    Calls Tryz.prog 41 #[.slice (some ⟨g, 0, none⟩) n c] w fun e w' => ∃ g' cap D, e = .returned (.slice (some ⟨g', 0, none⟩) n cap) ∧ n ≤ cap ∧ Cpd w R C n n g' D w' := by
  have HCL : Hid _ := cloneacts_row g n c C w hC hn hone hm hn1
  have HN : Hid (n * 15 ≤ C.size) := hn
  have HK : Hid _ := hk
  have HW : Hid _ := hw
  have HH : Hid _ := h
  have HR : Hid _ := hR
  have hmI : (n : Int) ≤ 1000000 := by omega
  have HO : Hid (∀ (j : Nat) (v : Value), C[j]? = some v → v.oneCell' = true) := fun j v hv => Array.all_eq_true'.1 hone v (Array.mem_iff_getElem?.2 ⟨j, hv⟩)
  clear hC hn hone hk hw h hR
  go_enter Tryz.func41, Tryz.ntmps41
  go_wp2_with fail
  refine Calls.mono HCL.out ?_
  rintro e W1 ⟨x, rfl, hown, hb⟩
  obtain ⟨g', cap, D0, rfl, q1, q2, q3, q4, q5, q6⟩ : ∃ g' cap D0, x = .slice (some ⟨g', 0, none⟩) n cap ∧ w.heap.size ≤ g' ∧ W1.heap[g']? = some (.cells D0 49 (0, 0)) ∧ n ≤ cap ∧ cap ≤ maxLen ∧ D0.size = cap * 15 ∧ D0.toList.take (n * 15) = C.toList.take (n * 15) := by
    rcases hown.2 with ⟨_, h0⟩ | ⟨g', cap, cur, e, r⟩
    · omega
    · exact ⟨g', cap, cur, e, r⟩
  have QC : Hid (n ≤ cap) := q3
  have K0 : Hid (∃ D, Cpd w R C n 0 g' D W1) := by
    have hat : ∀ j, j < n * 15 → D0[j]? = C[j]? := fun j hj => by
      have e1 : (D0.toList.take (n * 15))[j]? = (C.toList.take (n * 15))[j]? := by rw [q6]
      rwa [List.getElem?_take_of_lt hj, List.getElem?_take_of_lt hj, Array.getElem?_toList, Array.getElem?_toList] at e1
    refine ⟨D0, q2, q1, by omega, fun j v hj hv => ?_, fun i j hi hj _ => hat _ (by omega), fun i hi => absurd hi (Nat.not_lt_zero _), fun i hi => absurd hi (Nat.not_lt_zero _), hb⟩
    rw [hat j hj] at hv
    exact HO.out j v hv
  clear HCL hown hb q1 q2 q3 q4 q5 q6
  go_wp2_with fail
  go_loopw [10] (fun i wr => ∃ k : Nat, i = .int .i64 k ∧ k ≤ n ∧ Hid (∃ D, Cpd w R C n k g' D wr)) (fun i _ => n - (intOf i).toNat)
  case atStart => exact ⟨0, rfl, Nat.zero_le _, K0.out⟩
  case round =>
    clear K0
    obtain ⟨k, rfl, hkn, hcp⟩ := hrel
    by_cases hlt : k < n
    · have hltI : (k : Int) < (n : Int) := by omega
      obtain ⟨D, hD⟩ := hcp.out
      have HD : Hid (Cpd w R C n k g' D wr) := hD
      obtain ⟨ka, km, kc, hk7⟩ := HK.out k hlt
      obtain ⟨kw, hk8⟩ := HW.out k hlt
      obtain ⟨A, hA⟩ : ∃ A, D.extract (k * 15) (k * 15 + 15) = A := ⟨_, rfl⟩
      have HA : Hid (D.extract (k * 15) (k * 15 + 15) = A) := hA
      have HAs : Hid (A.size = 15) := by show _ = _; have := HD.out.size; rw [← HA.out, Array.size_extract]; omega
      have HAo : Hid (A.all (·.oneCell') = true) := by show _ = _; rw [← HA.out]; exact Array.all_eq_true'.2 (fun u hu => by
          obtain ⟨j, hj⟩ := Array.mem_iff_getElem?.1 hu
          rw [Array.getElem?_extract] at hj
          split at hj
          · rename_i hj2
            exact HD.out.one _ u (by have := HD.out.size; omega) hj
          · cases hj)
      have HA7 : Hid (A[7]? = some (.slice ka km kc)) := by
        show _ = _
        rw [← HA.out, Array.getElem?_extract, if_pos (by have := HD.out.size; omega), HD.out.same k 7 hlt (by omega) (.inl (Nat.le_refl _))]; exact hk7
      have HA8 : Hid (A[8]? = some (.slice none 0 kw)) := by
        show _ = _
        rw [← HA.out, Array.getElem?_extract, if_pos (by have := HD.out.size; omega), HD.out.same k 8 hlt (by omega) (.inl (Nat.le_refl _))]; exact hk8
      have HK7 : Hid _ := hk7
      have HK8 : Hid _ := hk8
      clear hk7 hk8 hcp hD hA
      have Z0 : Hid _ := heap_alloc_new wr (.cells (leafA 0) 49)
      go_wp2_with (first
        | refine wpList_load_as rfl 49 _ rfl g' (k * 15) 15 rfl D A 49 _ HD.out.row Tryz.underlying49 rfl HA.out HAs.out size15 ?_
        | refine wpList_store_row rfl 49 _ _ rfl wr.heap.size (leafA 0) A 49 rfl rfl Z0.out (info15 HAs.out) HAs.out.symm HAo.out ?_
        | fail)
      intro W4 z1 z2 z3 z4
      obtain ⟨b5, hb5⟩ : ∃ b, wr.heap.size = b := ⟨_, rfl⟩
      have b4 : Below wr.heap.size wr W4 := (below1 wr _).trans z4
      have D4 : Hid (Cpd w R C n k g' D W4) := HD.out.next b4 HR.out
      have hgb : g' < b5 := by rw [← hb5]; exact lt_of_heap HD.out.row
      have HGB : Hid (g' < b5) := hgb
      rw [hb5] at z1 z3 ⊢
      have KC : Hid (∀ W : World, W.heap[b5]? = some (.cells A 49 (0, 0)) → W.cell? ⟨b5, 7, none⟩ = some (.slice ka km kc) ∧ W.cell? ⟨b5, 8, none⟩ = some (.slice none 0 kw)) := fun W h => ⟨(cell_row h 7).trans HA7.out, (cell_row h 8).trans HA8.out⟩
      have R4 : Hid _ := z1
      clear z1 z2 z3 z4 b4 hb5 hgb Z0 HD
      go_wp2_with fail
      refine wp_region_held_drew (S := fun W : World => W.cell? ⟨b5, 7, none⟩ = some (.slice ka km kc) ∧ W.cell? ⟨b5, 8, none⟩ = some (.slice none 0 kw)) (by kernel_rfl) ?_ (fun hHeld => ?_)
      · exact KC.out _ R4.out
      refine wpAnyH_take (i := 0) (v := ?_) rfl (by kernel_rfl) (by kernel_rfl) (by kernel_rfl) (fun _ _ _ h => h) (Or.inl ⟨by rfl, ?_⟩) (by assumption) ?_
      rotate_left
      · (intro w hSw; (try dsimp only at hSw); go_simp; try with_reducible rfl)
      try simp only [List.getElem_toArray, List.getElem_cons_zero, List.getElem_cons_succ, Act.put, List.setIfInBounds_toArray, List.set_cons_zero, List.set_cons_succ]
      refine wpAnyH_take (i := 1) (v := ?_) rfl (by kernel_rfl) (by kernel_rfl) (by kernel_rfl) (fun _ _ _ h => h) (Or.inl ⟨by rfl, ?_⟩) (by assumption) ?_
      rotate_left
      · (intro w hSw; (try dsimp only at hSw); go_simp; try with_reducible rfl)
      try simp only [List.getElem_toArray, List.getElem_cons_zero, List.getElem_cons_succ, Act.put, List.setIfInBounds_toArray, List.set_cons_zero, List.set_cons_succ]
      refine wpAnyH_take (i := 2) (v := ?_) rfl (by kernel_rfl) (by kernel_rfl) (by kernel_rfl) (fun _ _ _ h => h) (Or.inl ⟨by rfl, ?_⟩) (by assumption) ?_
      rotate_left
      · (intro w hSw; (try dsimp only at hSw); go_simp; try with_reducible rfl)
      try simp only [List.getElem_toArray, List.getElem_cons_zero, List.getElem_cons_succ, Act.put, List.setIfInBounds_toArray, List.set_cons_zero, List.set_cons_succ]
      refine wpAnyH_take (i := 3) (v := ?_) rfl (by kernel_rfl) (by kernel_rfl) (by kernel_rfl) (fun _ _ _ h => h) (Or.inl ⟨by rfl, ?_⟩) (by assumption) ?_
      rotate_left
      · (intro w hSw; (try dsimp only at hSw); go_simp; try with_reducible rfl)
      try simp only [List.getElem_toArray, List.getElem_cons_zero, List.getElem_cons_succ, Act.put, List.setIfInBounds_toArray, List.set_cons_zero, List.set_cons_succ]
      refine wpAnyH_take (i := 4) (v := ?_) rfl (by kernel_rfl) (by kernel_rfl) (by kernel_rfl) (fun _ _ _ h => h) (Or.inl ⟨by rfl, ?_⟩) (by assumption) ?_
      rotate_left
      · (intro w hSw; (try dsimp only at hSw); go_simp; try with_reducible rfl)
      try simp only [List.getElem_toArray, List.getElem_cons_zero, List.getElem_cons_succ, Act.put, List.setIfInBounds_toArray, List.set_cons_zero, List.set_cons_succ]
      refine wpAnyH_take (i := 5) (v := ?_) rfl (by kernel_rfl) (by kernel_rfl) (by kernel_rfl) (fun _ _ _ h => h) (Or.inl ⟨by rfl, ?_⟩) (by assumption) ?_
      rotate_left
      · (intro w hSw; (try dsimp only at hSw); go_simp; try with_reducible rfl)
      try simp only [List.getElem_toArray, List.getElem_cons_zero, List.getElem_cons_succ, Act.put, List.setIfInBounds_toArray, List.set_cons_zero, List.set_cons_succ]
      refine wpAnyH_take (i := 7) (v := ?_) rfl (by kernel_rfl) (by kernel_rfl) (by kernel_rfl) (fun _ _ _ h => h) (Or.inl ⟨by rfl, ?_⟩) (by assumption) ?_
      rotate_left
      · (intro w hSw; (try dsimp only at hSw); go_simp; try with_reducible rfl)
      try simp only [List.getElem_toArray, List.getElem_cons_zero, List.getElem_cons_succ, Act.put, List.setIfInBounds_toArray, List.set_cons_zero, List.set_cons_succ]
      refine wpAnyH_take (i := 8) (v := ?_) rfl (by kernel_rfl) (by kernel_rfl) (by kernel_rfl) (fun _ _ _ h => h) (Or.inl ⟨by rfl, ?_⟩) (by assumption) ?_
      rotate_left
      · (intro w hSw; (try dsimp only at hSw); go_simp; try with_reducible rfl)
      try simp only [List.getElem_toArray, List.getElem_cons_zero, List.getElem_cons_succ, Act.put, List.setIfInBounds_toArray, List.set_cons_zero, List.set_cons_succ]
      have D4d : Hid (Cpd w R C n k g' D W4.drew) := D4.out.next (Below.refl _ _).drew HR.out
      have R4d : Hid (W4.drew.heap[b5]? = some (.cells A 49 (0, 0))) := R4.out
      clear D4 R4
      obtain ⟨V1, hV1⟩ : ∃ V, V = W4.drew := ⟨_, rfl⟩
      rw [← hV1] at D4d R4d ⊢
      clear hV1
      refine wpAnyH_ready (rs := [6]) (by kernel_rfl) (by simp) ?_
      refine AllReadyH.cons (o := _) rfl (fun K hK => ?_) AllReadyH.nil
      go_simp
      refine Calls.mono (HH.out k ka km kc hlt HK7.out V1 D4d.out.below) ?_
      rintro e V2 ⟨xa, xm, xc, rfl, hrk, hb2⟩
      have D5 : Hid (Cpd w R C n k g' D V2) := D4d.out.next hb2 HR.out
      have R5 : Hid _ := (hb2.block _ (lt_of_heap R4d.out)).trans R4d.out
      have HB5 : Hid (g' < V1.heap.size) := lt_of_heap D4d.out.row
      have HRK : Hid _ := hrk
      clear D4d R4d hrk hb2
      go_wp2_with fail
      refine hK.out _ _ (KC.out _ R5.out) (fun hHeld2 => ?_)
      clear hK K hHeld
      have hHeld := hHeld2
      clear hHeld2
      try simp only [List.getElem_toArray, List.getElem_cons_zero, List.getElem_cons_succ, Act.put, List.setIfInBounds_toArray, List.set_cons_zero, List.set_cons_succ]
      refine wpAnyH_ready (rs := [9]) (by kernel_rfl) (by simp) ?_
      refine AllReadyH.cons (o := _) rfl (fun K hK => ?_) AllReadyH.nil
      go_simp
      refine Calls.mono (cloneways_nil kw V2) ?_
      rintro e V3 ⟨rfl, hv3⟩
      rw [hv3]
      clear hv3
      go_wp2_with fail
      refine hK.out _ _ (KC.out _ R5.out) (fun hHeld2 => ?_)
      clear hK K hHeld
      have hHeld := hHeld2
      clear hHeld2
      try simp only [List.getElem_toArray, List.getElem_cons_zero, List.getElem_cons_succ, Act.put, List.setIfInBounds_toArray, List.set_cons_zero, List.set_cons_succ]
      refine wpAnyH_take (i := 10) (v := ?_) rfl (by kernel_rfl) (by kernel_rfl) (by kernel_rfl) (fun _ _ _ h => h) (Or.inl ⟨by rfl, ?_⟩) (by assumption) ?_
      rotate_left
      · (intro w hSw; (try dsimp only at hSw); go_simp; try with_reducible rfl)
      try simp only [List.getElem_toArray, List.getElem_cons_zero, List.getElem_cons_succ, Act.put, List.setIfInBounds_toArray, List.set_cons_zero, List.set_cons_succ]
      refine wpAnyH_take (i := 11) (v := ?_) rfl (by kernel_rfl) (by kernel_rfl) (by kernel_rfl) (fun _ _ _ h => h) (Or.inl ⟨by rfl, ?_⟩) (by assumption) ?_
      rotate_left
      · (intro w hSw; (try dsimp only at hSw); go_simp; try with_reducible rfl)
      try simp only [List.getElem_toArray, List.getElem_cons_zero, List.getElem_cons_succ, Act.put, List.setIfInBounds_toArray, List.set_cons_zero, List.set_cons_succ]
      have c7 : V2.cell? ⟨g', k * 15 + 7, none⟩ = some (.slice ka km kc) := (cell_row D5.out.row _).trans ((D5.out.same k 7 hlt (by omega) (.inl (Nat.le_refl _))).trans HK7.out)
      have f7 : V2.frozen? ⟨g', k * 15 + 7, none⟩ = false := frozen_of_row V2 g' _ _ _ D5.out.row
      refine wpAnyH_ready (rs := [12]) (by kernel_rfl) (by simp) ?_
      refine AllReadyH.cons (o := _) rfl (fun K hK => ?_) AllReadyH.nil
      go_simp
      obtain ⟨V4, hV4⟩ : ∃ V, V = V2.setCell ⟨g', k * 15 + 7, none⟩ (.slice xa xm xc) := ⟨_, rfl⟩
      rw [← hV4]
      have R6 : Hid (V4.heap[b5]? = some (.cells A 49 (0, 0))) := by show _ = _; rw [hV4]; exact (Below.heap_setCell _ _ _ _ (by have := HGB.out; show b5 ≠ g'; omega)).trans R5.out
      have c8 : V4.cell? ⟨g', k * 15 + 8, none⟩ = some (.slice none 0 kw) := by
        rw [hV4, World.cell?_setCell_other _ _ _ _ (by simp)]
        exact (cell_row D5.out.row _).trans ((D5.out.same k 8 hlt (by omega) (.inl (Nat.le_refl _))).trans HK8.out)
      have f8 : V4.frozen? ⟨g', k * 15 + 8, none⟩ = false := by rw [hV4]; exact frozen_of_row _ g' _ _ _ (row_setCell D5.out.row _ _)
      have HV4 : Hid _ := hV4
      clear hV4 c7 f7
      refine hK.out _ _ (KC.out _ R6.out) (fun hHeld2 => ?_)
      clear hK K hHeld
      have hHeld := hHeld2
      clear hHeld2
      try simp only [List.getElem_toArray, List.getElem_cons_zero, List.getElem_cons_succ, Act.put, List.setIfInBounds_toArray, List.set_cons_zero, List.set_cons_succ]
      refine wpAnyH_take (i := 13) (v := ?_) rfl (by kernel_rfl) (by kernel_rfl) (by kernel_rfl) (fun _ _ _ h => h) (Or.inl ⟨by rfl, ?_⟩) (by assumption) ?_
      rotate_left
      · (intro w hSw; (try dsimp only at hSw); go_simp; try with_reducible rfl)
      try simp only [List.getElem_toArray, List.getElem_cons_zero, List.getElem_cons_succ, Act.put, List.setIfInBounds_toArray, List.set_cons_zero, List.set_cons_succ]
      refine wpAnyH_take (i := 14) (v := ?_) rfl (by kernel_rfl) (by kernel_rfl) (by kernel_rfl) (fun _ _ _ h => h) (Or.inl ⟨by rfl, ?_⟩) (by assumption) ?_
      rotate_left
      · (intro w hSw; (try dsimp only at hSw); go_simp; try with_reducible rfl)
      try simp only [List.getElem_toArray, List.getElem_cons_zero, List.getElem_cons_succ, Act.put, List.setIfInBounds_toArray, List.set_cons_zero, List.set_cons_succ]
      refine wpAnyH_ready (rs := [15]) (by kernel_rfl) (by simp) ?_
      refine AllReadyH.cons (o := _) rfl (fun K hK => ?_) AllReadyH.nil
      go_simp
      obtain ⟨V5, hV5⟩ : ∃ V, V = V4.setCell ⟨g', k * 15 + 8, none⟩ (.slice none 0 0) := ⟨_, rfl⟩
      rw [← hV5]
      have R7 : Hid (V5.heap[b5]? = some (.cells A 49 (0, 0))) := by show _ = _; rw [hV5]; exact (Below.heap_setCell _ _ _ _ (by have := HGB.out; show b5 ≠ g'; omega)).trans R6.out
      have HV5 : Hid _ := hV5
      clear hV5 c8 f8
      refine hK.out _ _ (KC.out _ R7.out) (fun hHeld2 => ?_)
      clear hK K hHeld
      have hHeld := hHeld2
      clear hHeld2
      try simp only [List.getElem_toArray, List.getElem_cons_zero, List.getElem_cons_succ, Act.put, List.setIfInBounds_toArray, List.set_cons_zero, List.set_cons_succ]
      clear hHeld
      refine wpAnyH_done (by kernel_rfl) ?_ _
      have D7 : Hid (∃ D, Cpd w R C n (k + 1) g' D V5) := by
        have hV : V5 = (V2.setCell ⟨g', k * 15 + 7, none⟩ (.slice xa xm xc)).setCell ⟨g', k * 15 + 8, none⟩ (.slice none 0 0) := by rw [HV5.out, HV4.out]
        have hsz := D5.out.size
        have hk8 : k * 15 + 8 < D.size := by omega
        have far : ∀ g, g ≠ g' → V5.heap[g]? = V2.heap[g]? := fun g hg => by rw [hV, Below.heap_setCell _ _ _ _ (by exact hg), Below.heap_setCell _ _ _ _ (by exact hg)]
        have hs5 : V5.heap.size = V2.heap.size := by rw [hV]; simp
        have lasts : ∀ i B v, g' < B → R i B V2 v → R i B V5 v := fun i B v hB hr => HR.out i B V2 V5 v hr (by omega) (fun q hq _ => far q (by omega))
        have get : ∀ j, ((D.setIfInBounds (k * 15 + 7) (.slice xa xm xc)).setIfInBounds (k * 15 + 8) (.slice none 0 0))[j]? = if j = k * 15 + 8 then some (.slice none 0 0) else if j = k * 15 + 7 then some (.slice xa xm xc) else D[j]? := fun j => by
          rw [Array.getElem?_setIfInBounds]
          by_cases h1 : k * 15 + 8 = j
          · rw [if_pos h1, if_pos (by simp; omega), if_pos h1.symm]
          · rw [if_neg h1, if_neg (fun e => h1 e.symm), Array.getElem?_setIfInBounds]
            by_cases h2 : k * 15 + 7 = j
            · rw [if_pos h2, if_pos (by omega), if_pos h2.symm]
            · rw [if_neg h2, if_neg (fun e => h2 e.symm)]
        refine ⟨(D.setIfInBounds (k * 15 + 7) (.slice xa xm xc)).setIfInBounds (k * 15 + 8) (.slice none 0 0), ?_, D5.out.base, by simpa using hsz, fun j v hj hv => ?_, fun i j hi hj hor => ?_, fun i hi => ?_, fun i hi => ?_, ?_⟩
        · rw [hV]; exact row_setCell (row_setCell D5.out.row _ _) _ _
        · rw [get] at hv
          split at hv
          · cases hv; rfl
          · split at hv
            · cases hv; rfl
            · exact D5.out.one j v hj hv
        · rw [get, if_neg (by omega), if_neg (by omega)]
          exact D5.out.same i j hi hj (by omega)
        · by_cases hik : i = k
          · subst hik
            refine ⟨.slice xa xm xc, V1.heap.size, by rw [get, if_neg (by omega), if_pos rfl], HB5.out, lasts _ _ _ HB5.out HRK.out⟩
          · obtain ⟨v, B, r1, r2, r3⟩ := D5.out.kids i (by omega)
            exact ⟨v, B, by rw [get, if_neg (by omega), if_neg (by omega)]; exact r1, r2, lasts _ _ _ r2 r3⟩
        · by_cases hik : i = k
          · subst hik
            rw [get, if_pos rfl]
          · rw [get, if_neg (by omega), if_neg (by omega)]
            exact D5.out.ways i (by omega)
        · have hb5 := D5.out.base
          refine D5.out.below.trans ⟨by rw [hV]; rfl, by rw [hV]; rfl, by rw [hV]; rfl, by omega, fun q hq => far q (by omega)⟩
      clear D5 R5 R6 R7 HV4 HV5
      go_wp2
      go_roundw
      case rel => exact ⟨k + 1, rfl, by omega, D7.out⟩
      case measure => simp [intOf]; omega
    · have hkn2 : k = n := by omega
      subst hkn2
      obtain ⟨D, hD⟩ := hcp.out
      have HD : Hid (Cpd w R C k k g' D wr) := hD
      have hnl : ¬ (k : Int) < (k : Int) := by omega
      clear hcp hD hlt
      go_wp2
      go_ret
      first | exact ⟨g', cap, rfl, QC.out, D, HD.out⟩ | exact ⟨g', cap, ⟨rfl, QC.out⟩, D, HD.out⟩ | exact ⟨g', cap, ⟨D, HD.out⟩, rfl, QC.out⟩ | exact ⟨g', cap, D, rfl, QC.out, HD.out⟩ | exact ⟨g', QC.out, D, HD.out⟩ | exact ⟨g', cap, rfl, D, QC.out, HD.out⟩ | (trace_state; fail)
end Go.Proofs.YtnahhmcmahbnkaaGreatDoor.Ac
/- The reference's names, widths, Name, Bits, Is, Find; what both Needs answer. No condition. -/
namespace Go.Proofs.YtnahhmcmahbnkaaGreatDoor
open Go.RowKit

def namesC : Array Value := #[.string ⟨#[]⟩, .string ⟨#[101, 116, 104, 46, 100, 115, 116]⟩, .string ⟨#[101, 116, 104, 46, 115, 114, 99]⟩, .string ⟨#[101, 116, 104, 46, 116, 121, 112, 101]⟩, .string ⟨#[118, 108, 97, 110, 46, 116, 97, 103]⟩, .string ⟨#[97, 114, 112, 46, 111, 112]⟩, .string ⟨#[97, 114, 112, 46, 115, 104, 97]⟩, .string ⟨#[97, 114, 112, 46, 115, 112, 97]⟩, .string ⟨#[97, 114, 112, 46, 116, 104, 97]⟩, .string ⟨#[97, 114, 112, 46, 116, 112, 97]⟩, .string ⟨#[105, 112, 52, 46, 115, 114, 99]⟩, .string ⟨#[105, 112, 52, 46, 100, 115, 116]⟩, .string ⟨#[105, 112, 46, 112, 114, 111, 116, 111]⟩, .string ⟨#[105, 112, 46, 116, 116, 108]⟩, .string ⟨#[105, 112, 46, 116, 111, 115]⟩, .string ⟨#[105, 112, 46, 102, 114, 97, 103]⟩, .string ⟨#[105, 99, 109, 112, 46, 116, 121, 112, 101]⟩, .string ⟨#[105, 99, 109, 112, 46, 99, 111, 100, 101]⟩, .string ⟨#[116, 112, 46, 115, 114, 99]⟩, .string ⟨#[116, 112, 46, 100, 115, 116]⟩, .string ⟨#[116, 99, 112, 46, 102, 108, 97, 103, 115]⟩, .string ⟨#[99, 116, 46, 115, 116, 97, 116, 101]⟩, .string ⟨#[100, 97, 116, 97, 112, 97, 116, 104]⟩, .string ⟨#[105, 110, 112, 111, 114, 116]⟩, .string ⟨#[111, 117, 116, 112, 111, 114, 116]⟩, .string ⟨#[114, 101, 103, 48]⟩, .string ⟨#[114, 101, 103, 49]⟩, .string ⟨#[114, 101, 103, 50]⟩, .string ⟨#[114, 101, 103, 51]⟩]
def widthsC : Array Value := #[.int .i64 0, .int .i64 48, .int .i64 48, .int .i64 16, .int .i64 17, .int .i64 16, .int .i64 48, .int .i64 32, .int .i64 48, .int .i64 32, .int .i64 32, .int .i64 32, .int .i64 8, .int .i64 8, .int .i64 8, .int .i64 16, .int .i64 8, .int .i64 8, .int .i64 16, .int .i64 16, .int .i64 12, .int .i64 8, .int .i64 24, .int .i64 16, .int .i64 16, .int .i64 32, .int .i64 32, .int .i64 32, .int .i64 32]
theorem names_get : ∀ f, f < 29 → namesC[f]? = some (.string (fName f)) := by
  intro f hf
  rcases (show f = 0 ∨ f = 1 ∨ f = 2 ∨ f = 3 ∨ f = 4 ∨ f = 5 ∨ f = 6 ∨ f = 7 ∨ f = 8 ∨ f = 9 ∨ f = 10 ∨ f = 11 ∨ f = 12 ∨ f = 13 ∨ f = 14 ∨ f = 15 ∨ f = 16 ∨ f = 17 ∨ f = 18 ∨ f = 19 ∨ f = 20 ∨ f = 21 ∨ f = 22 ∨ f = 23 ∨ f = 24 ∨ f = 25 ∨ f = 26 ∨ f = 27 ∨ f = 28 from by omega) with rfl | rfl | rfl | rfl | rfl | rfl | rfl | rfl | rfl | rfl | rfl | rfl | rfl | rfl | rfl | rfl | rfl | rfl | rfl | rfl | rfl | rfl | rfl | rfl | rfl | rfl | rfl | rfl | rfl <;> rfl
theorem widths_get : ∀ f, f < 29 → widthsC[f]? = some (.int .i64 (fBits f)) := by
  intro f hf
  rcases (show f = 0 ∨ f = 1 ∨ f = 2 ∨ f = 3 ∨ f = 4 ∨ f = 5 ∨ f = 6 ∨ f = 7 ∨ f = 8 ∨ f = 9 ∨ f = 10 ∨ f = 11 ∨ f = 12 ∨ f = 13 ∨ f = 14 ∨ f = 15 ∨ f = 16 ∨ f = 17 ∨ f = 18 ∨ f = 19 ∨ f = 20 ∨ f = 21 ∨ f = 22 ∨ f = 23 ∨ f = 24 ∨ f = 25 ∨ f = 26 ∨ f = 27 ∨ f = 28 from by omega) with rfl | rfl | rfl | rfl | rfl | rfl | rfl | rfl | rfl | rfl | rfl | rfl | rfl | rfl | rfl | rfl | rfl | rfl | rfl | rfl | rfl | rfl | rfl | rfl | rfl | rfl | rfl | rfl | rfl <;> rfl
end Go.Proofs.YtnahhmcmahbnkaaGreatDoor
/- Needs of the program and of the reference: the same terms. No condition. -/
namespace Go.Proofs.YtnahhmcmahbnkaaGreatDoor
open Go.RowKit
theorem infoTerm : (Tryz.prog.info? 118).map (·.size) = some 3 := by kernel_rfl
theorem ones_min (f : Nat) : IntKind.u64.wrap (IntKind.u64.wrap (2 ^ min (fBits f) 64) - 1) = (2 ^ fBits f - 1 : Int) := by
  rw [show min (fBits f) 64 = fBits f from by have := fBits_le f; omega]
  exact ones_val _ (fBits_le f)
def needC : Nat → Array Value
  | 1 => #[.int .i64 3, .int .u64 2054, .int .u64 65535]
  | 2 => #[.int .i64 3, .int .u64 2048, .int .u64 65535]
  | 3 => #[.int .i64 3, .int .u64 2048, .int .u64 65535, .int .i64 12, .int .u64 1, .int .u64 255]
  | 4 => #[.int .i64 3, .int .u64 2048, .int .u64 65535]
  | 5 => #[.int .i64 3, .int .u64 2048, .int .u64 65535, .int .i64 12, .int .u64 6, .int .u64 255]
  | _ => #[]
def needLen : Nat → Nat
  | 1 => 1
  | 2 => 1
  | 3 => 2
  | 4 => 1
  | 5 => 2
  | _ => 0
/-- The terms that packets of a sort must have, as a slice. -/
def NeedS (W : World) (o : Nat) (v : Value) : Prop := (needLen o = 0 ∧ v = .slice none 0 0) ∨ (∃ g, v = .slice (some ⟨g, 0, none⟩) (needLen o) (needLen o) ∧ W.heap[g]? = some (.cells (needC o) 118 (0, 0)))
theorem NeedS.below {W W' : World} {o : Nat} {v : Value} (h : NeedS W o v) (hb : Below W.heap.size W W') : NeedS W' o v := by
  rcases h with h | ⟨g, h1, h2⟩
  · exact .inl h
  · exact .inr ⟨g, h1, (hb.block _ (lt_of_heap h2)).trans h2⟩
theorem needS_four {W : World} {v : Value} (h : NeedS W 2 v) : NeedS W 4 v := h
end Go.Proofs.YtnahhmcmahbnkaaGreatDoor
