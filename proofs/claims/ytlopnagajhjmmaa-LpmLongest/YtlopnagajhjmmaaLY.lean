/- The document's table: Remove. Conditions: as said. -/
import Derived.Test.YtlopnagajhjmmaaLX
namespace Go.Proofs.Ytlopnagajhjmmaa
open Go.RowKit Tr
theorem new_row2 {w : World} {B xb : Nat} {v : Value} {L M : List Ro} {k n : Nat} {u : Value} {cs : Array Value} (e : M = L.take k ++ L.drop (k + 1)) (hx : w.heap[xb]? = some (.cells cs 28 (0, 0))) (h : w.ownsRow B 37 3 v n ([] ++ roV (L.take k) ++ roV (L.drop (k + 1)))) : (w.setCell ⟨xb, 0, none⟩ u).ownsRow B 37 3 v M.length (roV M) := by
  have e1 : [] ++ roV (L.take k) ++ roV (L.drop (k + 1)) = roV M := by rw [e, roV_append]; simp
  rw [e1] at h
  have hn : n = M.length := by have := h.1; rw [roV_len] at this; omega
  subst hn
  refine ⟨h.1, ?_⟩
  rcases h.2 with h0 | ⟨g, cap, cur, e, q1, q2, q3⟩
  · exact .inl h0
  · refine .inr ⟨g, cap, cur, e, q1, (Below.heap_setCell _ _ _ _ ?_).trans q2, q3⟩
    rintro rfl
    rw [hx] at q2; injection q2 with q2; injection q2 with _ q2; cases q2
theorem reL_split {L : List Ro} (hs : L.Pairwise ltR) {k : Nat} {x : Ro} (hx : L[k]? = some x) : reL L x.1 x.2.1 = L.take k ++ L.drop (k + 1) := by
  have hlt : k < L.length := (List.getElem?_eq_some_iff.1 hx).1
  have e : L = L.take k ++ (x :: L.drop (k + 1)) := by
    have h1 : L.drop k = x :: L.drop (k + 1) := by
      rw [List.drop_eq_getElem_cons hlt]
      congr 1
      have := List.getElem?_eq_getElem hlt
      rw [hx] at this
      injection this with this
      exact this.symm
    rw [← h1, List.take_append_drop]
  have key : ∀ y ∈ L, y ≠ x → ¬ (y.1 = x.1 ∧ y.2.1 = x.2.1) := fun y hy hne hk => hne (key_one hs hy (List.mem_of_getElem? hx) hk.1 hk.2)
  have nd : x ∉ L.take k ∧ x ∉ L.drop (k + 1) := by
    have hp := hs
    rw [e] at hp
    have h1 := List.pairwise_append.1 hp
    have h2 := List.pairwise_cons.1 h1.2.1
    exact ⟨fun h => ltR_irr x (h1.2.2 x h x (by simp)), fun h => ltR_irr x (h2.1 x h)⟩
  have f : ∀ M : List Ro, (∀ y ∈ M, y ∈ L) → x ∉ M → reL M x.1 x.2.1 = M := fun M hM hx' => by
    unfold reL
    rw [List.filter_eq_self]
    intro y hy
    have := key y (hM y hy) (fun e => hx' (e ▸ hy))
    simp only [Bool.not_eq_true', Bool.and_eq_false_iff, beq_eq_false_iff_ne]
    by_cases h : y.1 = x.1
    · exact .inr fun h' => this ⟨h, h'⟩
    · exact .inl h
  have h1 := f (L.take k) (fun y hy => List.mem_of_mem_take hy) nd.1
  have h2 := f (L.drop (k + 1)) (fun y hy => List.mem_of_mem_drop hy) nd.2
  have e3 : reL L x.1 x.2.1 = reL (L.take k) x.1 x.2.1 ++ reL (L.drop (k + 1)) x.1 x.2.1 := by
    conv => lhs; rw [e]
    simp [reL]
  rw [e3, h1, h2]
set_option linter.unusedSimpArgs false in
set_option maxRecDepth 20000 in
set_option maxHeartbeats 4000000 in
theorem rremove_del {w : World} {B xb : Nat} {L : List Ro} {qa : Option Addr} {qc : Nat} (h : RTab w B xb L qa qc) (hs : L.Pairwise ltR) (p : BitVec 32) (m : Nat) (hm : m ≤ 32) (hc : chk p m = 0) {k : Nat} {x : Ro} (hx : L[k]? = some x) (hkx : IsK p m x) (hBw : B ≤ w.heap.size) :
    Calls Try.prog 13 #[ptr xb, .int .u32 p.toNat, .int .i64 m] w fun e w' => e = .returned (.int .i64 0) ∧ ∃ qa' qc', RTab w' B xb (reL L p m) qa' qc' ∧ Keeps [xb] w w' := by
  have cx : w.cell? ⟨xb, 0, none⟩ = some (.slice qa L.length qc) := cell_row h.blk 0
  have hxl := lt_of_heap h.blk
  have HL : Hid _ := h
  have hlen := h.len
  have HRG : Hid _ := rright_any p m (by constructor <;> omega) w
  rw [hc, show decide ((0 : Int) = 0) = true from rfl] at HRG
  have HF : Hid (Calls Try.prog 27 #[ptr xb, .int .u32 p.toNat, .int .i64 m] w fun e w' => e = .returned (.int .i64 k) ∧ w' = w) := (rfind_any h p m).mono fun e w' ⟨r, he, hr, hw⟩ => ⟨by
    rcases hr with ⟨i, y, rfl, hy, ky⟩ | ⟨_, hn⟩
    · rw [he]
      have hxy : y = x := key_one hs (List.mem_of_getElem? hy) (List.mem_of_getElem? hx) (ky.1.trans hkx.1.symm) (by have := ky.2; have := hkx.2; omega)
      have hik : i = k := by
        have hi := (List.getElem?_eq_some_iff.1 hy)
        have hk := (List.getElem?_eq_some_iff.1 hx)
        obtain ⟨hi1, hi2⟩ := hi
        obtain ⟨hk1, hk2⟩ := hk
        have hp := List.pairwise_iff_getElem.1 hs
        rcases Nat.lt_trichotomy i k with g | g | g
        · have := hp i k hi1 hk1 g; rw [hi2, hk2, hxy] at this; exact absurd this (ltR_irr x)
        · exact g
        · have := hp k i hk1 hi1 g; rw [hi2, hk2, hxy] at this; exact absurd this (ltR_irr x)
      rw [hik]
    · exact absurd hkx (hn x (List.mem_of_getElem? hx)), hw⟩
  obtain ⟨g, rfl, _, _, _⟩ := h.at hx
  have hlt : k < L.length := (List.getElem?_eq_some_iff.1 hx).1
  have hcap : L.length ≤ qc := by
    rcases h.own.h.2 with ⟨e, _⟩ | ⟨g9, cap, cur, e, _, _, h3, _⟩
    · cases e
    · injection e with _ _ e; omega
  have HK : Hid (reL L p m = L.take k ++ L.drop (k + 1)) := by
    show _ = _
    have e2 : x.2.1 = m := by have := hkx.2; omega
    rw [← hkx.1, ← e2]
    exact reL_split hs hx
  have HTL : Hid ((L.take k).length + (L.drop (k + 1)).length ≤ 274877906944 ∧ (L.take k).length = k ∧ (L.drop (k + 1)).length = L.length - (k + 1)) := (by simp; omega : (L.take k).length + (L.drop (k + 1)).length ≤ 274877906944 ∧ (L.take k).length = k ∧ (L.drop (k + 1)).length = L.length - (k + 1))
  have hlenM : Hid ((reL L p m).length = L.length - 1) := by show _ = _; rw [HK.out, List.length_append, HTL.out.2.1, HTL.out.2.2]; omega
  have HLL : Hid ((reL L p m).length ≤ 274877906944) := (by rw [hlenM.out]; omega : (reL L p m).length ≤ 274877906944)
  have KS : Hid (∀ V, Below w.heap.size w V → V.cell? ⟨xb, 0, none⟩ = some (.slice (some ⟨g, 0, none⟩) L.length qc) ∧ Below w.heap.size w V) := fun V hV => ⟨(hV.cell (p := ⟨xb, 0, none⟩) hxl).trans cx, hV⟩
  have SRC1 : Hid (∀ V, Below w.heap.size w V → Src V (.slice (some ⟨g, 0, none⟩) k qc) (L.take k)) := fun V hV => .inr ⟨⟨g, 0, none⟩, qc, by rw [HTL.out.2.1], fun j u hu => by
    rw [plain_add3]
    have := HL.out.cells (k := 0) (ys := L.take k) (fun i x hx => by rw [List.getElem?_take] at hx; split at hx; rw [Nat.zero_add]; exact hx; cases hx) hV j u hu
    simpa using this⟩
  have hI1 : (k : Int) < (L.length : Int) := by omega
  have hI2 : (L.length : Int) ≤ (qc : Int) := by omega
  have hI3 : (0 : Int) ≤ (k : Int) := by omega
  have hI4 : (k : Int) + 1 ≤ (L.length : Int) := by omega
  have hI5 : (0 : Int) ≤ (k : Int) + 1 := by omega
  have hwz : IntKind.i64.wrap ((k : Int) + 1) = (k : Int) + 1 := by simp [IntKind.wrap, IntKind.bits, IntKind.signed]; omega
  have hN1 : k ≤ qc := by omega
  have hN3 : k + 1 ≤ L.length := by omega
  have hN4 : k ≤ L.length := by omega
  clear h hs hx hkx hc
  by_cases hq : k + 1 < qc
  · have hN2 : ¬ qc = k + 1 := by omega
    have SRC3 : Hid (∀ V, Below w.heap.size w V → Src V (.slice (some ⟨g, (k + 1) * 3, none⟩) (L.length - (k + 1)) (qc - (k + 1))) (L.drop (k + 1))) := fun V hV => .inr ⟨⟨g, (k + 1) * 3, none⟩, qc - (k + 1), by rw [HTL.out.2.2], fun j u hu => by
      rw [plain_add3]
      exact HL.out.cells (k := k + 1) (ys := L.drop (k + 1)) (fun i x hx => by rw [List.getElem?_drop] at hx; exact hx) hV j u hu⟩
    go_enter Try.func13, Try.ntmps13
    go_wp2_with (first
      | (go_at_call 26; refine Calls.mono HRG.out ?_; rintro e w9 ⟨rfl, hw9⟩; rw [hw9]; clear hw9; skip)
      | (go_at_call 27; refine Calls.mono HF.out ?_; rintro e w9 ⟨rfl, hw9⟩; rw [hw9]; clear hw9; skip)
      | fail)
    have hHeld : w.drew.cell? ⟨xb, 0, none⟩ = some (.slice (some ⟨g, 0, none⟩) L.length qc) ∧ Below w.heap.size w w.drew := ⟨cx, (Below.refl _ _).drew⟩
    refine region_but (fun V => V.cell? ⟨xb, 0, none⟩ = some (.slice (some ⟨g, 0, none⟩) L.length qc) ∧ Below w.heap.size w V) 19 (by kernel_rfl) ?_
    refine HeldBut.take (i := 0) (v := ?_) rfl (by kernel_rfl) (by kernel_rfl) (by kernel_rfl) (by kernel_rfl) (fun _ _ _ h => h) (Or.inl ⟨by rfl, ?_⟩) (by assumption) ?_
    rotate_left
    · (intro w hSw; (try dsimp only at hSw); go_simp; try with_reducible rfl)
    try simp only [List.getElem_toArray, List.getElem_cons_zero, List.getElem_cons_succ, Act.put, List.setIfInBounds_toArray, List.set_cons_zero, List.set_cons_succ]
    refine HeldBut.take (i := 2) (v := ?_) rfl (by kernel_rfl) (by kernel_rfl) (by kernel_rfl) (by kernel_rfl) (fun _ _ _ h => h) (Or.inl ⟨by rfl, ?_⟩) (by assumption) ?_
    rotate_left
    · (intro w hSw; (try dsimp only at hSw); go_simp; try with_reducible rfl)
    try simp only [List.getElem_toArray, List.getElem_cons_zero, List.getElem_cons_succ, Act.put, List.setIfInBounds_toArray, List.set_cons_zero, List.set_cons_succ]
    refine HeldBut.take (i := 3) (v := ?_) rfl (by kernel_rfl) (by kernel_rfl) (by kernel_rfl) (by kernel_rfl) (fun _ _ _ h => h) (Or.inl ⟨by rfl, ?_⟩) (by assumption) ?_
    rotate_left
    · (intro w hSw; (try dsimp only at hSw); go_simp; try with_reducible rfl)
    try simp only [List.getElem_toArray, List.getElem_cons_zero, List.getElem_cons_succ, Act.put, List.setIfInBounds_toArray, List.set_cons_zero, List.set_cons_succ]
    refine HeldBut.take (i := 4) (v := ?_) rfl (by kernel_rfl) (by kernel_rfl) (by kernel_rfl) (by kernel_rfl) (fun _ _ _ h => h) (Or.inl ⟨by rfl, ?_⟩) (by assumption) ?_
    rotate_left
    · (intro w hSw; (try dsimp only at hSw); go_simp; try with_reducible rfl)
    try simp only [List.getElem_toArray, List.getElem_cons_zero, List.getElem_cons_succ, Act.put, List.setIfInBounds_toArray, List.set_cons_zero, List.set_cons_succ]
    refine HeldBut.take (i := 5) (v := ?_) rfl (by kernel_rfl) (by kernel_rfl) (by kernel_rfl) (by kernel_rfl) (fun _ _ _ h => h) (Or.inl ⟨by rfl, ?_⟩) (by assumption) ?_
    rotate_left
    · (intro w hSw; (try dsimp only at hSw); go_simp; try with_reducible rfl)
    try simp only [List.getElem_toArray, List.getElem_cons_zero, List.getElem_cons_succ, Act.put, List.setIfInBounds_toArray, List.set_cons_zero, List.set_cons_succ]
    refine HeldBut.take (i := 6) (v := ?_) rfl (by kernel_rfl) (by kernel_rfl) (by kernel_rfl) (by kernel_rfl) (fun _ _ _ h => h) (Or.inl ⟨by rfl, ?_⟩) (by assumption) ?_
    rotate_left
    · (intro w hSw; (try dsimp only at hSw); go_simp; try with_reducible rfl)
    try simp only [List.getElem_toArray, List.getElem_cons_zero, List.getElem_cons_succ, Act.put, List.setIfInBounds_toArray, List.set_cons_zero, List.set_cons_succ]
    refine HeldBut.take (i := 7) (v := ?_) rfl (by kernel_rfl) (by kernel_rfl) (by kernel_rfl) (by kernel_rfl) (fun _ _ _ h => h) (Or.inl ⟨by rfl, ?_⟩) (by assumption) ?_
    rotate_left
    · (intro w hSw; (try dsimp only at hSw); go_simp; try with_reducible rfl)
    try simp only [List.getElem_toArray, List.getElem_cons_zero, List.getElem_cons_succ, Act.put, List.setIfInBounds_toArray, List.set_cons_zero, List.set_cons_succ]
    refine HeldBut.take (i := 9) (v := ?_) rfl (by kernel_rfl) (by kernel_rfl) (by kernel_rfl) (by kernel_rfl) (fun _ _ _ h => h) (Or.inl ⟨by rfl, ?_⟩) (by assumption) ?_
    rotate_left
    · (intro w hSw; (try dsimp only at hSw); go_simp; try with_reducible rfl)
    try simp only [List.getElem_toArray, List.getElem_cons_zero, List.getElem_cons_succ, Act.put, List.setIfInBounds_toArray, List.set_cons_zero, List.set_cons_succ]
    refine HeldBut.take (i := 10) (v := ?_) rfl (by kernel_rfl) (by kernel_rfl) (by kernel_rfl) (by kernel_rfl) (fun _ _ _ h => h) (Or.inl ⟨by rfl, ?_⟩) (by assumption) ?_
    rotate_left
    · (intro w hSw; (try dsimp only at hSw); go_simp; try with_reducible rfl)
    try simp only [List.getElem_toArray, List.getElem_cons_zero, List.getElem_cons_succ, Act.put, List.setIfInBounds_toArray, List.set_cons_zero, List.set_cons_succ]
    refine HeldBut.take (i := 11) (v := ?_) rfl (by kernel_rfl) (by kernel_rfl) (by kernel_rfl) (by kernel_rfl) (fun _ _ _ h => h) (Or.inl ⟨by rfl, ?_⟩) (by assumption) ?_
    rotate_left
    · (intro w hSw; (try dsimp only at hSw); go_simp; try with_reducible rfl)
    try simp only [List.getElem_toArray, List.getElem_cons_zero, List.getElem_cons_succ, Act.put, List.setIfInBounds_toArray, List.set_cons_zero, List.set_cons_succ]
    refine HeldBut.take (i := 12) (v := ?_) rfl (by kernel_rfl) (by kernel_rfl) (by kernel_rfl) (by kernel_rfl) (fun _ _ _ h => h) (Or.inl ⟨by rfl, ?_⟩) (by assumption) ?_
    rotate_left
    · (intro w hSw; (try dsimp only at hSw); go_simp; try with_reducible rfl)
    try simp only [List.getElem_toArray, List.getElem_cons_zero, List.getElem_cons_succ, Act.put, List.setIfInBounds_toArray, List.set_cons_zero, List.set_cons_succ]
    refine HeldBut.take (i := 13) (v := ?_) rfl (by kernel_rfl) (by kernel_rfl) (by kernel_rfl) (by kernel_rfl) (fun _ _ _ h => h) (Or.inl ⟨by rfl, ?_⟩) (by assumption) ?_
    rotate_left
    · (intro w hSw; (try dsimp only at hSw); go_simp; try with_reducible rfl)
    try simp only [List.getElem_toArray, List.getElem_cons_zero, List.getElem_cons_succ, Act.put, List.setIfInBounds_toArray, List.set_cons_zero, List.set_cons_succ]
    refine HeldBut.take (i := 14) (v := ?_) rfl (by kernel_rfl) (by kernel_rfl) (by kernel_rfl) (by kernel_rfl) (fun _ _ _ h => h) (Or.inl ⟨by rfl, ?_⟩) (by assumption) ?_
    rotate_left
    · (intro w hSw; (try dsimp only at hSw); go_simp; try with_reducible rfl)
    try simp only [List.getElem_toArray, List.getElem_cons_zero, List.getElem_cons_succ, Act.put, List.setIfInBounds_toArray, List.set_cons_zero, List.set_cons_succ]
    refine HeldBut.take (i := 15) (v := ?_) rfl (by kernel_rfl) (by kernel_rfl) (by kernel_rfl) (by kernel_rfl) (fun _ _ _ h => h) (Or.inl ⟨by rfl, ?_⟩) (by assumption) ?_
    rotate_left
    · (intro w hSw; (try dsimp only at hSw); go_simp; try with_reducible rfl)
    try simp only [List.getElem_toArray, List.getElem_cons_zero, List.getElem_cons_succ, Act.put, List.setIfInBounds_toArray, List.set_cons_zero, List.set_cons_succ]
    refine HeldBut.ready (rs := [1]) (by kernel_rfl) (by simp) ?_
    refine AllBut.cons (o := _) rfl (fun K hK => ?_) AllBut.nil
    go_simp
    clear hHeld
    have hHeld := KS.out _ ((below1 w (.cells #[] 37)).drew)
    refine hK.out _ _ (.inr hHeld) ?_
    clear hK K
    try simp only [List.getElem_toArray, List.getElem_cons_zero, List.getElem_cons_succ, Act.put, List.setIfInBounds_toArray, List.set_cons_zero, List.set_cons_succ]
    refine HeldBut.ready (rs := [8]) (by kernel_rfl) (by simp) ?_
    refine AllBut.cons (o := _) rfl (fun K hK => ?_) AllBut.nil
    refine wp_app w.heap.size _ _ rfl (.slice (some ⟨w.heap.size, 0, none⟩) 0 0) _ rfl rfl 0 [] (L.take k) (empty_row w w.heap.size (Nat.le_refl _)) (SRC1.out _ ((below1 w (.cells #[] 37)).drew)) (by have := HTL.out; omega) (by first | (simp; done) | (simp; omega) | omega) ?_
    intro v1 V1 o1 g1
    rw [show 0 + (L.take k).length = k by have := HTL.out; omega] at o1
    have bV1 : Below w.heap.size w V1 := Below.grown ((below1 w (.cells #[] 37)).drew) g1 (by first | (simp; done) | (simp; omega) | omega) (fun j hj => (World.ownsRow.lt (empty_row w w.heap.size (Nat.le_refl _)) j hj).1)
    obtain ⟨a1, q1, rfl⟩ := own_slice3 o1
    clear hHeld
    have hHeld := KS.out _ (bV1)
    refine hK.out _ _ (.inr hHeld) ?_
    clear hK K
    try simp only [List.getElem_toArray, List.getElem_cons_zero, List.getElem_cons_succ, Act.put, List.setIfInBounds_toArray, List.set_cons_zero, List.set_cons_succ]
    refine HeldBut.ready (rs := [16]) (by kernel_rfl) (by simp) ?_
    refine AllBut.cons (o := _) rfl (fun K hK => ?_) AllBut.nil
    refine wp_app w.heap.size _ _ rfl (.slice a1 k q1) _ rfl rfl _ _ (L.drop (k + 1)) o1 (SRC3.out _ bV1) (by have := HTL.out; omega) (by have := bV1.size; omega) ?_
    intro v3 V3 o3 g3
    rw [show k + (L.drop (k + 1)).length = L.length - 1 by have := HTL.out; omega] at o3
    have bV3 : Below w.heap.size w V3 := Below.grown bV1 g3 (by have := bV1.size; omega) (fun j hj => (World.ownsRow.lt o1 j hj).1)
    obtain ⟨a3, q3, rfl⟩ := own_slice3 o3
    clear hHeld
    have hHeld := KS.out _ (bV3)
    refine hK.out _ _ (.inr hHeld) ?_
    clear hK K
    try simp only [List.getElem_toArray, List.getElem_cons_zero, List.getElem_cons_succ, Act.put, List.setIfInBounds_toArray, List.set_cons_zero, List.set_cons_succ]
    refine HeldBut.ready (rs := [17]) (by kernel_rfl) (by simp) ?_
    refine AllBut.cons (o := _) rfl (fun K hK => ?_) AllBut.nil
    go_simp
    clear hHeld
    have hHeld := KS.out _ (bV3)
    refine hK.out _ _ (.inr hHeld) ?_
    clear hK K
    try simp only [List.getElem_toArray, List.getElem_cons_zero, List.getElem_cons_succ, Act.put, List.setIfInBounds_toArray, List.set_cons_zero, List.set_cons_succ]
    refine HeldBut.take (i := 18) (v := ?_) rfl (by kernel_rfl) (by kernel_rfl) (by kernel_rfl) (by kernel_rfl) (fun _ _ _ h => h) (Or.inl ⟨by rfl, ?_⟩) (by assumption) ?_
    rotate_left
    · (intro w hSw; (try dsimp only at hSw); go_simp; try with_reducible rfl)
    try simp only [List.getElem_toArray, List.getElem_cons_zero, List.getElem_cons_succ, Act.put, List.setIfInBounds_toArray, List.set_cons_zero, List.set_cons_succ]
    refine HeldBut.ready (rs := [19]) (by kernel_rfl) (by simp) ?_
    refine AllBut.cons (o := _) rfl (fun K hK => ?_) AllBut.nil
    have rx : V3.heap[xb]? = _ := (bV3.block xb hxl).trans HL.out.blk
    have cx3 : V3.cell? ⟨xb, 0, none⟩ = _ := cell_row rx 0
    have fx3 := frozen_of_row V3 _ 0 _ _ rx
    have FIN : Hid _ := o3
    clear hHeld o3
    go_simp
    refine hK.out _ _ (.inl rfl) ?_
    refine HeldBut.done (by kernel_rfl) ?_ _
    clear hK K
    go_wp2
    go_ret
    refine ⟨rfl, a3, q3, ⟨?_, ⟨?_⟩, HL.out.lo, HLL.out⟩, (Keeps.of_below [xb] bV3).trans (Keeps.setCell _ xb _ _) (by simp)⟩
    · refine (row_setCell rx 0 _).trans ?_
      rw [hlenM.out]
      rfl
    · have := FIN.out
      rw [hlenM.out]; have h9 := own_lower hBw (new_row2 (u := .slice a3 (L.length - 1) q3) HK.out rx this); rw [hlenM.out] at h9; exact h9
  · obtain rfl : qc = k + 1 := by omega
    have SRC3 : Hid (∀ V, Below w.heap.size w V → Src V (.slice (some ⟨g, 0, none⟩) (L.length - (k + 1)) 0) (L.drop (k + 1))) := fun V hV => .inr ⟨⟨g, 0, none⟩, 0, by rw [HTL.out.2.2], fun j u hu => by
      rw [show L.drop (k + 1) = [] from List.drop_eq_nil_of_le (by omega)] at hu
      simp [roV] at hu⟩
    clear hq hcap
    have hN6 : (k : Int) ≤ (k : Int) + 1 := by omega
    have hN7 : (L.length : Int) ≤ (k : Int) + 1 := by omega
    go_enter Try.func13, Try.ntmps13
    go_wp2_with (first
      | (go_at_call 26; refine Calls.mono HRG.out ?_; rintro e w9 ⟨rfl, hw9⟩; rw [hw9]; clear hw9; skip)
      | (go_at_call 27; refine Calls.mono HF.out ?_; rintro e w9 ⟨rfl, hw9⟩; rw [hw9]; clear hw9; skip)
      | fail)
    have hHeld : w.drew.cell? ⟨xb, 0, none⟩ = some (.slice (some ⟨g, 0, none⟩) L.length (k + 1)) ∧ Below w.heap.size w w.drew := ⟨cx, (Below.refl _ _).drew⟩
    refine region_but (fun V => V.cell? ⟨xb, 0, none⟩ = some (.slice (some ⟨g, 0, none⟩) L.length (k + 1)) ∧ Below w.heap.size w V) 19 (by kernel_rfl) ?_
    refine HeldBut.take (i := 0) (v := ?_) rfl (by kernel_rfl) (by kernel_rfl) (by kernel_rfl) (by kernel_rfl) (fun _ _ _ h => h) (Or.inl ⟨by rfl, ?_⟩) (by assumption) ?_
    rotate_left
    · (intro w hSw; (try dsimp only at hSw); go_simp; try with_reducible rfl)
    try simp only [List.getElem_toArray, List.getElem_cons_zero, List.getElem_cons_succ, Act.put, List.setIfInBounds_toArray, List.set_cons_zero, List.set_cons_succ]
    refine HeldBut.take (i := 2) (v := ?_) rfl (by kernel_rfl) (by kernel_rfl) (by kernel_rfl) (by kernel_rfl) (fun _ _ _ h => h) (Or.inl ⟨by rfl, ?_⟩) (by assumption) ?_
    rotate_left
    · (intro w hSw; (try dsimp only at hSw); go_simp; try with_reducible rfl)
    try simp only [List.getElem_toArray, List.getElem_cons_zero, List.getElem_cons_succ, Act.put, List.setIfInBounds_toArray, List.set_cons_zero, List.set_cons_succ]
    refine HeldBut.take (i := 3) (v := ?_) rfl (by kernel_rfl) (by kernel_rfl) (by kernel_rfl) (by kernel_rfl) (fun _ _ _ h => h) (Or.inl ⟨by rfl, ?_⟩) (by assumption) ?_
    rotate_left
    · (intro w hSw; (try dsimp only at hSw); go_simp; try with_reducible rfl)
    try simp only [List.getElem_toArray, List.getElem_cons_zero, List.getElem_cons_succ, Act.put, List.setIfInBounds_toArray, List.set_cons_zero, List.set_cons_succ]
    refine HeldBut.take (i := 4) (v := ?_) rfl (by kernel_rfl) (by kernel_rfl) (by kernel_rfl) (by kernel_rfl) (fun _ _ _ h => h) (Or.inl ⟨by rfl, ?_⟩) (by assumption) ?_
    rotate_left
    · (intro w hSw; (try dsimp only at hSw); go_simp; try with_reducible rfl)
    try simp only [List.getElem_toArray, List.getElem_cons_zero, List.getElem_cons_succ, Act.put, List.setIfInBounds_toArray, List.set_cons_zero, List.set_cons_succ]
    refine HeldBut.take (i := 5) (v := ?_) rfl (by kernel_rfl) (by kernel_rfl) (by kernel_rfl) (by kernel_rfl) (fun _ _ _ h => h) (Or.inl ⟨by rfl, ?_⟩) (by assumption) ?_
    rotate_left
    · (intro w hSw; (try dsimp only at hSw); go_simp; try with_reducible rfl)
    try simp only [List.getElem_toArray, List.getElem_cons_zero, List.getElem_cons_succ, Act.put, List.setIfInBounds_toArray, List.set_cons_zero, List.set_cons_succ]
    refine HeldBut.take (i := 6) (v := ?_) rfl (by kernel_rfl) (by kernel_rfl) (by kernel_rfl) (by kernel_rfl) (fun _ _ _ h => h) (Or.inl ⟨by rfl, ?_⟩) (by assumption) ?_
    rotate_left
    · (intro w hSw; (try dsimp only at hSw); go_simp; try with_reducible rfl)
    try simp only [List.getElem_toArray, List.getElem_cons_zero, List.getElem_cons_succ, Act.put, List.setIfInBounds_toArray, List.set_cons_zero, List.set_cons_succ]
    refine HeldBut.take (i := 7) (v := ?_) rfl (by kernel_rfl) (by kernel_rfl) (by kernel_rfl) (by kernel_rfl) (fun _ _ _ h => h) (Or.inl ⟨by rfl, ?_⟩) (by assumption) ?_
    rotate_left
    · (intro w hSw; (try dsimp only at hSw); go_simp; try with_reducible rfl)
    try simp only [List.getElem_toArray, List.getElem_cons_zero, List.getElem_cons_succ, Act.put, List.setIfInBounds_toArray, List.set_cons_zero, List.set_cons_succ]
    refine HeldBut.take (i := 9) (v := ?_) rfl (by kernel_rfl) (by kernel_rfl) (by kernel_rfl) (by kernel_rfl) (fun _ _ _ h => h) (Or.inl ⟨by rfl, ?_⟩) (by assumption) ?_
    rotate_left
    · (intro w hSw; (try dsimp only at hSw); go_simp; try with_reducible rfl)
    try simp only [List.getElem_toArray, List.getElem_cons_zero, List.getElem_cons_succ, Act.put, List.setIfInBounds_toArray, List.set_cons_zero, List.set_cons_succ]
    refine HeldBut.take (i := 10) (v := ?_) rfl (by kernel_rfl) (by kernel_rfl) (by kernel_rfl) (by kernel_rfl) (fun _ _ _ h => h) (Or.inl ⟨by rfl, ?_⟩) (by assumption) ?_
    rotate_left
    · (intro w hSw; (try dsimp only at hSw); go_simp; try with_reducible rfl)
    try simp only [List.getElem_toArray, List.getElem_cons_zero, List.getElem_cons_succ, Act.put, List.setIfInBounds_toArray, List.set_cons_zero, List.set_cons_succ]
    refine HeldBut.take (i := 11) (v := ?_) rfl (by kernel_rfl) (by kernel_rfl) (by kernel_rfl) (by kernel_rfl) (fun _ _ _ h => h) (Or.inl ⟨by rfl, ?_⟩) (by assumption) ?_
    rotate_left
    · (intro w hSw; (try dsimp only at hSw); go_simp; try with_reducible rfl)
    try simp only [List.getElem_toArray, List.getElem_cons_zero, List.getElem_cons_succ, Act.put, List.setIfInBounds_toArray, List.set_cons_zero, List.set_cons_succ]
    refine HeldBut.take (i := 12) (v := ?_) rfl (by kernel_rfl) (by kernel_rfl) (by kernel_rfl) (by kernel_rfl) (fun _ _ _ h => h) (Or.inl ⟨by rfl, ?_⟩) (by assumption) ?_
    rotate_left
    · (intro w hSw; (try dsimp only at hSw); go_simp; try with_reducible rfl)
    try simp only [List.getElem_toArray, List.getElem_cons_zero, List.getElem_cons_succ, Act.put, List.setIfInBounds_toArray, List.set_cons_zero, List.set_cons_succ]
    refine HeldBut.take (i := 13) (v := ?_) rfl (by kernel_rfl) (by kernel_rfl) (by kernel_rfl) (by kernel_rfl) (fun _ _ _ h => h) (Or.inl ⟨by rfl, ?_⟩) (by assumption) ?_
    rotate_left
    · (intro w hSw; (try dsimp only at hSw); go_simp; try with_reducible rfl)
    try simp only [List.getElem_toArray, List.getElem_cons_zero, List.getElem_cons_succ, Act.put, List.setIfInBounds_toArray, List.set_cons_zero, List.set_cons_succ]
    refine HeldBut.take (i := 14) (v := ?_) rfl (by kernel_rfl) (by kernel_rfl) (by kernel_rfl) (by kernel_rfl) (fun _ _ _ h => h) (Or.inl ⟨by rfl, ?_⟩) (by assumption) ?_
    rotate_left
    · (intro w hSw; (try dsimp only at hSw); go_simp; try with_reducible rfl)
    try simp only [List.getElem_toArray, List.getElem_cons_zero, List.getElem_cons_succ, Act.put, List.setIfInBounds_toArray, List.set_cons_zero, List.set_cons_succ]
    refine HeldBut.take (i := 15) (v := ?_) rfl (by kernel_rfl) (by kernel_rfl) (by kernel_rfl) (by kernel_rfl) (fun _ _ _ h => h) (Or.inl ⟨by rfl, ?_⟩) (by assumption) ?_
    rotate_left
    · (intro w hSw; (try dsimp only at hSw); go_simp; try with_reducible rfl)
    try simp only [List.getElem_toArray, List.getElem_cons_zero, List.getElem_cons_succ, Act.put, List.setIfInBounds_toArray, List.set_cons_zero, List.set_cons_succ]
    refine HeldBut.ready (rs := [1]) (by kernel_rfl) (by simp) ?_
    refine AllBut.cons (o := _) rfl (fun K hK => ?_) AllBut.nil
    go_simp
    clear hHeld
    have hHeld := KS.out _ ((below1 w (.cells #[] 37)).drew)
    refine hK.out _ _ (.inr hHeld) ?_
    clear hK K
    try simp only [List.getElem_toArray, List.getElem_cons_zero, List.getElem_cons_succ, Act.put, List.setIfInBounds_toArray, List.set_cons_zero, List.set_cons_succ]
    refine HeldBut.ready (rs := [8]) (by kernel_rfl) (by simp) ?_
    refine AllBut.cons (o := _) rfl (fun K hK => ?_) AllBut.nil
    refine wp_app w.heap.size _ _ rfl (.slice (some ⟨w.heap.size, 0, none⟩) 0 0) _ rfl rfl 0 [] (L.take k) (empty_row w w.heap.size (Nat.le_refl _)) (SRC1.out _ ((below1 w (.cells #[] 37)).drew)) (by have := HTL.out; omega) (by first | (simp; done) | (simp; omega) | omega) ?_
    intro v1 V1 o1 g1
    rw [show 0 + (L.take k).length = k by have := HTL.out; omega] at o1
    have bV1 : Below w.heap.size w V1 := Below.grown ((below1 w (.cells #[] 37)).drew) g1 (by first | (simp; done) | (simp; omega) | omega) (fun j hj => (World.ownsRow.lt (empty_row w w.heap.size (Nat.le_refl _)) j hj).1)
    obtain ⟨a1, q1, rfl⟩ := own_slice3 o1
    clear hHeld
    have hHeld := KS.out _ (bV1)
    refine hK.out _ _ (.inr hHeld) ?_
    clear hK K
    try simp only [List.getElem_toArray, List.getElem_cons_zero, List.getElem_cons_succ, Act.put, List.setIfInBounds_toArray, List.set_cons_zero, List.set_cons_succ]
    refine HeldBut.ready (rs := [16]) (by kernel_rfl) (by simp) ?_
    refine AllBut.cons (o := _) rfl (fun K hK => ?_) AllBut.nil
    refine wp_app w.heap.size _ _ rfl (.slice a1 k q1) _ rfl rfl _ _ (L.drop (k + 1)) o1 (SRC3.out _ bV1) (by have := HTL.out; omega) (by have := bV1.size; omega) ?_
    intro v3 V3 o3 g3
    rw [show k + (L.drop (k + 1)).length = L.length - 1 by have := HTL.out; omega] at o3
    have bV3 : Below w.heap.size w V3 := Below.grown bV1 g3 (by have := bV1.size; omega) (fun j hj => (World.ownsRow.lt o1 j hj).1)
    obtain ⟨a3, q3, rfl⟩ := own_slice3 o3
    clear hHeld
    have hHeld := KS.out _ (bV3)
    refine hK.out _ _ (.inr hHeld) ?_
    clear hK K
    try simp only [List.getElem_toArray, List.getElem_cons_zero, List.getElem_cons_succ, Act.put, List.setIfInBounds_toArray, List.set_cons_zero, List.set_cons_succ]
    refine HeldBut.ready (rs := [17]) (by kernel_rfl) (by simp) ?_
    refine AllBut.cons (o := _) rfl (fun K hK => ?_) AllBut.nil
    go_simp
    clear hHeld
    have hHeld := KS.out _ (bV3)
    refine hK.out _ _ (.inr hHeld) ?_
    clear hK K
    try simp only [List.getElem_toArray, List.getElem_cons_zero, List.getElem_cons_succ, Act.put, List.setIfInBounds_toArray, List.set_cons_zero, List.set_cons_succ]
    refine HeldBut.take (i := 18) (v := ?_) rfl (by kernel_rfl) (by kernel_rfl) (by kernel_rfl) (by kernel_rfl) (fun _ _ _ h => h) (Or.inl ⟨by rfl, ?_⟩) (by assumption) ?_
    rotate_left
    · (intro w hSw; (try dsimp only at hSw); go_simp; try with_reducible rfl)
    try simp only [List.getElem_toArray, List.getElem_cons_zero, List.getElem_cons_succ, Act.put, List.setIfInBounds_toArray, List.set_cons_zero, List.set_cons_succ]
    refine HeldBut.ready (rs := [19]) (by kernel_rfl) (by simp) ?_
    refine AllBut.cons (o := _) rfl (fun K hK => ?_) AllBut.nil
    have rx : V3.heap[xb]? = _ := (bV3.block xb hxl).trans HL.out.blk
    have cx3 : V3.cell? ⟨xb, 0, none⟩ = _ := cell_row rx 0
    have fx3 := frozen_of_row V3 _ 0 _ _ rx
    have FIN : Hid _ := o3
    clear hHeld o3
    go_simp
    refine hK.out _ _ (.inl rfl) ?_
    refine HeldBut.done (by kernel_rfl) ?_ _
    clear hK K
    go_wp2
    go_ret
    refine ⟨rfl, a3, q3, ⟨?_, ⟨?_⟩, HL.out.lo, HLL.out⟩, (Keeps.of_below [xb] bV3).trans (Keeps.setCell _ xb _ _) (by simp)⟩
    · refine (row_setCell rx 0 _).trans ?_
      rw [hlenM.out]
      rfl
    · have := FIN.out
      rw [hlenM.out]; have h9 := own_lower hBw (new_row2 (u := .slice a3 (L.length - 1) q3) HK.out rx this); rw [hlenM.out] at h9; exact h9
theorem isK_key {L : List Ro} {p : BitVec 32} {m : Nat} {x : Ro} (hx : x ∈ L) (hk : IsK p m x) : hasKey L p m = true := hasKey_iff.2 ⟨x.2.2, by
  have e1 := hk.1
  have e2 : x.2.1 = m := by have := hk.2; omega
  rw [← e1, ← e2]; exact hx⟩
theorem key_isK {L : List Ro} {p : BitVec 32} {m : Nat} (h : hasKey L p m = true) : ∃ x ∈ L, IsK p m x := by
  obtain ⟨v, hv⟩ := hasKey_iff.1 h
  exact ⟨_, hv, rfl, rfl⟩
theorem RTab.keep {w : World} {B xb : Nat} {L : List Ro} {qa : Option Addr} {qc : Nat} (h : RTab w B xb L qa qc) {w' : World} (hb : Below w.heap.size w w') : RTab w' B xb L qa qc := by
  refine ⟨(hb.block _ (lt_of_heap h.blk)).trans h.blk, ⟨h.own.h.1, ?_⟩, h.lo, h.len⟩
  rcases h.own.h.2 with h0 | ⟨g, cap, cur, e, q1, q2, q3⟩
  · exact .inl h0
  · exact .inr ⟨g, cap, cur, e, q1, (hb.block _ (lt_of_heap q2)).trans q2, q3⟩
set_option maxRecDepth 20000 in
set_option maxHeartbeats 2000000 in
theorem radd_any {w : World} {B xb : Nat} {L : List Ro} {qa : Option Addr} {qc : Nat} (h : RTab w B xb L qa qc) (hs : L.Pairwise ltR) (hr : ∀ x ∈ L, x.2.1 ≤ 32 ∧ rightB x.1 x.2.1 = true) (p : BitVec 32) (n v : Int) (hn : I64 n) (hBw : B ≤ w.heap.size) :
    Calls Try.prog 11 #[ptr xb, .int .u32 p.toNat, .int .i64 n, .int .i64 v] w fun e w' => e = .returned (.int .i64 (addC L p n)) ∧ ∃ qa' qc', RTab w' B xb (addL L p n v) qa' qc' ∧ Keeps [xb] w w' := by
  have HRG : Hid _ := rright_any p n hn w
  rcases chk_two p n with ⟨hc, hc'⟩ | ⟨hc, m, rfl, hm, hrt⟩
  · have HA : Hid (addC L p n = 1) := (by unfold addC; rw [if_neg hc'] : addC L p n = 1)
    have HB : Hid (addL L p n v = L) := (by unfold addL; rw [if_neg hc'] : addL L p n v = L)
    rw [hc, show decide ((1 : Int) = 0) = false from rfl] at HRG
    have HL : Hid _ := h
    clear h hs hr
    go_enter Try.func11, Try.ntmps11
    go_wp2_with (first
      | (go_at_call 26; refine Calls.mono HRG.out ?_; rintro e w9 ⟨rfl, hw9⟩; rw [hw9]; clear hw9; skip)
      | fail)
    go_ret
    exact ⟨by rw [HA.out]; rfl, qa, qc, HB.out.symm ▸ HL.out, Keeps.refl _ _⟩
  · cases hk : hasKey L p m
    · have e0 : addC L p m = 0 := by unfold addC; rw [if_pos hc]; exact (ad_no hk v).1
      have e1 : addL L p m v = ins (p, m, v) L := by unfold addL; rw [if_pos hc]; exact (ad_no hk v).2
      rw [e0, e1]
      refine radd_ins h hs hr p m v hm hrt hc (fun x hx kx => ?_) hBw
      have := isK_key hx kx
      rw [hk] at this; cases this
    · have HA : Hid (addC L p m = 5) := (by unfold addC; rw [if_pos hc]; exact (ad_yes hk v).1 : addC L p m = 5)
      have HB : Hid (addL L p m v = L) := (by unfold addL; rw [if_pos hc]; exact (ad_yes hk v).2 : addL L p m v = L)
      rw [hc, show decide ((0 : Int) = 0) = true from rfl] at HRG
      have HF : Hid _ := rfind_any h p m
      have HL : Hid _ := h
      have HX : Hid _ := key_isK hk
      clear h hs hr
      go_enter Try.func11, Try.ntmps11
      go_wp2_with (first
        | (go_at_call 26; refine Calls.mono HRG.out ?_; rintro e w9 ⟨rfl, hw9⟩; rw [hw9]; clear hw9; skip)
        | fail)
      refine Calls.mono HF.out ?_
      rintro e w9 ⟨r, rfl, hr, hw9⟩
      rw [hw9]; clear hw9 w9
      obtain ⟨i, rfl⟩ : ∃ i : Nat, r = i := by
        rcases hr with ⟨i, x, e, _, _⟩ | ⟨_, hno⟩
        · exact ⟨i, e⟩
        · obtain ⟨x, hx, kx⟩ := HX.out
          exact absurd kx (hno x hx)
      clear hr
      go_wp2
      go_ret
      exact ⟨by rw [HA.out]; rfl, qa, qc, HB.out.symm ▸ HL.out, Keeps.refl _ _⟩
set_option maxRecDepth 20000 in
set_option maxHeartbeats 2000000 in
theorem rremove_any {w : World} {B xb : Nat} {L : List Ro} {qa : Option Addr} {qc : Nat} (h : RTab w B xb L qa qc) (hs : L.Pairwise ltR) (p : BitVec 32) (n : Int) (hn : I64 n) (hBw : B ≤ w.heap.size) :
    Calls Try.prog 13 #[ptr xb, .int .u32 p.toNat, .int .i64 n] w fun e w' => e = .returned (.int .i64 (remC L p n)) ∧ ∃ qa' qc', RTab w' B xb (remL L p n) qa' qc' ∧ Keeps [xb] w w' := by
  have HRG : Hid _ := rright_any p n hn w
  rcases chk_two p n with ⟨hc, hc'⟩ | ⟨hc, m, rfl, hm, hrt⟩
  · have HA : Hid (remC L p n = 1) := (by unfold remC; rw [if_neg hc'] : remC L p n = 1)
    have HB : Hid (remL L p n = L) := (by unfold remL; rw [if_neg hc'] : remL L p n = L)
    rw [hc, show decide ((1 : Int) = 0) = false from rfl] at HRG
    have HL : Hid _ := h
    clear h hs
    go_enter Try.func13, Try.ntmps13
    go_wp2_with (first
      | (go_at_call 26; refine Calls.mono HRG.out ?_; rintro e w9 ⟨rfl, hw9⟩; rw [hw9]; clear hw9; skip)
      | fail)
    go_ret
    exact ⟨by rw [HA.out]; rfl, qa, qc, HB.out.symm ▸ HL.out, Keeps.refl _ _⟩
  · cases hk : hasKey L p m
    · have HA : Hid (remC L p m = 4) := (by unfold remC reC; rw [if_pos hc, show ((m : Int)).toNat = m by omega, hk]; rfl : remC L p m = 4)
      have HB : Hid (remL L p m = L) := (by unfold remL; rw [if_pos hc, show ((m : Int)).toNat = m by omega]; exact reL_none hk : remL L p m = L)
      rw [hc, show decide ((0 : Int) = 0) = true from rfl] at HRG
      have HF : Hid _ := rfind_any h p m
      have HL : Hid _ := h
      have HX : Hid _ := hk
      clear h hs
      go_enter Try.func13, Try.ntmps13
      go_wp2_with (first
        | (go_at_call 26; refine Calls.mono HRG.out ?_; rintro e w9 ⟨rfl, hw9⟩; rw [hw9]; clear hw9; skip)
        | fail)
      refine Calls.mono HF.out ?_
      rintro e w9 ⟨r, rfl, hr, hw9⟩
      rw [hw9]; clear hw9 w9
      obtain rfl : r = -1 := by
        rcases hr with ⟨i, x, _, hx, kx⟩ | ⟨e, _⟩
        · have := isK_key (List.mem_of_getElem? hx) kx
          rw [HX.out] at this; cases this
        · exact e
      clear hr
      go_wp2
      go_ret
      exact ⟨by rw [HA.out]; rfl, qa, qc, HB.out.symm ▸ HL.out, Keeps.refl _ _⟩
    · have e0 : remC L p m = 0 := by unfold remC reC; rw [if_pos hc, show ((m : Int)).toNat = m by omega, hk]; rfl
      have e1 : remL L p m = reL L p m := by unfold remL; rw [if_pos hc, show ((m : Int)).toNat = m by omega]
      rw [e0, e1]
      obtain ⟨x, hx, kx⟩ := key_isK hk
      obtain ⟨k, hkx⟩ := List.mem_iff_getElem?.1 hx
      exact rremove_del h hs p m hm hc hkx kx hBw
end Go.Proofs.Ytlopnagajhjmmaa
