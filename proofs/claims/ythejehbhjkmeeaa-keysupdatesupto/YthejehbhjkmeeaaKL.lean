/- Numbers given to keys without one: plain facts. No condition. -/
import Derived.Test.YthejehbhjkmeeaaKK
namespace Go.Proofs.Ythejehbhjkmeeaa
open Go.RowKit
/-- Numbers for the keys without one, from above L on: the last one given, the numbers had, the keys. -/
def fill (most : Int) : Int → List Int → List Ky → Option (Int × List Int × List Ky)
  | L, H, [] => some (L, H, [])
  | L, H, k :: r => if k.v = 0 then match nextN H (most - L).toNat L with
      | none => none
      | some n => (fill most n (H ++ [n]) r).map fun x => (x.1, x.2.1, ⟨k.n, n⟩ :: x.2.2)
    else (fill most L H r).map fun x => (x.1, x.2.1, k :: x.2.2)
def hadS (most : Int) (H : List Int) (ks : List Ky) : List Int := ks.foldl (fun H k => takeH H most k.v) H
theorem hadS_snoc (most : Int) (H : List Int) (ks : List Ky) (k : Ky) : hadS most H (ks ++ [k]) = takeH (hadS most H ks) most k.v := by simp [hadS]
def hadA (most : Int) (M : Nat → List Ky) : Nat → List Int
  | 0 => []
  | j + 1 => hadS most (hadA most M j) (M j)
def updM (M : Nat → List Ky) (j : Nat) (l : List Ky) : Nat → List Ky := fun i => if i = j then l else M i
def accF (most : Int) (M : Nat → List Ky) : Nat → Option (Int × List Int × (Nat → List Ky))
  | 0 => some (0, hadA most M 2, M)
  | j + 1 => (accF most M j).bind fun x => (fill most x.1 x.2.1 (M j)).map fun y => (y.1, y.2.1, updM x.2.2 j y.2.2)
theorem accF_none {most : Int} {M : Nat → List Ky} {i j : Nat} (h : accF most M i = none) (hij : i ≤ j) : accF most M j = none := by
  obtain ⟨d, rfl⟩ := Nat.le.dest hij
  induction d with
  | zero => exact h
  | succ d ih => rw [← Nat.add_assoc, accF, ih (by omega)]; rfl
theorem fill_len {most : Int} : ∀ {ks : List Ky} {L : Int} {H : List Int} {x : Int × List Int × List Ky}, fill most L H ks = some x → x.2.2.length = ks.length
  | [], L, H, x, h => by simp [fill] at h; rw [← h]
  | k :: r, L, H, x, h => by
    unfold fill at h
    split at h
    · split at h
      · cases h
      · obtain ⟨y, hy, rfl⟩ := Option.map_eq_some_iff.1 h
        simp [fill_len hy]
    · obtain ⟨y, hy, rfl⟩ := Option.map_eq_some_iff.1 h
      simp [fill_len hy]
theorem fill_last {most : Int} : ∀ {ks : List Ky} {L : Int} {H : List Int} {x : Int × List Int × List Ky}, 0 ≤ L → fill most L H ks = some x → L ≤ x.1
  | [], L, H, x, _, h => by simp [fill] at h; rw [← h]; exact Int.le_refl _
  | k :: r, L, H, x, h0, h => by
    unfold fill at h
    split at h
    · split at h
      · cases h
      · rename_i n hn
        obtain ⟨y, hy, rfl⟩ := Option.map_eq_some_iff.1 h
        have := (nextN_some hn).1
        have := fill_last (by omega) hy
        simp only
        omega
    · obtain ⟨y, hy, rfl⟩ := Option.map_eq_some_iff.1 h
      have := fill_last h0 hy
      exact this
theorem rowK_set {x : Int} : ∀ {ks : List Ky} {i : Nat} {k : Ky}, ks[i]? = some k → (rowK ks).set (i * 2 + 1) (.int .i64 x) = rowK (ks.set i ⟨k.n, x⟩)
  | [], i, k, h => by simp at h
  | y :: r, 0, k, h => by
    simp at h; subst h
    simp [rowK_cons, cellsK]
  | y :: r, i + 1, k, h => by
    have ih := rowK_set (x := x) (ks := r) (i := i) (k := k) (by simpa using h)
    rw [List.set_cons_succ, rowK_cons, rowK_cons, ← ih]
    simp only [cellsK]
    rw [show (i + 1) * 2 + 1 = (i * 2 + 1) + 1 + 1 from by omega]
    rfl
theorem own_set {w : World} {B g n cap : Nat} {ks : List Ky} {i : Nat} {k : Ky} (h : w.ownsRow B 37 2 (.slice (some ⟨g, 0, none⟩) n cap) n (rowK ks)) (hk : ks[i]? = some k) (x : Int) :
    (w.setCell ⟨g, i * 2 + 1, none⟩ (.int .i64 x)).ownsRow B 37 2 (.slice (some ⟨g, 0, none⟩) n cap) n (rowK (ks.set i ⟨k.n, x⟩)) := by
  have hlen := h.1
  rw [rowK_length] at hlen
  have hi := (List.getElem?_eq_some_iff.1 hk).1
  refine ⟨by rw [rowK_length, List.length_set]; exact hlen, ?_⟩
  rcases h.2 with ⟨h0, h1⟩ | ⟨g', cap', cur, e1, hb, hcells, hnc, hcm, hsz, htk⟩
  · cases h0
  · cases e1
    refine .inr ⟨g, cap, cur.setIfInBounds (i * 2 + 1) (.int .i64 x), rfl, hb, row_setCell hcells _ _, hnc, hcm, by simpa using hsz, ?_⟩
    rw [← rowK_set hk, ← htk, Array.toList_setIfInBounds, List.take_set]
theorem own_cell {w : World} {B n : Nat} {a : Option Addr} {cap : Nat} {ks : List Ky} {i : Nat} {k : Ky} (h : w.ownsRow B 37 2 (.slice a n cap) n (rowK ks)) (hk : ks[i]? = some k) :
    ∃ g, a = some ⟨g, 0, none⟩ ∧ B ≤ g ∧ g < w.heap.size ∧ w.cell? ⟨g, i * 2 + 1, none⟩ = some (.int .i64 k.v) ∧ w.cell? ⟨g, i * 2, none⟩ = some (.string k.n) ∧ w.frozen? ⟨g, i * 2 + 1, none⟩ = false := by
  have hlen := h.1
  rw [rowK_length] at hlen
  have hi := (List.getElem?_eq_some_iff.1 hk).1
  rcases h.2 with ⟨h0, h1⟩ | ⟨g', cap', cur, e1, hb, hcells, hnc, hcm, hsz, htk⟩
  · omega
  · cases e1
    have q : ∀ j, j < 2 → w.cell? ⟨g', i * 2 + j, none⟩ = (cellsK k)[j]? := fun j hj => by
      have := h.cellAt (i * 2 + j) (by omega)
      rw [this, rowK_at ks i k hk j hj]
    exact ⟨g', rfl, hb, lt_of_heap hcells, q 1 (by omega), q 0 (by omega), frozen_of_row w g' _ _ _ hcells⟩
/-- Two lists of one's own, side by side in a block. -/
structure Own2 (w : World) (B g : Nat) (v : Nat → Value) (N : Nat → Nat) (M : Nat → List Ky) : Prop where
  blk : w.heap[g]? = some (.cells #[v 0, v 1] 22 (0, 0))
  own : ∀ j, j < 2 → w.ownsRow B 37 2 (v j) (N j) (rowK (M j))
  ap : (v 0).ownBlock ≠ none → (v 0).ownBlock ≠ (v 1).ownBlock
def RowB (v : Nat → Value) (k : Nat) : Prop := (v 0).ownBlock = some k ∨ (v 1).ownBlock = some k
theorem own_type {w : World} {B : Nat} {v : Value} {n : Nat} {xs : List Value} (h : w.ownsRow B 37 2 v n xs) {k : Nat} (hk : v.ownBlock = some k) : ∃ cur, w.heap[k]? = some (.cells cur 37 (0, 0)) := by
  rcases h.2 with ⟨h0, h1⟩ | ⟨g', cap', cur, e1, hb, hcells, _⟩
  · rw [h0] at hk; cases hk
  · rw [e1] at hk; cases hk; exact ⟨cur, hcells⟩
theorem Own2.not_g {w : World} {B g : Nat} {v : Nat → Value} {N : Nat → Nat} {M : Nat → List Ky} (h : Own2 w B g v N M) : ¬ RowB v g := by
  rintro (e | e)
  · obtain ⟨c, hc⟩ := own_type (h.own 0 (by omega)) e
    rw [h.blk] at hc; simp at hc
  · obtain ⟨c, hc⟩ := own_type (h.own 1 (by omega)) e
    rw [h.blk] at hc; simp at hc
theorem Own2.rowB {w : World} {B g : Nat} {v : Nat → Value} {N : Nat → Nat} {M : Nat → List Ky} (h : Own2 w B g v N M) {k : Nat} (hk : RowB v k) : B ≤ k ∧ k < w.heap.size := by
  rcases hk with e | e
  · exact World.ownsRow.lt (h.own 0 (by omega)) k e
  · exact World.ownsRow.lt (h.own 1 (by omega)) k e
theorem Own2.keep {w w' : World} {B g : Nat} {v : Nat → Value} {N : Nat → Nat} {M : Nat → List Ky} {P : Nat → Prop} (h : Own2 w B g v N M) (hf : FrP P w w') (hg : ¬ P g) (hr : ∀ k, RowB v k → ¬ P k) : Own2 w' B g v N M := by
  refine ⟨(hf.block _ (lt_of_heap h.blk) hg).trans h.blk, fun j hj => ?_, h.ap⟩
  have ho := h.own j hj
  refine ⟨ho.1, ?_⟩
  rcases ho.2 with h' | ⟨q, cap, cur, e1, e2, e3, e4⟩
  · exact .inl h'
  · refine .inr ⟨q, cap, cur, e1, e2, (hf.block _ (lt_of_heap e3) (hr q ?_)).trans e3, e4⟩
    have : (v j).ownBlock = some q := by rw [e1]; rfl
    match j, hj with
    | 0, _ => exact .inl this
    | 1, _ => exact .inr this
theorem Own2.set {w : World} {B g : Nat} {v : Nat → Value} {N : Nat → Nat} {M : Nat → List Ky} (h : Own2 w B g v N M) {j : Nat} (hj : j < 2) {q n cap : Nat} (hv : v j = .slice (some ⟨q, 0, none⟩) n cap) (hn : N j = n) {i : Nat} {k : Ky} (hk : (M j)[i]? = some k) (x : Int) :
    Own2 (w.setCell ⟨q, i * 2 + 1, none⟩ (.int .i64 x)) B g v N (updM M j ((M j).set i ⟨k.n, x⟩)) := by
  have hq : (v j).ownBlock = some q := by rw [hv]; rfl
  have hrb : RowB v q := by
    match j, hj with
    | 0, _ => exact .inl hq
    | 1, _ => exact .inr hq
  refine ⟨(Below.heap_setCell _ _ _ _ (fun e => h.not_g (by rw [e]; exact hrb))).trans h.blk, fun i' hi' => ?_, h.ap⟩
  by_cases e : i' = j
  · subst e
    have ho := h.own i' hi'
    rw [hv, hn] at ho ⊢
    have := own_set ho hk x
    simpa [updM] using this
  · have ho := h.own i' hi'
    rw [show updM M j ((M j).set i ⟨k.n, x⟩) i' = M i' from by simp [updM, e]]
    refine ⟨ho.1, ?_⟩
    rcases ho.2 with h' | ⟨q', cap', cur, e1, e2, e3, e4⟩
    · exact .inl h'
    · refine .inr ⟨q', cap', cur, e1, e2, (Below.heap_setCell _ _ _ _ (fun eq => ?_)).trans e3, e4⟩
      have hq' : (v i').ownBlock = some q' := by rw [e1]; rfl
      have hap := h.ap
      match j, hj, i', hi' with
      | 0, _, 1, _ => exact hap (by rw [hq]; simp) (by rw [hq, hq', eq])
      | 1, _, 0, _ => exact hap (by rw [hq']; simp) (by rw [hq, hq', eq])
      | 0, _, 0, _ => exact e rfl
      | 1, _, 1, _ => exact e rfl
end Go.Proofs.Ythejehbhjkmeeaa
