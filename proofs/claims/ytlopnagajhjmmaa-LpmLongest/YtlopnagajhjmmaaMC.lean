/- LpmLongest, plain: a table, another and the document's; what is added last to first. Conditions: as said. -/
import Derived.Test.YtlopnagajhjmmaaMA
namespace Go.Proofs.Ytlopnagajhjmmaa
open Go.RowKit Tr
theorem add_front {L : List Ro} (hs : L.Pairwise ltR) (hr : ∀ x ∈ L, x.2.1 ≤ 32 ∧ rightB x.1 x.2.1 = true) {m : Nat} {x : Ro} (hx : L[m]? = some x) : addC (L.drop (m + 1)) x.1 x.2.1 = 0 ∧ addL (L.drop (m + 1)) x.1 x.2.1 x.2.2 = L.drop m := by
  have hlt := (List.getElem?_eq_some_iff.1 hx).1
  have hxe := (List.getElem?_eq_some_iff.1 hx).2
  have hxm : x ∈ L := List.mem_of_getElem? hx
  have hd : L.drop m = x :: L.drop (m + 1) := by rw [← hxe]; exact List.drop_eq_getElem_cons hlt
  have hs2 : (x :: L.drop (m + 1)).Pairwise ltR := by rw [← hd]; exact List.Pairwise.sublist (List.drop_sublist _ _) hs
  have hs3 := (List.pairwise_cons.1 hs2)
  have nk : ∀ y ∈ L.drop (m + 1), ¬ (y.1 = x.1 ∧ y.2.1 = x.2.1) := by
    intro y hy e
    have := hs3.1 y hy
    have e2 := key_one hs hxm (List.mem_of_mem_drop hy) e.1.symm e.2.symm
    rw [← e2] at this
    exact ltR_irr _ this
  have hk : hasKey (L.drop (m + 1)) x.1 x.2.1 = false := by
    cases hk : hasKey (L.drop (m + 1)) x.1 x.2.1 with
    | false => rfl
    | true => obtain ⟨v, hv⟩ := hasKey_iff.1 hk; exact absurd ⟨rfl, rfl⟩ (nk _ hv)
  have hc : chk x.1 (x.2.1 : Int) = 0 := by
    unfold chk
    rw [if_pos ⟨by omega, by have := (hr x hxm).1; omega, by rw [Int.toNat_natCast]; exact (hr x hxm).2⟩]
  constructor
  · unfold addC; rw [if_pos hc, Int.toNat_natCast, (ad_no hk 0).1]
  · unfold addL; rw [if_pos hc, Int.toNat_natCast, (ad_no hk x.2.2).2, hd]
    refine sorted_eq _ _ (sorted_ins _ _ hs3.2 nk) hs2 fun y => ?_
    rw [mem_ins]; simp
/-- Two tables and the document's, made since w. -/
structure T3 (w W : World) (ta ub xb : Nat) (a u : Tr) (L : List Ro) : Prop where
  two : Two w W ta ub a u
  ref : ∃ qa qc, RTab W w.heap.size xb L qa qc
theorem T3.addA {w W W' : World} {ta ub xb : Nat} {a u a' : Tr} {L : List Ro} (h : T3 w W ta ub xb a u L) (ha : Added W ta a W' a') : T3 w W' ta ub xb a' u L := by
  obtain ⟨qa, qc, hr⟩ := h.ref
  exact ⟨h.two.addA ha, qa, qc, hr.keepK ha.keeps h.two.A.ty⟩
theorem T3.addU {w W W' : World} {ta ub xb : Nat} {a u u' : Tr} {L : List Ro} (h : T3 w W ta ub xb a u L) (ha : Added W ub u W' u') : T3 w W' ta ub xb a u' L := by
  obtain ⟨qa, qc, hr⟩ := h.ref
  exact ⟨h.two.addB ha, qa, qc, hr.keepK ha.keeps h.two.B.ty⟩
theorem T3.below {w W W' : World} {ta ub xb : Nat} {a u : Tr} {L : List Ro} (h : T3 w W ta ub xb a u L) (hb : Below W.heap.size W W') : T3 w W' ta ub xb a u L := h.addA (Added.refl h.two.A hb)
theorem T3.addR {w W W' : World} {ta ub xb : Nat} {a u : Tr} {L L' : List Ro} (h : T3 w W ta ub xb a u L) (hr : ∃ qa qc, RTab W' w.heap.size xb L' qa qc) (hk : Keeps [xb] W W') : T3 w W' ta ub xb a u L' := by
  obtain ⟨qa, qc, hr0⟩ := h.ref
  have no : ∀ {tb : Nat} {t : Tr}, Tab W tb t → ∀ x ∈ tb :: t.blocks, x ∉ [xb] := by
    intro tb t hT x hx hy
    simp at hy; subst hy
    obtain ⟨cs, ty, h1, h2, h3⟩ := hT.ty x hx
    rw [hr0.blk] at h1; injection h1 with h1; injection h1 with _ h1
    exact h2 h1.symm
  refine ⟨⟨h.two.A.keep hk (no h.two.A), h.two.B.keep hk (no h.two.B), h.two.apart, h.two.lo, h.two.bel.trans (hk.below h.two.bel.size (by intro x hx; simp at hx; subst hx; exact hr0.lo))⟩, hr⟩
theorem T3.trA {w W : World} {ta ub xb : Nat} {a u : Tr} {L : List Ro} (h : T3 w W ta ub xb a u L) : TR w W ta xb a L := ⟨h.two.A, h.ref, fun x hx => h.two.lo x (List.mem_append.2 (.inl hx)), h.two.bel⟩
theorem T3.trU {w W : World} {ta ub xb : Nat} {a u : Tr} {L : List Ro} (h : T3 w W ta ub xb a u L) : TR w W ub xb u L := ⟨h.two.B, h.ref, fun x hx => h.two.lo x (List.mem_append.2 (.inr hx)), h.two.bel⟩
theorem lg_radd {w V : World} {ta ub xb : Nat} {a u : Tr} {q : Opd} (hq : I64 q.n) (h : T3 w V ta ub xb a u a.ents) :
    Calls Try.prog 11 #[ptr xb, .int .u32 q.p.toNat, .int .i64 q.n, .int .i64 q.v] V fun e w' => e = .returned (.int .i64 (addC a.ents q.p q.n)) ∧ Hid (T3 w w' ta ub xb a u (addL a.ents q.p q.n q.v)) := by
  obtain ⟨qa, qc, hR⟩ := h.ref
  exact (radd_any hR (ents_sorted _ h.two.A.wf) (ents_le h.two.A.wf) q.p q.n q.v hq h.two.bel.size).mono fun e w' ⟨he, qa', qc', g1, g2⟩ => ⟨he, h.addR ⟨qa', qc', g1⟩ g2⟩
theorem lg_add {w V : World} {ta ub xb : Nat} {a u : Tr} {q : Opd} (h : T3 w V ta ub xb a u (addL a.ents q.p q.n q.v)) :
    Calls Try.prog 10 #[ptr ta, .int .u32 q.p.toNat, .int .i64 q.n, .int .i64 q.v] V fun e w' => e = .returned (.int .i64 (addC a.ents q.p q.n)) ∧ ∃ a', Hid (T3 w w' ta ub xb a' u a'.ents) :=
  (add_any h.two.A q.p q.n q.v).mono fun _ _ ⟨he, a', h1, h2⟩ => ⟨he, a', by rw [h1]; exact h.addA h2⟩
theorem lg_back {w V : World} {ta ub xb : Nat} {a u : Tr} {m : Nat} {x : Ro} (h : T3 w V ta ub xb a u a.ents) (hx : a.ents[m]? = some x) (hu : u.ents = a.ents.drop (m + 1)) :
    Calls Try.prog 10 #[ptr ub, .int .u32 x.1.toNat, .int .i64 x.2.1, .int .i64 x.2.2] V fun e w' => e = .returned (.int .i64 0) ∧ ∃ u', Hid (T3 w w' ta ub xb a u' a.ents ∧ u'.ents = a.ents.drop m ∧ ∀ qa qc, RTab V w.heap.size xb a.ents qa qc → RTab w' w.heap.size xb a.ents qa qc) := by
  have f := add_front (ents_sorted _ h.two.A.wf) (ents_le h.two.A.wf) hx
  refine (add_any h.two.B x.1 x.2.1 x.2.2).mono fun _ _ ⟨he, u', h1, h2⟩ => ⟨by rw [he, hu, f.1], u', h.addU h2, by rw [h1, hu, f.2], fun qa qc hR => hR.keepK h2.keeps h.two.B.ty⟩
theorem RTab.cells4 {W : World} {B xb g : Nat} {L : List Ro} {qc k : Nat} {x : Ro} (h : RTab W B xb L (some ⟨g, 0, none⟩) qc) (hx : L[k]? = some x) : W.cell? ⟨xb, 0, none⟩ = some (.slice (some ⟨g, 0, none⟩) L.length qc) ∧ W.cell? ⟨g, k * 3, none⟩ = some (.int .u32 x.1.toNat) ∧ W.cell? ⟨g, k * 3 + 1, none⟩ = some (.int .i64 x.2.1) ∧ W.cell? ⟨g, k * 3 + 2, none⟩ = some (.int .i64 x.2.2) := by
  obtain ⟨g', e, h1, h2, h3⟩ := h.at hx
  injection e with e; injection e with e; subst e
  exact ⟨cell_row h.blk 0, h1, h2, h3⟩
end Go.Proofs.Ytlopnagajhjmmaa
