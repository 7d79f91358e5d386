/- LpmDoes: a table and the document's, side by side. Conditions: as said. -/
import Derived.Test.YtlopnagajhjmmaaLY
import Derived.Test.YtlopnagajhjmmaaLR
namespace Go.Proofs.Ytlopnagajhjmmaa
open Go.RowKit Tr
theorem own_ty {w : World} : ∀ {t : Tr}, Own w t → ∀ b ∈ t.blocks, ∃ cs, w.heap[b]? = some (.cells cs 57 (0, 0))
  | nil, _, b, hb => by simp [blocks] at hb
  | node b p n v th l r, ⟨h1, h2, h3⟩, x, hx => by
    simp only [blocks, List.mem_cons, List.mem_append] at hx
    rcases hx with rfl | hx | hx
    · exact ⟨_, h1⟩
    · exact own_ty h2 x hx
    · exact own_ty h3 x hx
theorem Tab.ty {W : World} {tb : Nat} {t : Tr} (h : Tab W tb t) : ∀ x ∈ tb :: t.blocks, ∃ cs ty, W.heap[x]? = some (.cells cs ty (0, 0)) ∧ ty ≠ 28 ∧ ty ≠ 37 := by
  intro x hx
  obtain ⟨rb, rv, rth, rl, rr, e, ht⟩ := h.root
  rcases List.mem_cons.1 hx with rfl | hx
  · exact ⟨_, _, ht, by decide, by decide⟩
  · obtain ⟨cs, h1⟩ := own_ty h.own x hx
    exact ⟨cs, _, h1, by decide, by decide⟩
theorem RTab.keepK {W W' : World} {B xb : Nat} {L : List Ro} {qa : Option Addr} {qc : Nat} {S : List Nat} (h : RTab W B xb L qa qc) (hk : Keeps S W W') (hs : ∀ x ∈ S, ∃ cs ty, W.heap[x]? = some (.cells cs ty (0, 0)) ∧ ty ≠ 28 ∧ ty ≠ 37) : RTab W' B xb L qa qc := by
  have ne : ∀ (k : Nat) (cs : Array Value) (ty : TypeId), W.heap[k]? = some (.cells cs ty (0, 0)) → (ty = 28 ∨ ty = 37) → k ∉ S := by
    intro k cs ty hk ht hx
    obtain ⟨cs', ty', hc, h1, h2⟩ := hs k hx
    rw [hk] at hc; injection hc with hc; injection hc with _ hc
    rcases ht with g | g
    · exact h1 (hc ▸ g)
    · exact h2 (hc ▸ g)
  refine ⟨(hk.block xb (lt_of_heap h.blk) (ne xb _ _ h.blk (.inl rfl))).trans h.blk, ⟨h.own.h.1, ?_⟩, h.lo, h.len⟩
  rcases h.own.h.2 with h0 | ⟨g, cap, cur, e, q1, q2, q3⟩
  · exact .inl h0
  · exact .inr ⟨g, cap, cur, e, q1, (hk.block g (lt_of_heap q2) (ne g _ _ q2 (.inr rfl))).trans q2, q3⟩
/-- A table and the document's, made since w. -/
structure TR (w W : World) (tb xb : Nat) (t : Tr) (L : List Ro) : Prop where
  tab : Tab W tb t
  ref : ∃ qa qc, RTab W w.heap.size xb L qa qc
  lo : ∀ x ∈ tb :: t.blocks, w.heap.size ≤ x
  bel : Below w.heap.size w W
theorem TR.addA {w W W' : World} {tb xb : Nat} {t t' : Tr} {L : List Ro} (h : TR w W tb xb t L) (ha : Added W tb t W' t') : TR w W' tb xb t' L := by
  obtain ⟨qa, qc, hr⟩ := h.ref
  have hsz := h.bel.size
  refine ⟨ha.tab, ⟨qa, qc, hr.keepK ha.keeps h.tab.ty⟩, ?_, h.bel.trans (ha.keeps.below hsz h.lo)⟩
  intro x hx
  rcases List.mem_cons.1 hx with rfl | hx
  · exact h.lo x (by simp)
  · rcases ha.blk x hx with g | g
    · exact h.lo x (by simp [g])
    · omega
theorem TR.addB {w W W' : World} {tb xb : Nat} {t : Tr} {L L' : List Ro} (h : TR w W tb xb t L) (hr : ∃ qa qc, RTab W' w.heap.size xb L' qa qc) (hk : Keeps [xb] W W') : TR w W' tb xb t L' := by
  obtain ⟨qa, qc, hr0⟩ := h.ref
  refine ⟨h.tab.keep hk ?_, hr, h.lo, h.bel.trans (hk.below h.bel.size (by intro x hx; simp at hx; subst hx; exact hr0.lo))⟩
  intro x hx hy
  simp at hy; subst hy
  obtain ⟨cs, ty, h1, h2, h3⟩ := h.tab.ty x hx
  rw [hr0.blk] at h1; injection h1 with h1; injection h1 with _ h1
  exact h2 h1.symm
theorem TR.below {w W W' : World} {tb xb : Nat} {t : Tr} {L : List Ro} (h : TR w W tb xb t L) (hb : Below W.heap.size W W') : TR w W' tb xb t L := h.addA (Added.refl h.tab hb)
theorem TR.right {w W : World} {tb xb : Nat} {t : Tr} {L : List Ro} (h : TR w W tb xb t L) (e : t.ents = L) : L.Pairwise ltR ∧ ∀ x ∈ L, x.2.1 ≤ 32 ∧ rightB x.1 x.2.1 = true := by
  subst e
  exact ⟨ents_sorted _ h.tab.wf, ents_le h.tab.wf⟩
theorem rtab_nil {w W : World} {xb : Nat} (h : W.heap[xb]? = some (.cells #[.slice none 0 0] 28 (0, 0))) (hl : w.heap.size ≤ xb) : RTab W w.heap.size xb [] none 0 := by
  refine ⟨h, ⟨rfl, .inl ⟨rfl, rfl⟩⟩, hl, by simp⟩
/-- A block that holds a copy of one op. -/
def OC (V : World) (ob : Nat) (q : Opd) : Prop := V.heap[ob]? = some (.cells #[.int .i64 q.k, .int .u32 q.p.toNat, .int .i64 q.n, .int .i64 q.v] 32 (0, 0))
theorem Tab.noop {W : World} {tb : Nat} {t : Tr} (h : Tab W tb t) {ob : Nat} {q : Opd} (ho : OC W ob q) : ob ∉ tb :: t.blocks := by
  intro hx
  obtain ⟨rb, rv, rth, rl, rr, e, ht⟩ := h.root
  unfold OC at ho
  rcases List.mem_cons.1 hx with rfl | hx
  · rw [ho] at ht; injection ht with ht; injection ht with _ ht; revert ht; decide
  · obtain ⟨cs, h1⟩ := own_ty h.own ob hx
    rw [ho] at h1; injection h1 with h1; injection h1 with _ h1; revert h1; decide
theorem RTab.noop {W : World} {B xb : Nat} {L : List Ro} {qa : Option Addr} {qc : Nat} (h : RTab W B xb L qa qc) {ob : Nat} {q : Opd} (ho : OC W ob q) : ob ∉ [xb] := by
  intro hx
  simp at hx; subst hx
  have h1 := h.blk
  unfold OC at ho
  rw [ho] at h1; injection h1 with h1; injection h1 with _ h1; revert h1; decide
theorem OC.keep {W W' : World} {ob : Nat} {q : Opd} {S : List Nat} (h : OC W ob q) (hk : Keeps S W W') (hs : ob ∉ S) : OC W' ob q := (hk.block ob (lt_of_heap h) hs).trans h
theorem OC.cells {W : World} {ob : Nat} {q : Opd} (h : OC W ob q) : W.cell? ⟨ob, 1, none⟩ = some (.int .u32 q.p.toNat) ∧ W.cell? ⟨ob, 2, none⟩ = some (.int .i64 q.n) ∧ W.cell? ⟨ob, 3, none⟩ = some (.int .i64 q.v) := ⟨cell_row h 1, cell_row h 2, cell_row h 3⟩
theorem does_add {w V : World} {tb xb ob : Nat} {t : Tr} {q : Opd} (h : TR w V tb xb t t.ents) (ho : OC V ob q) :
    Calls Try.prog 10 #[ptr tb, .int .u32 q.p.toNat, .int .i64 q.n, .int .i64 q.v] V fun e w' => e = .returned (.int .i64 (addC t.ents q.p q.n)) ∧ ∃ t', Hid (t'.ents = addL t.ents q.p q.n q.v ∧ TR w w' tb xb t' t.ents ∧ OC w' ob q) :=
  (add_any h.tab q.p q.n q.v).mono fun _ _ ⟨he, t', h1, h2⟩ => ⟨he, t', h1, h.addA h2, ho.keep h2.keeps (h.tab.noop ho)⟩
theorem does_radd {w V : World} {tb xb ob : Nat} {t t' : Tr} {q : Opd} (hs : t.ents.Pairwise ltR) (hr : ∀ x ∈ t.ents, x.2.1 ≤ 32 ∧ rightB x.1 x.2.1 = true) (hq : I64 q.n) (h : t'.ents = addL t.ents q.p q.n q.v ∧ TR w V tb xb t' t.ents ∧ OC V ob q) :
    Calls Try.prog 11 #[ptr xb, .int .u32 q.p.toNat, .int .i64 q.n, .int .i64 q.v] V fun e w' => e = .returned (.int .i64 (addC t.ents q.p q.n)) ∧ Hid (TR w w' tb xb t' t'.ents ∧ OC w' ob q) := by
  obtain ⟨h1, h2, h3⟩ := h
  obtain ⟨qa, qc, hR⟩ := h2.ref
  refine (radd_any hR hs hr q.p q.n q.v hq h2.bel.size).mono fun e w' ⟨he, qa', qc', g1, g2⟩ => ⟨he, h2.addB ⟨qa', qc', by rw [h1]; exact g1⟩ g2, h3.keep g2 (hR.noop h3)⟩
theorem does_rem {w V : World} {tb xb ob : Nat} {t : Tr} {q : Opd} (h : TR w V tb xb t t.ents) (ho : OC V ob q) :
    Calls Try.prog 12 #[ptr tb, .int .u32 q.p.toNat, .int .i64 q.n] V fun e w' => e = .returned (.int .i64 (remC t.ents q.p q.n)) ∧ ∃ t', Hid (t'.ents = remL t.ents q.p q.n ∧ TR w w' tb xb t' t.ents ∧ OC w' ob q) :=
  (remove_any h.tab q.p q.n).mono fun _ _ ⟨he, t', h1, h2⟩ => ⟨he, t', h1, h.addA h2, ho.keep h2.keeps (h.tab.noop ho)⟩
theorem does_rrem {w V : World} {tb xb ob : Nat} {t t' : Tr} {q : Opd} (hs : t.ents.Pairwise ltR) (hq : I64 q.n) (h : t'.ents = remL t.ents q.p q.n ∧ TR w V tb xb t' t.ents ∧ OC V ob q) :
    Calls Try.prog 13 #[ptr xb, .int .u32 q.p.toNat, .int .i64 q.n] V fun e w' => e = .returned (.int .i64 (remC t.ents q.p q.n)) ∧ Hid (TR w w' tb xb t' t'.ents ∧ OC w' ob q) := by
  obtain ⟨h1, h2, h3⟩ := h
  obtain ⟨qa, qc, hR⟩ := h2.ref
  refine (rremove_any hR hs q.p q.n hq h2.bel.size).mono fun e w' ⟨he, qa', qc', g1, g2⟩ => ⟨he, h2.addB ⟨qa', qc', by rw [h1]; exact g1⟩ g2, h3.keep g2 (hR.noop h3)⟩
end Go.Proofs.Ytlopnagajhjmmaa
