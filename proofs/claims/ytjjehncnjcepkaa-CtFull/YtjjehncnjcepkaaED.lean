/- Drop of a zone whose connections end at one time. Conditions: as said. -/
import Derived.Test.YtjjehncnjcepkaaEC
import Derived.Maps.Range
import Derived.Maps.RangeRun
import Derived.Lib.Hide
namespace Go.Proofs.Ytjjehncnjcepkaa
open Go.RowKit
open Go.ChangeMaps (setBlock)
theorem setBlock_same {w : World} {r : Nat} (h : r < w.heap.size) (o : Obj) : (setBlock w r o).heap[r]? = some o := Array.getElem?_setIfInBounds_self_of_lt h
theorem setBlock_other (w : World) {r k : Nat} (h : k ≠ r) (o : Obj) : (setBlock w r o).heap[k]? = w.heap[k]? := Array.getElem?_setIfInBounds_ne (fun e => h e.symm)
/-- The loop of Drop under way. -/
structure DR (w0 w : World) (tb zb qg qc : Nat) (room z : Int) (E0 : List Nat) (O : Nat → Tup) (r g1 g2 zs cz c1 : Nat) (l1 : List (Tup × Value × Nat)) (seen : Array Nat) : Prop where
  it : w.heap[r]? = some (.mapIter (some g1) c1 seen c1)
  m1 : w.heap[g1]? = some (.map (entG tv l1).toArray c1)
  zm : w.heap[zb]? = some (.map (entG iv [(z, .agg #[.map (some g1), .map (some g2)], zs)]).toArray cz)
  qb : ∃ Q E, QB w tb zb qg qc room 0 Q E z O 30 ∧ (∀ x ∈ l1, seen.contains x.2.2 = false → ∃ e ∈ E, x.2.1 = .pointer (some ⟨e, 0, none⟩)) ∧ ∀ x ∈ E, x ∈ E0
  low : ∀ B, B ≤ w0.heap.size → B ≤ tb → B ≤ qg → (∀ x ∈ E0, B ≤ x) → Below B w0 w
  size : w.heap.size = r + 1
theorem DR.left {w0 w : World} {tb zb qg qc : Nat} {room z : Int} {E0 : List Nat} {O : Nat → Tup} {r g1 g2 zs cz c1 : Nat} {l1 : List (Tup × Value × Nat)} {seen : Array Nat} (h : DR w0 w tb zb qg qc room z E0 O r g1 g2 zs cz c1 l1 seen) : w.rangeLeft g1 r = (leftOf (entG tv l1).toArray seen).size := by
  unfold World.rangeLeft
  rw [h.m1, h.it]
theorem ent_mem {l1 : List (Tup × Value × Nat)} {e : MapEntry} (h : e ∈ (entG tv l1).toArray.toList) : ∃ x ∈ l1, e = { key := tv x.1, val := x.2.1, born := x.2.2 } := by
  simp only [entG, List.mem_map] at h
  obtain ⟨x, hx, rfl⟩ := h
  exact ⟨x, hx, rfl⟩
/-- A round: either nothing is left, or an entry comes. -/
theorem DR.step {w0 w : World} {tb zb qg qc : Nat} {room z : Int} {E0 : List Nat} {O : Nat → Tup} {r g1 g2 zs cz c1 : Nat} {l1 : List (Tup × Value × Nat)} {seen : Array Nat} (h : DR w0 w tb zb qg qc room z E0 O r g1 g2 zs cz c1 l1 seen) (hborn : ∀ x ∈ l1, x.2.2 < c1) (hnb : (l1.map (·.2.2)).Nodup) (hb0 : w0.heap.size ≤ r) (ty : TypeId) :
    (Instr.next (.pointer (some ⟨r, 0, none⟩)) false ty).run Try.prog w = .ok (.tuple #[.bool false]) w ∨
    ∃ x ∈ l1, ∃ e W, x.2.1 = .pointer (some ⟨e, 0, none⟩) ∧ seen.contains x.2.2 = false ∧ (Instr.next (.pointer (some ⟨r, 0, none⟩)) false ty).run Try.prog w = .ok (.tuple #[.bool true, tv x.1, .pointer (some ⟨e, 0, none⟩)]) W ∧ (Instr.entry (.pointer (some ⟨r, 0, none⟩))).run Try.prog W = .ok (.tuple #[tv x.1, .pointer (some ⟨e, 0, none⟩)]) W ∧
      DR w0 W tb zb qg qc room z E0 O r g1 g2 zs cz c1 l1 (seen.push x.2.2) ∧ (leftOf (entG tv l1).toArray (seen.push x.2.2)).size < (leftOf (entG tv l1).toArray seen).size ∧
      ∃ Q E, QB W tb zb qg qc room 0 Q E z O 30 ∧ (∀ x ∈ l1, seen.contains x.2.2 = false → ∃ e ∈ E, x.2.1 = .pointer (some ⟨e, 0, none⟩)) ∧ ∀ x ∈ E, x ∈ E0 := by
  rcases run_next_at (P := Try.prog) w ty r g1 c1 c1 seen _ c1 h.it h.m1 (fun x hx => by obtain ⟨y, hy, rfl⟩ := ent_mem hx; exact hborn y hy) (Nat.le_refl _) with ⟨_, h1⟩ | ⟨y, hy, w1, hw1, hn⟩
  · exact .inl h1
  · right
    obtain ⟨hy1, hy2⟩ := mem_left hy
    have hsh := left_shrinks _ _ _ hy
    obtain ⟨x, hx, rfl⟩ := ent_mem hy1
    obtain ⟨Q, E, q1, q2, q3⟩ := h.qb
    obtain ⟨e, he, hxe⟩ := q2 x hx hy2
    have hr1 : w1.heap = w.heap := by rcases hw1 with rfl | rfl <;> rfl
    have ho : w1.os = w.os ∧ w1.tape = w.tape ∧ w1.output = w.output := by rcases hw1 with rfl | rfl <;> exact ⟨rfl, rfl, rfl⟩
    have hlt : r < w1.heap.size := by rw [hr1, h.size]; omega
    obtain ⟨W, hW⟩ : ∃ W, W = setBlock w1 r (.mapIter (some g1) c1 (seen.push x.2.2) c1) := ⟨_, rfl⟩
    have hW' : setBlock w1 r (.mapIter (some g1) c1 (seen.push x.2.2) c1) = W := hW.symm
    have far : ∀ k, k ≠ r → W.heap[k]? = w.heap[k]? := fun k hk => by rw [hW, setBlock_other w1 hk, hr1]
    have nr : ∀ {k : Nat} {A : Array Value} {t : TypeId}, w.heap[k]? = some (.cells A t (0, 0)) → k ≠ r := fun {k A t} hk q => by subst q; rw [h.it] at hk; cases hk
    have nm : ∀ {k : Nat} {A : Array MapEntry} {c : Nat}, w.heap[k]? = some (.map A c) → k ≠ r := fun {k A t} hk q => by subst q; rw [h.it] at hk; cases hk
    have qW : QB W tb zb qg qc room 0 Q E z O 30 := ⟨(far _ (nr q1.t)).trans q1.t, (far _ (nr q1.q)).trans q1.q, q1.cap, q1.room, q1.row, fun i e' hi => (far _ (nr (q1.en i e' hi))).trans (q1.en i e' hi)⟩
    have iW : W.heap[r]? = some (.mapIter (some g1) c1 (seen.push x.2.2) c1) := by rw [hW]; exact setBlock_same hlt _
    have mW : W.heap[g1]? = some (.map (entG tv l1).toArray c1) := (far _ (nm h.m1)).trans h.m1
    have hen := run_entry_at (P := Try.prog) W r g1 c1 seen _ c1 _ iW mW hy1 (by simpa [entG, Function.comp_def] using hnb)
    rw [hW'] at hn
    dsimp only at hn hen
    rw [hxe] at hn hen
    have sW : W.heap.size = r + 1 := by rw [hW]; simp [setBlock, hr1, h.size]
    refine ⟨x, hx, e, W, hxe, hy2, hn, hen, ⟨iW, mW, (far _ (nm h.zm)).trans h.zm, ⟨Q, E, qW, fun x' hx' hs' => q2 x' hx' (by rw [contains_push] at hs'; simp at hs' ⊢; exact hs'.1), q3⟩, fun B b1 b2 b3 b4 => ?_, sW⟩, hsh, Q, E, qW, q2, q3⟩
    have hl := h.low B b1 b2 b3 b4
    refine ⟨by rw [hW]; exact ho.1.trans hl.os, by rw [hW]; exact ho.2.1.trans hl.tape, by rw [hW]; exact ho.2.2.trans hl.output, by rw [sW, ← h.size]; exact hl.size, fun k hk => (far k (by omega)).trans (hl.block k hk)⟩
/-- Behind a round: the entry is out of the queue. -/
theorem DR.next {w0 w w' : World} {tb zb qg qc : Nat} {room z : Int} {E0 E : List Nat} {Q : Array Value} {O : Nat → Tup} {r g1 g2 zs cz c1 : Nat} {l1 : List (Tup × Value × Nat)} {seen : Array Nat} {x : Tup × Value × Nat} {e : Nat}
    (h : DR w0 w tb zb qg qc room z E0 O r g1 g2 zs cz c1 l1 (seen.push x.2.2)) (hq : QB w tb zb qg qc room 0 Q E z O 30) (q2 : ∀ x ∈ l1, seen.contains x.2.2 = false → ∃ e ∈ E, x.2.1 = .pointer (some ⟨e, 0, none⟩)) (q3 : ∀ x ∈ E, x ∈ E0) (hx : x ∈ l1) (hxe : x.2.1 = .pointer (some ⟨e, 0, none⟩))
    (hv : ∀ a ∈ l1, ∀ b ∈ l1, a.2.1 = b.2.1 → a.2.2 = b.2.2) (hr : Rem w w' tb zb qg qc room 0 E e z O 30) :
    DR w0 w' tb zb qg qc room z E0 O r g1 g2 zs cz c1 l1 (seen.push x.2.2) := by
  obtain ⟨⟨Q', E', a, b, c, d⟩, far, sz, low⟩ := hr
  have nE : ∀ {k : Nat}, (∀ A, w.heap[k]? ≠ some (.cells A 68 (0, 0))) → k ∉ E := fun {k} hk hm => by obtain ⟨i, hi⟩ := mem_get.1 hm; exact hk _ (hq.en i k hi)
  have nt : ∀ {k : Nat} {o : Obj}, w.heap[k]? = some o → (∀ A t, o ≠ .cells A t (0, 0)) → k ≠ tb := fun {k o} hk ho q => by subst q; rw [hq.t] at hk; cases hk; exact ho _ _ rfl
  have nq : ∀ {k : Nat} {o : Obj}, w.heap[k]? = some o → (∀ A t, o ≠ .cells A t (0, 0)) → k ≠ qg := fun {k o} hk ho q => by subst q; rw [hq.q] at hk; cases hk; exact ho _ _ rfl
  have keep : ∀ {k : Nat} {o : Obj}, w.heap[k]? = some o → (∀ A t, o ≠ .cells A t (0, 0)) → w'.heap[k]? = some o := fun {k o} hk ho =>
    (far k (nt hk ho) (nq hk ho) (nE (fun A q => by rw [hk] at q; exact ho A _ (Option.some.inj q)))).trans hk
  refine ⟨keep h.it (fun A t q => by cases q), keep h.m1 (fun A t q => by cases q), keep h.zm (fun A t q => by cases q), ⟨Q', E', a, fun y hy hs => ?_, fun y hy => q3 y (d y hy)⟩, fun B b1 b2 b3 b4 => (h.low B b1 b2 b3 b4).trans (low B b2 b3 (fun y hy => b4 y (q3 y hy))), sz.trans h.size⟩
  rw [contains_push] at hs
  simp only [Bool.or_eq_false_iff] at hs
  obtain ⟨e', he', hye⟩ := q2 y hy hs.1
  refine ⟨e', c e' he' (fun q => ?_), hye⟩
  subst q
  have := hv y hy x hx (hye.trans hxe.symm)
  rw [this] at hs
  simp at hs
end Go.Proofs.Ytjjehncnjcepkaa
