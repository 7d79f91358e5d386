/- All of a zone: the loop under way. Conditions: as said. -/
import Derived.Test.YtjjehncnjcepkaaFD
import Derived.Test.YtjjehncnjcepkaaEN
import Derived.Maps.Range
import Derived.Maps.RangeRun
import Derived.Lib.Hide
namespace Go.Proofs.Ytjjehncnjcepkaa
open Go.RowKit
open Go.ChangeMaps (setBlock)
theorem filt_same (l : List (Tup × Value × Nat)) (seen : Array Nat) (b : Nat) (h : ∀ y ∈ l, y.2.2 ≠ b) : l.filter (fun y => (seen.push b).contains y.2.2) = l.filter (fun y => seen.contains y.2.2) := by
  refine List.filter_congr fun y hy => ?_
  rw [contains_push]
  simp [h y hy]
theorem filt_push : ∀ (l : List (Tup × Value × Nat)) (seen : Array Nat) (x : Tup × Value × Nat), (l.map (·.2.2)).Nodup → x ∈ l → seen.contains x.2.2 = false →
    (l.filter (fun y => (seen.push x.2.2).contains y.2.2)).Perm (x :: l.filter (fun y => seen.contains y.2.2))
  | [], _, _, _, h, _ => by simp at h
  | y :: r, seen, x, hn, hx, hs => by
    rw [List.map_cons, List.nodup_cons] at hn
    rcases List.mem_cons.1 hx with rfl | hx
    · have hne : ∀ z ∈ r, z.2.2 ≠ x.2.2 := fun z hz e => hn.1 (e ▸ List.mem_map_of_mem hz)
      have hp : (seen.push x.2.2).contains x.2.2 = true := by rw [contains_push]; simp
      simp only [List.filter_cons, hp, hs, if_true, if_false, Bool.false_eq_true]
      rw [filt_same r seen x.2.2 hne]
    · have hne : y.2.2 ≠ x.2.2 := fun e => hn.1 (e ▸ List.mem_map_of_mem hx)
      have ih := filt_push r seen x hn.2 hx hs
      cases hc : seen.contains y.2.2 with
      | true =>
        have hp : (seen.push x.2.2).contains y.2.2 = true := by rw [contains_push, hc]; rfl
        simp only [List.filter_cons, hp, hc, if_true]
        exact (List.Perm.cons y ih).trans (List.Perm.swap x y _)
      | false =>
        have hp : (seen.push x.2.2).contains y.2.2 = false := by rw [contains_push, hc]; simp [hne]
        simp only [List.filter_cons, hp, hc, if_false, Bool.false_eq_true]
        exact ih
theorem filt_all (l : List (Tup × Value × Nat)) (seen : Array Nat) (h : (leftOf (entG tv l).toArray seen).size = 0) : l.filter (fun y => seen.contains y.2.2) = l := by
  refine List.filter_eq_self.2 fun y hy => ?_
  cases hc : seen.contains y.2.2 with
  | true => rfl
  | false =>
    have : ({ key := tv y.1, val := y.2.1, born := y.2.2 } : MapEntry) ∈ (leftOf (entG tv l).toArray seen) := by
      unfold leftOf
      rw [Array.mem_filter]
      refine ⟨?_, by show (!seen.contains y.2.2) = true; rw [hc]; rfl⟩
      simp only [List.mem_toArray, entG]
      exact List.mem_map.2 ⟨y, hy, rfl⟩
    rw [Array.size_eq_zero_iff.1 h] at this
    simp at this
/-- The loop of All under way: w0 is the world ahead of the range. -/
structure AR (w0 w : World) (z : Int) (E : List Nat) (O : Nat → Tup) (g1 c1 : Nat) (l1 : List (Tup × Value × Nat)) (v : Value) (L : List Tup) (seen : Array Nat) : Prop where
  it : w.heap[w0.heap.size]? = some (.mapIter (some g1) c1 seen c1)
  low : Below w0.heap.size w0 w
  own : w.ownsRow (w0.heap.size + 1) 51 13 v L.length (rowC z L)
  size : w0.heap.size + 1 ≤ w.heap.size
  perm : L.Perm ((l1.filter fun y => seen.contains y.2.2).map (·.1))
theorem AR.left {w0 w : World} {z : Int} {E : List Nat} {O : Nat → Tup} {g1 c1 : Nat} {l1 : List (Tup × Value × Nat)} {v : Value} {L : List Tup} {seen : Array Nat} (h : AR w0 w z E O g1 c1 l1 v L seen) (hm : w0.heap[g1]? = some (.map (entG tv l1).toArray c1)) : w.rangeLeft g1 w0.heap.size = (leftOf (entG tv l1).toArray seen).size := by
  unfold World.rangeLeft
  rw [(h.low.block _ (lt_of_heap hm)).trans hm, h.it]
/-- A round: either nothing is left, or an entry comes. -/
theorem AR.step {w0 w : World} {z : Int} {E : List Nat} {O : Nat → Tup} {g1 c1 : Nat} {l1 : List (Tup × Value × Nat)} {v : Value} {L : List Tup} {seen : Array Nat} (h : AR w0 w z E O g1 c1 l1 v L seen) (hm : w0.heap[g1]? = some (.map (entG tv l1).toArray c1))
    (hborn : ∀ x ∈ l1, x.2.2 < c1) (hnb : (l1.map (·.2.2)).Nodup) (ty : TypeId) :
    ((Instr.next (.pointer (some ⟨w0.heap.size, 0, none⟩)) false ty).run Try.prog w = .ok (.tuple #[.bool false]) w ∧ L.Perm (l1.map (·.1))) ∨
    ∃ x ∈ l1, ∃ W, (Instr.next (.pointer (some ⟨w0.heap.size, 0, none⟩)) false ty).run Try.prog w = .ok (.tuple #[.bool true, tv x.1, x.2.1]) W ∧ (Instr.entry (.pointer (some ⟨w0.heap.size, 0, none⟩))).run Try.prog W = .ok (.tuple #[tv x.1, x.2.1]) W ∧
      W.heap[w0.heap.size]? = some (.mapIter (some g1) c1 (seen.push x.2.2) c1) ∧ Below w0.heap.size w0 W ∧ W.ownsRow (w0.heap.size + 1) 51 13 v L.length (rowC z L) ∧ w0.heap.size + 1 ≤ W.heap.size ∧
      (L ++ [x.1]).Perm ((l1.filter fun y => (seen.push x.2.2).contains y.2.2).map (·.1)) ∧ (leftOf (entG tv l1).toArray (seen.push x.2.2)).size < (leftOf (entG tv l1).toArray seen).size := by
  have hg1 : g1 < w0.heap.size := lt_of_heap hm
  have mw : w.heap[g1]? = some (.map (entG tv l1).toArray c1) := (h.low.block _ hg1).trans hm
  rcases run_next_at (P := Try.prog) w ty w0.heap.size g1 c1 c1 seen _ c1 h.it mw (fun x hx => by obtain ⟨y, hy, rfl⟩ := ent_mem hx; exact hborn y hy) (Nat.le_refl _) with ⟨h0, h1⟩ | ⟨y, hy, w1, hw1, hn⟩
  · refine .inl ⟨h1, ?_⟩
    have := h.perm
    rwa [filt_all l1 seen h0] at this
  · right
    obtain ⟨hy1, hy2⟩ := mem_left hy
    have hsh := left_shrinks _ _ _ hy
    obtain ⟨x, hx, rfl⟩ := ent_mem hy1
    have hr1 : w1.heap = w.heap := by rcases hw1 with rfl | rfl <;> rfl
    have ho : w1.os = w.os ∧ w1.tape = w.tape ∧ w1.output = w.output := by rcases hw1 with rfl | rfl <;> exact ⟨rfl, rfl, rfl⟩
    have hlt : w0.heap.size < w1.heap.size := by rw [hr1]; have := h.size; omega
    obtain ⟨W, hW⟩ : ∃ W, W = setBlock w1 w0.heap.size (.mapIter (some g1) c1 (seen.push x.2.2) c1) := ⟨_, rfl⟩
    have hW' : setBlock w1 w0.heap.size (.mapIter (some g1) c1 (seen.push x.2.2) c1) = W := hW.symm
    have far : ∀ k, k ≠ w0.heap.size → W.heap[k]? = w.heap[k]? := fun k hk => by rw [hW, setBlock_other w1 hk, hr1]
    have iW : W.heap[w0.heap.size]? = some (.mapIter (some g1) c1 (seen.push x.2.2) c1) := by rw [hW]; exact setBlock_same hlt _
    have mW : W.heap[g1]? = some (.map (entG tv l1).toArray c1) := (far _ (by omega)).trans mw
    have hen := run_entry_at (P := Try.prog) W w0.heap.size g1 c1 seen _ c1 _ iW mW hy1 (by simpa [entG, Function.comp_def] using hnb)
    rw [hW'] at hn
    dsimp only at hn hen
    have sW : W.heap.size = w.heap.size := by rw [hW]; simp [setBlock, hr1]
    refine ⟨x, hx, W, hn, hen, iW, ⟨by rw [hW]; exact ho.1.trans h.low.os, by rw [hW]; exact ho.2.1.trans h.low.tape, by rw [hW]; exact ho.2.2.trans h.low.output, by rw [sW]; exact h.low.size, fun k hk => (far k (by omega)).trans (h.low.block k hk)⟩, ?_, by rw [sW]; exact h.size, ?_, hsh⟩
    · refine ⟨h.own.1, ?_⟩
      rcases h.own.2 with h9 | ⟨g, cap, cur, e1, e2, e3, e4⟩
      · exact .inl h9
      · exact .inr ⟨g, cap, cur, e1, e2, (far _ (by omega)).trans e3, e4⟩
    · have hp := (filt_push l1 seen x hnb hx hy2).map (·.1)
      refine List.Perm.trans ?_ hp.symm
      refine (List.perm_append_comm).trans ?_
      exact List.Perm.cons _ h.perm
/-- Behind a round: one connection more. -/
theorem AR.next {w0 W W' : World} {z : Int} {E : List Nat} {O : Nat → Tup} {g1 c1 : Nat} {l1 : List (Tup × Value × Nat)} {v v' : Value} {L : List Tup} {seen : Array Nat} {x : Tup × Value × Nat}
    (iW : W.heap[w0.heap.size]? = some (.mapIter (some g1) c1 (seen.push x.2.2) c1)) (bW : Below w0.heap.size w0 W) (oW : W.ownsRow (w0.heap.size + 1) 51 13 v L.length (rowC z L)) (sW : w0.heap.size + 1 ≤ W.heap.size)
    (pW : (L ++ [x.1]).Perm ((l1.filter fun y => (seen.push x.2.2).contains y.2.2).map (·.1))) (own' : W'.ownsRow (w0.heap.size + 1) 51 13 v' (L ++ [x.1]).length (rowC z (L ++ [x.1]))) (gr : W.grownBy W' v.ownBlock) : AR w0 W' z E O g1 c1 l1 v' (L ++ [x.1]) (seen.push x.2.2) := by
  have nb : ∀ k, k < w0.heap.size + 1 → W'.heap[k]? = W.heap[k]? := fun k hk => by
    refine gr.block k (by omega) ?_
    rcases oW.2 with ⟨e, _⟩ | ⟨g, cap, cur, e, hg, _⟩
    · rw [e]; simp [Value.ownBlock]
    · rw [e]; simp [Value.ownBlock]; omega
  exact ⟨(nb _ (by omega)).trans iW, ⟨gr.os.trans bW.os, gr.tape.trans bW.tape, gr.output.trans bW.output, by have := gr.size; have := bW.size; omega, fun k hk => (nb k (by omega)).trans (bW.block k hk)⟩, own', by have := gr.size; omega, pW⟩
end Go.Proofs.Ytjjehncnjcepkaa
