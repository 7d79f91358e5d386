/- Find: the loop under way. Conditions: as said. -/
import Derived.Test.YtijeakggeichcaaGreatDoorQN
import Derived.Maps.Range
import Derived.Maps.RangeRun
import Derived.Lib.Hide
namespace Go.Proofs.YtijeakggeichcaaGreatDoor
open Go.RowKit
open Go.ChangeMaps (setBlock)
theorem setBlock_same {w : World} {r : Nat} (h : r < w.heap.size) (o : Obj) : (setBlock w r o).heap[r]? = some o := Array.getElem?_setIfInBounds_self_of_lt h
theorem setBlock_other (w : World) {r k : Nat} (h : k ≠ r) (o : Obj) : (setBlock w r o).heap[k]? = w.heap[k]? := Array.getElem?_setIfInBounds_ne (fun e => h e.symm)
theorem ent_mem {K : Type} {kv : K → Value} {l1 : List (K × Value × Nat)} {e : MapEntry} (h : e ∈ (entG kv l1).toArray.toList) : ∃ x ∈ l1, e = { key := kv x.1, val := x.2.1, born := x.2.2 } := by
  simp only [entG, List.mem_map] at h
  obtain ⟨x, hx, rfl⟩ := h
  exact ⟨x, hx, rfl⟩
theorem left_none {K : Type} {kv : K → Value} {l : List (K × Value × Nat)} {seen : Array Nat} (h : (leftOf (entG kv l).toArray seen).size = 0) : ∀ y ∈ l, seen.contains y.2.2 = true := by
  intro y hy
  cases hc : seen.contains y.2.2 with
  | true => rfl
  | false =>
    have : ({ key := kv y.1, val := y.2.1, born := y.2.2 } : MapEntry) ∈ (leftOf (entG kv l).toArray seen) := by
      unfold leftOf
      rw [Array.mem_filter]
      refine ⟨?_, by show (!seen.contains y.2.2) = true; rw [hc]; rfl⟩
      simp only [List.mem_toArray, entG]
      exact List.mem_map.2 ⟨y, hy, rfl⟩
    rw [Array.size_eq_zero_iff.1 h] at this
    simp at this
theorem iter_step {K : Type} {kv : K → Value} {w : World} {it r c : Nat} {seen : Array Nat} {l : List (K × Value × Nat)} (hit : w.heap[it]? = some (.mapIter (some r) c seen c)) (hm : w.heap[r]? = some (.map (entG kv l).toArray c))
    (hborn : ∀ x ∈ l, x.2.2 < c) (hnb : (l.map (·.2.2)).Nodup) (ty : TypeId) :
    ((Instr.next (.pointer (some ⟨it, 0, none⟩)) false ty).run Tryz.prog w = .ok (.tuple #[.bool false]) w ∧ ∀ x ∈ l, seen.contains x.2.2 = true) ∨
    ∃ x ∈ l, ∃ W, seen.contains x.2.2 = false ∧ (Instr.next (.pointer (some ⟨it, 0, none⟩)) false ty).run Tryz.prog w = .ok (.tuple #[.bool true, kv x.1, x.2.1]) W ∧ (Instr.entry (.pointer (some ⟨it, 0, none⟩))).run Tryz.prog W = .ok (.tuple #[kv x.1, x.2.1]) W ∧
      W.heap[it]? = some (.mapIter (some r) c (seen.push x.2.2) c) ∧ But it w W ∧ (leftOf (entG kv l).toArray (seen.push x.2.2)).size < (leftOf (entG kv l).toArray seen).size := by
  rcases run_next_at (P := Tryz.prog) w ty it r c c seen _ c hit hm (fun x hx => by obtain ⟨y, hy, rfl⟩ := ent_mem hx; exact hborn y hy) (Nat.le_refl _) with ⟨h0, h1⟩ | ⟨y, hy, w1, hw1, hn⟩
  · exact .inl ⟨h1, left_none h0⟩
  · right
    obtain ⟨hy1, hy2⟩ := mem_left hy
    have hsh := left_shrinks _ _ _ hy
    obtain ⟨x, hx, rfl⟩ := ent_mem hy1
    have hr1 : w1.heap = w.heap := by rcases hw1 with rfl | rfl <;> rfl
    have ho : w1.os = w.os ∧ w1.tape = w.tape ∧ w1.output = w.output := by rcases hw1 with rfl | rfl <;> exact ⟨rfl, rfl, rfl⟩
    have hlt : it < w1.heap.size := by rw [hr1]; exact lt_of_heap hit
    obtain ⟨W, hW⟩ : ∃ W, W = setBlock w1 it (.mapIter (some r) c (seen.push x.2.2) c) := ⟨_, rfl⟩
    have hW' : setBlock w1 it (.mapIter (some r) c (seen.push x.2.2) c) = W := hW.symm
    have far : ∀ k, k ≠ it → W.heap[k]? = w.heap[k]? := fun k hk => by rw [hW, setBlock_other w1 hk, hr1]
    have iW : W.heap[it]? = some (.mapIter (some r) c (seen.push x.2.2) c) := by rw [hW]; exact setBlock_same hlt _
    have hne : r ≠ it := fun e => by subst e; rw [hit] at hm; cases hm
    have mW : W.heap[r]? = some (.map (entG kv l).toArray c) := (far _ hne).trans hm
    have hen := run_entry_at (P := Tryz.prog) W it r c seen _ c _ iW mW hy1 (by simpa [entG, Function.comp_def] using hnb)
    rw [hW'] at hn
    dsimp only at hn hen
    have sW : W.heap.size = w.heap.size := by rw [hW]; simp [setBlock, hr1]
    exact ⟨x, hx, W, hy2, hn, hen, iW, ⟨fun g _ hg => far g hg, by rw [sW]; exact Nat.le_refl _, by rw [hW]; exact ho.1, by rw [hW]; exact ho.2.1, by rw [hW]; exact ho.2.2⟩, hsh⟩
/-- An entry's rule. -/
def EntAt (w : World) (e : Nat) (p id : Int) (ts : List Tm) : Prop := ∃ s tb at_, w.heap[e]? = some (.cells (enC p s id tb at_) 74 (0, 0)) ∧ TV w s ts
theorem EntAt.of {w w' : World} {e : Nat} {p id : Int} {ts : List Tm} (h : EntAt w e p id ts) (hb : Below w.heap.size w w') : EntAt w' e p id ts := by
  obtain ⟨s, tb, at_, h1, h2⟩ := h
  exact ⟨s, tb, at_, (hb.block _ (lt_of_heap h1)).trans h1, h2.below hb⟩
/-- The first of two entries. -/
def Ahead (w : World) (e' e : Nat) : Prop := ∃ p a ts q b us, EntAt w e' p a ts ∧ EntAt w e q b us ∧ ordI p a q b < 0
/-- A tuple of a classifier. -/
def TupOk (w : World) (x : ByteArray × Value × Nat) (sh : List Tm) (lq : List (ByteArray × Value × Nat)) : Prop :=
  ∃ tb s mk qm c, x.2.1 = .pointer (some ⟨tb, 0, none⟩) ∧ w.heap[tb]? = some (.cells (tuC x.1 s mk qm) 90 (0, 0)) ∧ TV w s sh ∧ sh.length ≤ 28 ∧ (∀ t ∈ sh, 1 ≤ t.f ∧ t.f ≤ 28) ∧ w.heap[qm]? = some (.map (entG sv lq).toArray c) ∧ ∀ y ∈ lq, ∃ e, FirstQ w y.2.1 e ∧ ∃ p id ts, EntAt w e p id ts
theorem FirstQ.of {w w' : World} {v : Value} {e : Nat} (h : FirstQ w v e) (hb : Below w.heap.size w w') : FirstQ w' v e := by
  obtain ⟨qb, g, n, cap, R, rfl, q1, q2, q3, q4, q5⟩ := h
  exact ⟨qb, g, n, cap, R, rfl, (hb.block _ (lt_of_heap q1)).trans q1, q2, q3, (hb.block _ (lt_of_heap q4)).trans q4, q5⟩
theorem FirstQ.back {w w' : World} {v : Value} {e e' : Nat} (h' : FirstQ w v e') (h : FirstQ w' v e) (hb : Below w.heap.size w w') : e = e' := by
  obtain ⟨qb, g, n, cap, R, rfl, q1, _, _, q4, q5⟩ := h'
  obtain ⟨qb2, g2, n2, cap2, R2, e2, p1, _, _, p4, p5⟩ := h
  cases e2
  rw [(hb.block _ (lt_of_heap q1)).trans q1] at p1
  cases p1
  rw [(hb.block _ (lt_of_heap q4)).trans q4] at p4
  cases p4
  rw [q5] at p5
  cases p5
  rfl
theorem TupOk.of {w w' : World} {x : ByteArray × Value × Nat} {sh : List Tm} {lq : List (ByteArray × Value × Nat)} (h : TupOk w x sh lq) (hb : Below w.heap.size w w') : TupOk w' x sh lq := by
  obtain ⟨tb, s, mk, qm, c, h1, h2, h3, h4, h5, h6, h7⟩ := h
  refine ⟨tb, s, mk, qm, c, h1, (hb.block _ (lt_of_heap h2)).trans h2, h3.below hb, h4, h5, (hb.block _ (lt_of_heap h6)).trans h6, fun y hy => ?_⟩
  obtain ⟨e, f1, p, id, ts, f2⟩ := h7 y hy
  exact ⟨e, f1.of hb, p, id, ts, f2.of hb⟩
/-- What is found so far. -/
def Best (w : World) (cs : Array Value) (sh : ByteArray × Value × Nat → List Tm) (lq : ByteArray × Value × Nat → List (ByteArray × Value × Nat)) (l : List (ByteArray × Value × Nat)) (seen : Array Nat) (r : Option Nat) : Prop :=
  (∀ x ∈ l, seen.contains x.2.2 = true → ∀ e', FirstR w cs (sh x) (lq x) (some ⟨e', 0, none⟩) → ∃ e, r = some e ∧ ¬ Ahead w e' e) ∧ ∀ e, r = some e → ∃ x ∈ l, seen.contains x.2.2 = true ∧ FirstR w cs (sh x) (lq x) (some ⟨e, 0, none⟩)
end Go.Proofs.YtijeakggeichcaaGreatDoor
