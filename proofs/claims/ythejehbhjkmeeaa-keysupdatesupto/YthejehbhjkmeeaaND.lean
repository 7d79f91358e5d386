/- The names that rows of a kind have, rising: the document's own way. Conditions: the rows can be read. -/
import Derived.Test.YthejehbhjkmeeaaNC
namespace Go.Proofs.Ythejehbhjkmeeaa
open Go.RowKit
theorem sorted_eq : ∀ {l m : List ByteArray}, l.Pairwise nlt → m.Pairwise nlt → (∀ x, x ∈ l ↔ x ∈ m) → l = m
  | [], [], _, _, _ => rfl
  | [], y :: m, _, _, h => by have := (h y).2 (by simp); simp at this
  | x :: l, [], _, _, h => by have := (h x).1 (by simp); simp at this
  | x :: l, y :: m, hl, hm, h => by
    rw [List.pairwise_cons] at hl hm
    have e : x = y := by
      rcases List.mem_cons.1 ((h x).1 (by simp)) with e | hx
      · exact e
      · rcases List.mem_cons.1 ((h y).2 (by simp)) with e | hy
        · exact e.symm
        · exact absurd (nlt_trans (hl.1 y hy) (hm.1 x hx)) (fun hh => nlt_ne hh rfl)
    subst e
    rw [sorted_eq hl.2 hm.2 (fun z => ?_)]
    constructor
    · intro hz
      rcases List.mem_cons.1 ((h z).1 (by simp [hz])) with e | hz'
      · exact absurd e (fun e => nlt_ne (hl.1 z hz) e.symm)
      · exact hz'
    · intro hz
      rcases List.mem_cons.1 ((h z).2 (by simp [hz])) with e | hz'
      · exact absurd e (fun e => nlt_ne (hm.1 z hz) e.symm)
      · exact hz'
theorem nlt_total {a b : ByteArray} (h1 : ¬ nlt a b) (h2 : a ≠ b) : nlt b a := by
  unfold nlt at *
  rcases List.le_iff_lt_or_eq.1 (List.le_total b.data.toList a.data.toList |>.resolve_right (fun h => by
    rcases List.le_iff_lt_or_eq.1 h with h | h
    · exact h1 h
    · exact h2 (by cases a; cases b; simpa using h))) with h | h
  · exact h
  · exact absurd (by cases a; cases b; simpa using h.symm) h2
theorem ins_pair {N : List ByteArray} {n : ByteArray} {j : Nat} (hN : N.Pairwise nlt) (h1 : ∀ i x, i < j → N[i]? = some x → nlt x n) (h2 : ∀ x, N[j]? = some x → nlt n x) : (N.take j ++ [n] ++ N.drop j).Pairwise nlt := by
  have hd : ∀ x ∈ N.drop j, nlt n x := by
    intro x hx
    obtain ⟨i, hi, rfl⟩ := List.mem_iff_getElem.1 hx
    rw [List.length_drop] at hi
    have h0 : nlt n (N[j]'(by omega)) := h2 _ (List.getElem?_eq_getElem (by omega))
    rw [List.getElem_drop]
    cases i with
    | zero => exact h0
    | succ i => exact nlt_trans h0 (List.pairwise_iff_getElem.1 hN j (j + (i + 1)) (by omega) (by omega) (by omega))
  have ht : ∀ x ∈ N.take j, nlt x n := by
    intro x hx
    obtain ⟨i, hi, rfl⟩ := List.mem_iff_getElem.1 hx
    rw [List.length_take] at hi
    rw [List.getElem_take]
    exact h1 i _ (by omega) (List.getElem?_eq_getElem (by omega))
  rw [List.append_assoc, List.pairwise_append]
  refine ⟨hN.sublist (List.take_sublist _ _), ?_, fun x hx y hy => ?_⟩
  · rw [List.singleton_append, List.pairwise_cons]
    exact ⟨hd, hN.sublist (List.drop_sublist _ _)⟩
  · rcases List.mem_cons.1 (by simpa using hy) with e | hy
    · rw [e]; exact ht x hx
    · exact nlt_trans (ht x hx) (hd y hy)
theorem ins_mem {N : List ByteArray} {n x : ByteArray} {j : Nat} : x ∈ N.take j ++ [n] ++ N.drop j ↔ x = n ∨ x ∈ N := by
  conv => rhs; rw [← List.take_append_drop j N]
  simp only [List.mem_append, List.mem_singleton]
  constructor
  · rintro ((h | h) | h)
    · exact .inr (.inl h)
    · exact .inl h
    · exact .inr (.inr h)
  · rintro (h | h | h)
    · exact .inl (.inr h)
    · exact .inl (.inl h)
    · exact .inr h
theorem addN_mem {D : List ByteArray} {n x : ByteArray} : x ∈ addN D n ↔ x = n ∨ x ∈ D := by
  unfold addN
  split
  · rename_i h
    exact ⟨.inr, fun h' => h'.elim (fun e => by rw [e]; exact h) id⟩
  · simp only [List.mem_append, List.mem_singleton]
    exact ⟨fun h => h.elim .inr .inl, fun h => h.elim .inr .inl⟩
theorem own_addr {w : World} {base : Nat} {a : Option Addr} {n cap : Nat} {e : TypeId} {xs : List Value} (h : w.ownsRow base e 1 (.slice a n cap) n xs) : (a = none ∧ n = 0 ∧ cap = 0) ∨ ∃ g, a = some ⟨g, 0, none⟩ ∧ n ≤ cap := by
  rcases h.2 with ⟨h0, h1⟩ | ⟨g, cap', cur, e1, hb, hcells, hnc, _⟩
  · cases h0; exact .inl ⟨rfl, rfl, rfl⟩
  · cases e1; exact .inr ⟨g, rfl, hnc⟩
theorem sl_head {a : Option Addr} {n cap j : Nat} (ha : (a = none ∧ n = 0 ∧ cap = 0) ∨ ∃ g, a = some ⟨g, 0, none⟩ ∧ n ≤ cap) (hj : j ≤ n) (hm : n ≤ 1034834473201) : ∀ W : World, (Instr.slice 53 (.slice a n cap) none (some (.int .i64 j)) none).run Try.prog W = .ok (.slice a j cap) W := by
  intro W
  rcases ha with ⟨rfl, rfl, rfl⟩ | ⟨g, rfl, hc⟩
  · obtain rfl : j = 0 := by omega
    kernel_rfl
  · simp [go_sem, show (j : Int) ≤ (cap : Int) from by omega]
theorem sl_tail {a : Option Addr} {n cap j : Nat} (ha : (a = none ∧ n = 0 ∧ cap = 0) ∨ ∃ g, a = some ⟨g, 0, none⟩ ∧ n ≤ cap) (hj : j ≤ n) : ∃ a', (∀ W : World, (Instr.slice 53 (.slice a n cap) (some (.int .i64 j)) none none).run Try.prog W = .ok (.slice a' (n - j) (cap - j)) W) ∧ (n - j = 0 ∨ ∃ g, a = some ⟨g, 0, none⟩ ∧ a' = some ⟨g, 0 + j, none⟩) := by
  rcases ha with ⟨rfl, rfl, rfl⟩ | ⟨g, rfl, hc⟩
  · obtain rfl : j = 0 := by omega
    exact ⟨none, fun W => by kernel_rfl, .inl rfl⟩
  · refine ⟨if cap = j then some ⟨g, 0, none⟩ else some ⟨g, 0 + j, none⟩, fun W => ?_, ?_⟩
    · simp [go_sem, show (j : Int) ≤ (n : Int) from by omega]
      try (split <;> simp_all)
    · by_cases h : cap = j
      · exact .inl (by omega)
      · exact .inr ⟨g, rfl, if_neg h⟩
end Go.Proofs.Ythejehbhjkmeeaa
