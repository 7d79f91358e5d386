/- A list of one action; a row with some cells put; CheckAll of one Clone of hops. Conditions: as said. -/
import Derived.Test.YtikbjckcnidimaaGreatDoorAJ
import Derived.Test.YtikbjckcnidimaaGreatDoorFZ
import Derived.Laws.MakeOwn
namespace Go.Proofs.YtikbjckcnidimaaGreatDoor
open Go.RowKit
theorem fifteen {A : Array Value} (h : A.size = 15) : ∃ a0 a1 a2 a3 a4 a5 a6 a7 a8 a9 a10 a11 a12 a13 a14, A = #[a0, a1, a2, a3, a4, a5, a6, a7, a8, a9, a10, a11, a12, a13, a14] := by
  obtain ⟨l⟩ := A
  have hl : l.length = 15 := by simpa using h
  obtain ⟨a0, l0, rfl, k0⟩ := list_cons hl
  obtain ⟨a1, l1, rfl, k1⟩ := list_cons k0
  obtain ⟨a2, l2, rfl, k2⟩ := list_cons k1
  obtain ⟨a3, l3, rfl, k3⟩ := list_cons k2
  obtain ⟨a4, l4, rfl, k4⟩ := list_cons k3
  obtain ⟨a5, l5, rfl, k5⟩ := list_cons k4
  obtain ⟨a6, l6, rfl, k6⟩ := list_cons k5
  obtain ⟨a7, l7, rfl, k7⟩ := list_cons k6
  obtain ⟨a8, l8, rfl, k8⟩ := list_cons k7
  obtain ⟨a9, l9, rfl, k9⟩ := list_cons k8
  obtain ⟨a10, l10, rfl, k10⟩ := list_cons k9
  obtain ⟨a11, l11, rfl, k11⟩ := list_cons k10
  obtain ⟨a12, l12, rfl, k12⟩ := list_cons k11
  obtain ⟨a13, l13, rfl, k13⟩ := list_cons k12
  obtain ⟨a14, l14, rfl, k14⟩ := list_cons k13
  obtain rfl := List.length_eq_zero_iff.1 k14
  exact ⟨a0, a1, a2, a3, a4, a5, a6, a7, a8, a9, a10, a11, a12, a13, a14, rfl⟩
theorem run_build1 {A : Array Value} (h : A.size = 15) (w : World) : (Instr.buildSlice 23 1 #[(0, .agg A)]).run Tryz.prog w = .ok (.slice (some ⟨w.heap.size, 0, none⟩) 1 1) (w.alloc (.cells A 29)) := by
  obtain ⟨a0, a1, a2, a3, a4, a5, a6, a7, a8, a9, a10, a11, a12, a13, a14, rfl⟩ := fifteen h
  kernel_rfl
theorem wpList_build1 {ops : Array Oper} {rest : List Oper} {op : Oper} {a : Act} {w : World} {Q : Exit → Act → World → Prop} (hgd : op.guard = none) (x : Operand) (ho : op.op = .buildSlice 23 1 #[(0, x)])
    (A : Array Value) (hx : a.eval x = .agg A) (hs : A.size = 15)
    (h : wpList Tryz.prog ops Q rest (a.put op.dst (.slice (some ⟨w.heap.size, 0, none⟩) 1 1)) (w.alloc (.cells A 29))) : wpList Tryz.prog ops Q (op :: rest) a w := by
  refine wpList_plain hgd fun K hK => ?_
  unfold Oper.wp execOp
  have := run_build1 hs w
  simp only [ho, List.map_toArray, List.map_cons, List.map_nil, hx, Sem.run_bind, this, Result.andThen_ok]
  exact hK _ _ h
theorem putC_get : ∀ (vs : List Value) (cs : Array Value) (o j : Nat), o + vs.length ≤ cs.size → (putC cs o vs)[j]? = if j < o then cs[j]? else if j < o + vs.length then vs[j - o]? else cs[j]?
  | [], cs, o, j, _ => by
    rw [putC]; simp only [List.length_nil, Nat.add_zero]
    split <;> rfl
  | v :: r, cs, o, j, h => by
    simp only [List.length_cons] at h
    rw [putC, putC_get r _ (o + 1) j (by rw [Array.size_setIfInBounds]; omega)]
    by_cases h1 : j < o
    · rw [if_pos (by omega), if_pos h1, Array.getElem?_setIfInBounds_ne (by omega)]
    · by_cases h2 : j = o
      · subst h2
        rw [if_pos (by omega), if_neg (by omega), if_pos (by simp only [List.length_cons]; omega), Array.getElem?_setIfInBounds_self_of_lt (by omega)]
        simp
      · rw [if_neg (by omega), if_neg h1]
        by_cases h3 : j < o + 1 + r.length
        · rw [if_pos h3, if_pos (by simp only [List.length_cons]; omega), show j - o = (j - (o + 1)) + 1 by omega, List.getElem?_cons_succ]
        · rw [if_neg h3, if_neg (by simp only [List.length_cons]; omega), Array.getElem?_setIfInBounds_ne (by omega)]
theorem putC_one : ∀ (vs : List Value) (cs : Array Value) (o : Nat), cs.all (·.oneCell') = true → vs.all (·.oneCell') = true → (putC cs o vs).all (·.oneCell') = true
  | [], _, _, h, _ => h
  | v :: r, cs, o, h, hv => by
    simp only [List.all_cons, Bool.and_eq_true] at hv
    rw [putC]; exact putC_one r _ _ (set_one h hv.1) hv.2
/-- The first k of m actions in a row are hops. -/
structure Hops (C : Array Value) (m k : Nat) : Prop where
  size : C.size = m * 15
  one : C.all (·.oneCell') = true
  hop : ∀ i, i < k → ∀ j, j < 15 → C[i * 15 + j]? = (leafA 3)[j]?
theorem Hops.next {C : Array Value} {m k : Nat} (h : Hops C m k) (hk : k < m) : Hops (putC C (k * 15) (leafA 3).toList) m (k + 1) := by
  have hl : (leafA 3).toList.length = 15 := rfl
  refine ⟨by rw [putC_size]; exact h.size, putC_one _ _ _ h.one (by decide +kernel), fun i hi j hj => ?_⟩
  rw [putC_get _ _ _ _ (by rw [hl, h.size]; omega), hl]
  by_cases e : i = k
  · subst e
    rw [if_neg (by omega), if_pos (by omega), show i * 15 + j - i * 15 = j by omega, Array.getElem?_toList]
  · rw [if_pos (by omega)]; exact h.hop i (by omega) j hj
theorem Hops.extract {C : Array Value} {m : Nat} (h : Hops C m m) {i : Nat} (hi : i < m) : C.extract (i * 15) (i * 15 + 15) = leafA 3 := by
  apply Array.ext_getElem?
  intro j
  by_cases hj : j < 15
  · rw [Array.getElem?_extract_of_lt (by rw [h.size]; omega), ← Array.getElem?_eq_getElem]; exact h.hop i hi j hj
  · have e1 : (C.extract (i * 15) (i * 15 + 15)).size = 15 := by rw [Array.size_extract, h.size]; omega
    rw [Array.getElem?_eq_none (by omega), Array.getElem?_eq_none (by show 15 ≤ j; omega)]
theorem hops_made (m : Nat) : Hops (madeCells (leafA 0) (m * 15)) m 0 := by
  refine ⟨size_madeCells _ _, ?_, fun i hi => by omega⟩
  rw [Array.all_eq_true_iff_forall_mem]
  intro x hx
  simp only [madeCells, Array.mem_map] at hx
  obtain ⟨q, _, rfl⟩ := hx
  have hq : q % (leafA 0).size < 15 := Nat.mod_lt _ (by decide)
  have hall : ∀ r, r < 15 → ((leafA 0)[r]!).oneCell' = true := by decide +kernel
  exact hall _ hq
end Go.Proofs.YtikbjckcnidimaaGreatDoor
