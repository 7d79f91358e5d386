/- Actions that may be: CheckAll and their copy. Conditions: as said. -/
import Derived.Test.YtnahhmcmahbnkaaGreatDoorGXHtoXI
import Derived.Test.YtnahhmcmahbnkaaGreatDoorGXCtoXE
import Derived.Test.YtnahhmcmahbnkaaGreatDoorGWGtoQV
import Derived.Lib.Hide
import Derived.Test.YtnahhmcmahbnkaaGreatDoorXF
import Derived.Test.YtnahhmcmahbnkaaGreatDoorGQRtoWB
namespace Go.Proofs.YtnahhmcmahbnkaaGreatDoor
open Go.RowKit
/-- Outputs in memory, as a list of a flow has them. -/
structure OutsSrc (W : World) (g : Nat) (C : Array Value) (ps : List Int) : Prop where
  row : W.heap[g]? = some (.cells C 49 (0, 0))
  size : C.size = ps.length * 15
  one : C.all (·.oneCell') = true
  at_ : ∀ i p, ps[i]? = some p → C.extract (i * 15) (i * 15 + 15) = Ac.outA p ∧ 0 ≤ p ∧ p ≤ 65535
  some_ : 1 ≤ ps.length
  most : ps.length ≤ 1000
theorem OutsSrc.of {W W' : World} {g : Nat} {C : Array Value} {ps : List Int} (h : OutsSrc W g C ps) (hb : Below W.heap.size W W') : OutsSrc W' g C ps := ⟨(hb.block _ (lt_of_heap h.row)).trans h.row, h.size, h.one, h.at_, h.some_, h.most⟩
theorem allB_true (n : Nat) : Ac.allB (fun _ => true) n = true := by simp [Ac.allB]
theorem sumF_zero : ∀ n, Ac.sumF (fun _ => 0) n = 0
  | 0 => rfl
  | n + 1 => by rw [Ac.sumF, sumF_zero n]
theorem get_extract {C A : Array Value} {o j : Nat} (h : C.extract o (o + 15) = A) (hj : j < 15) (hA : A.size = 15) : C[o + j]? = A[j]? := by
  have hs : (C.extract o (o + 15)).size = 15 := by rw [h]; exact hA
  rw [Array.size_extract] at hs
  rw [← h, Array.getElem?_extract]
  simp only [show j < min (o + 15) C.size - o by omega, if_true]
theorem extract_eq {C A : Array Value} {o : Nat} (hA : A.size = 15) (hC : o + 15 ≤ C.size) (h : ∀ j, j < 15 → C[o + j]? = A[j]?) : C.extract o (o + 15) = A := by
  apply Array.ext_getElem?
  intro j
  rw [Array.getElem?_extract]
  by_cases hj : j < 15
  · rw [if_pos (by omega)]; exact h j hj
  · rw [if_neg (by omega), Array.getElem?_eq_none (by omega)]
theorem outs_cell {W : World} {g : Nat} {C : Array Value} {ps : List Int} (h : OutsSrc W g C ps) {i j : Nat} (hi : i < ps.length) (hj : j < 15) : C[i * 15 + j]? = (Ac.outA ps[i])[j]? :=
  get_extract (h.at_ i _ (List.getElem?_eq_getElem hi)).1 hj rfl
theorem outs_right {W : World} {g : Nat} {C : Array Value} {ps : List Int} (h : OutsSrc W g C ps) (c : Nat) (d : Int) (hd : d ≤ 4) (hd0 : 0 ≤ d) :
    Calls Tryz.prog 70 #[.slice (some ⟨g, 0, none⟩) ps.length c, .int .i64 d] W fun e w' => e = .returned (.bool true) ∧ Below W.heap.size W w' := by
  have := Ac.areRight_list g ps.length c C (fun _ => true) d W h.row (by rw [h.size]; exact Nat.le_refl _) h.one (by have := h.most; omega) (fun i hi W' _ => by
    obtain ⟨e, h1, h2⟩ := h.at_ i _ (List.getElem?_eq_getElem hi)
    rw [e]
    exact Ac.right_out _ d h1 h2 hd hd0 W')
  rwa [allB_true] at this
theorem outs_count {W : World} {g : Nat} {C : Array Value} {ps : List Int} (h : OutsSrc W g C ps) (c : Nat) :
    Calls Tryz.prog 71 #[.slice (some ⟨g, 0, none⟩) ps.length c] W fun e w' => e = .returned (.int .i64 (ps.length : Int)) ∧ Below W.heap.size W w' := by
  have := Ac.count_list g ps.length c C (fun _ => 0) (fun _ => .slice none 0 0) W h.row (by rw [h.size]; exact Nat.le_refl _) h.one (by rw [sumF_zero]; have := h.most; omega) (fun i hi => by rw [outs_cell h hi (by decide)]; rfl)
    (fun i _ W' _ => (Ac.count_nil none 0 W').mono fun e w' ⟨he, hw⟩ => ⟨he, by rw [hw]; exact Below.refl _ _⟩)
  rwa [sumF_zero] at this
theorem flat_outs {W : World} {g B : Nat} {C : Array Value} {ps : List Int} {W' : World} {v : Value} (h : OutsSrc W g C ps) (hf : FlatAt C ps.length B W' v) : OutsAt B W' v ps := by
  obtain ⟨g', cap, D, rfl, h0, h1, h2, h3, h4, h5⟩ := hf
  refine ⟨_, cap, rfl, h0, .inr ⟨g', 0, D, by simp, h1, h2, fun i hi => ⟨ps[i], List.getElem?_eq_getElem hi, ?_⟩⟩⟩
  rw [Nat.zero_add]
  obtain ⟨k1, k2, k3⟩ := h5 i hi
  refine extract_eq rfl (by omega) (fun j hj => ?_)
  by_cases h7 : j = 7
  · subst h7; exact k2
  · by_cases h8 : j = 8
    · subst h8; exact k3
    · rw [k1 j hj h7 h8]; exact outs_cell h hi hj
/-- A row of a flow's list in memory: its kid's block and cells, where it has one. -/
def RowSrc (n : Nat) (T : Nat → Nat) (W : World) : AOp → Array Value → Prop
  | .out p, A => A = Ac.outA p ∧ 0 ≤ p ∧ p ≤ 65535
  | .go i, A => A = Ac.goA (T i : Int) ∧ i < n ∧ T i < 64
  | .hop, A => A = Ac.leafA 3
  | .clone ps, A => ∃ k C c, A = Ac.cloneA (.slice (some ⟨k, 0, none⟩) ps.length c) ∧ OutsSrc W k C ps
structure ActsSrc (n : Nat) (T : Nat → Nat) (W : World) (g : Nat) (C : Array Value) (l : List AOp) : Prop where
  row : W.heap[g]? = some (.cells C 49 (0, 0))
  size : C.size = l.length * 15
  one : C.all (·.oneCell') = true
  at_ : ∀ i x, l[i]? = some x → RowSrc n T W x (C.extract (i * 15) (i * 15 + 15))
  some_ : 1 ≤ l.length
  most : l.length ≤ 3
theorem RowSrc.of {n : Nat} {T : Nat → Nat} {W W' : World} {x : AOp} {A : Array Value} (h : RowSrc n T W x A) (hb : Below W.heap.size W W') : RowSrc n T W' x A := by
  cases x with
  | clone ps => obtain ⟨k, C, c, e, h⟩ := h; exact ⟨k, C, c, e, h.of hb⟩
  | _ => exact h
theorem ActsSrc.of {n : Nat} {T : Nat → Nat} {W W' : World} {g : Nat} {C : Array Value} {l : List AOp} (h : ActsSrc n T W g C l) (hb : Below W.heap.size W W') : ActsSrc n T W' g C l :=
  ⟨(hb.block _ (lt_of_heap h.row)).trans h.row, h.size, h.one, fun i x hx => (h.at_ i x hx).of hb, h.some_, h.most⟩
theorem acts_right {n : Nat} {T : Nat → Nat} {W : World} {g : Nat} {C : Array Value} {l : List AOp} (h : ActsSrc n T W g C l) (c : Nat) :
    Calls Tryz.prog 70 #[.slice (some ⟨g, 0, none⟩) l.length c, .int .i64 0] W fun e w' => e = .returned (.bool true) ∧ Below W.heap.size W w' := by
  have := Ac.areRight_list g l.length c C (fun _ => true) 0 W h.row (by rw [h.size]; exact Nat.le_refl _) h.one (by have := h.most; omega) (fun i hi W' hb => by
    have hx := (h.at_ i _ (List.getElem?_eq_getElem hi)).of hb
    generalize l[i] = x at hx
    generalize C.extract (i * 15) (i * 15 + 15) = A at hx
    cases x with
    | out p => obtain ⟨rfl, h1, h2⟩ := hx; exact Ac.right_out p 0 h1 h2 (by omega) (by omega) W'
    | go i => obtain ⟨rfl, _, h2⟩ := hx; exact Ac.right_go (T i : Int) 0 (by omega) (by omega) (by omega) (by omega) W'
    | hop => obtain rfl := hx; exact Ac.right_hop 0 (by omega) (by omega) W'
    | clone ps =>
      obtain ⟨k, C', c', rfl, ho⟩ := hx
      exact Ac.right_clone (some ⟨k, 0, none⟩) ps.length c' 0 (by omega) (by omega) true W' (fun W2 hb2 => outs_right (ho.of hb2) c' (0 + 1) (by omega) (by omega)))
  rwa [allB_true] at this
/-- How many actions lie within an action. -/
def kidsN : AOp → Nat
  | .clone ps => ps.length
  | _ => 0
theorem sumF_small (l : List AOp) (h : ∀ x ∈ l, kidsN x ≤ 1000) : ∀ n, n ≤ l.length → Ac.sumF (fun i => match l[i]? with | some x => kidsN x | none => 0) n ≤ 1000 * n
  | 0, _ => Nat.le_refl _
  | n + 1, hn => by
    have h1 := sumF_small l h n (by omega)
    rw [Ac.sumF, List.getElem?_eq_getElem (by omega)]
    have h2 := h _ (List.getElem_mem (show n < l.length by omega))
    simp only
    omega
theorem RowSrc.kids {n : Nat} {T : Nat → Nat} {W : World} {x : AOp} {A : Array Value} (h : RowSrc n T W x A) : kidsN x ≤ 1000 := by
  cases x with
  | clone ps => obtain ⟨k, C, c, e, h⟩ := h; exact h.most
  | _ => exact Nat.zero_le _
theorem RowSrc.cell7 {n : Nat} {T : Nat → Nat} {W : World} {x : AOp} {A : Array Value} (h : RowSrc n T W x A) : A.size = 15 ∧ A[8]? = some (.slice none 0 0) ∧ ∃ a m k, A[7]? = some (.slice a m k) ∧ (match x with | .clone ps => m = ps.length ∧ ∃ b C, a = some ⟨b, 0, none⟩ ∧ OutsSrc W b C ps | _ => a = none ∧ m = 0 ∧ k = 0) := by
  cases x with
  | out p => obtain ⟨rfl, _⟩ := h; exact ⟨rfl, rfl, none, 0, 0, rfl, rfl, rfl, rfl⟩
  | go i => obtain ⟨rfl, _⟩ := h; exact ⟨rfl, rfl, none, 0, 0, rfl, rfl, rfl, rfl⟩
  | hop => obtain rfl := h; exact ⟨rfl, rfl, none, 0, 0, rfl, rfl, rfl, rfl⟩
  | clone ps => obtain ⟨k, C, c, rfl, h⟩ := h; exact ⟨rfl, rfl, _, _, c, rfl, rfl, k, C, rfl, h⟩
def kidsAt (l : List AOp) (i : Nat) : Nat := match l[i]? with | some x => kidsN x | none => 0
def cntN (l : List AOp) : Nat := l.length + Ac.sumF (kidsAt l) l.length
theorem cnt_most {n : Nat} {T : Nat → Nat} {W : World} {g : Nat} {C : Array Value} {l : List AOp} (h : ActsSrc n T W g C l) : cntN l ≤ 4096 := by
  have hs := sumF_small l (fun x hx => by obtain ⟨i, hi, rfl⟩ := List.getElem_of_mem hx; exact (h.at_ i _ (List.getElem?_eq_getElem hi)).kids) l.length (Nat.le_refl _)
  have hm := h.most
  have : Ac.sumF (kidsAt l) l.length ≤ 1000 * l.length := hs
  unfold cntN
  omega
theorem acts_count {n : Nat} {T : Nat → Nat} {W : World} {g : Nat} {C : Array Value} {l : List AOp} (h : ActsSrc n T W g C l) (c : Nat) :
    Calls Tryz.prog 71 #[.slice (some ⟨g, 0, none⟩) l.length c] W fun e w' => e = .returned (.int .i64 (cntN l : Int)) ∧ Below W.heap.size W w' := by
  have hs := cnt_most h
  unfold cntN at hs
  exact Ac.count_list g l.length c C (kidsAt l) (fun i => (C[i * 15 + 7]?).getD (.slice none 0 0)) W h.row (by rw [h.size]; exact Nat.le_refl _) h.one (by omega)
    (fun i hi => by
      obtain ⟨h1, _, a, m, k, h2, _⟩ := (h.at_ i _ (List.getElem?_eq_getElem hi)).cell7
      rw [get_extract rfl (by decide) h1, h2]; rfl)
    (fun i hi W' hb => by
      have hx := (h.at_ i _ (List.getElem?_eq_getElem hi)).of hb
      obtain ⟨h1, _, a, m, k, h2, h3⟩ := hx.cell7
      unfold kidsAt
      rw [get_extract rfl (by decide) h1, h2, List.getElem?_eq_getElem hi]
      simp only [Option.getD_some]
      generalize l[i] = x at h3
      cases x with
      | clone ps =>
        obtain ⟨rfl, b, C', rfl, ho⟩ := h3
        exact outs_count ho k
      | out p => obtain ⟨rfl, rfl, rfl⟩ := h3; exact (Ac.count_nil none 0 W').mono fun e w' ⟨he, hw⟩ => ⟨he, by rw [hw]; exact Below.refl _ _⟩
      | go p => obtain ⟨rfl, rfl, rfl⟩ := h3; exact (Ac.count_nil none 0 W').mono fun e w' ⟨he, hw⟩ => ⟨he, by rw [hw]; exact Below.refl _ _⟩
      | hop => obtain ⟨rfl, rfl, rfl⟩ := h3; exact (Ac.count_nil none 0 W').mono fun e w' ⟨he, hw⟩ => ⟨he, by rw [hw]; exact Below.refl _ _⟩)
theorem acts_check {n : Nat} {T : Nat → Nat} {W : World} {g : Nat} {C : Array Value} {l : List AOp} (h : ActsSrc n T W g C l) (c : Nat) :
    Calls Tryz.prog 43 #[.slice (some ⟨g, 0, none⟩) l.length c] W fun e w' => e = .returned (.int .i64 0) ∧ Below W.heap.size W w' :=
  Ac.checkAll_yes _ (cntN l) (cnt_most h) W ⟨_, _, _, rfl⟩ (acts_right h c) (fun _ hb => acts_count (h.of hb) c)
/-- What a copied action's list is. -/
def KidAt (l : List AOp) (i B : Nat) (W : World) (v : Value) : Prop := match l[i]? with
  | some (.clone ps) => OutsAt B W v ps
  | _ => v = .slice none 0 0
theorem kid_lasts (l : List AOp) (i : Nat) : Ac.Lasts (KidAt l i) := by
  intro B W W' v h _ hk
  unfold KidAt at h ⊢
  split
  · rename_i ps e
    rw [e] at h
    exact SliceAt.of h (fun g _ _ h1 h2 => hk g h1 (lt_of_heap h2)) (fun _ _ _ h => h)
  · rename_i hne
    split at h
    · rename_i ps e
      exact absurd e (hne ps)
    · exact h
theorem acts_copy {n : Nat} {T : Nat → Nat} {W : World} {g : Nat} {C : Array Value} {l : List AOp} (h : ActsSrc n T W g C l) (c : Nat) :
    Calls Tryz.prog 41 #[.slice (some ⟨g, 0, none⟩) l.length c] W fun e w' => ∃ a' m' k', e = .returned (.slice a' m' k') ∧ ActsAt n T l W.heap.size w' (.slice a' m' k') ∧ Below W.heap.size W w' := by
  have hm := h.most
  refine Calls.mono (Ac.copyacts_row g l.length c C W h.row (by rw [h.size]; exact Nat.le_refl _) h.one (by omega) h.some_ (KidAt l)
    (fun i hi => by
      obtain ⟨h1, _, a, m, k, h2, _⟩ := (h.at_ i _ (List.getElem?_eq_getElem hi)).cell7
      exact ⟨a, m, k, by rw [get_extract rfl (by decide) h1, h2]⟩)
    (fun i hi => by
      obtain ⟨h1, h8, _⟩ := (h.at_ i _ (List.getElem?_eq_getElem hi)).cell7
      exact ⟨0, by rw [get_extract rfl (by decide) h1, h8]⟩)
    (fun i a m k hi h7 W' hb => ?_) (kid_lasts l)) ?_
  · have hx := (h.at_ i _ (List.getElem?_eq_getElem hi)).of hb
    obtain ⟨h1, _, a', m', k', h2, h3⟩ := hx.cell7
    rw [get_extract rfl (by decide) h1, h2] at h7
    cases h7
    have hnil : (∀ ps, l[i]? ≠ some (.clone ps)) → a = none ∧ m = 0 ∧ k = 0 → Calls Tryz.prog 41 #[.slice a m k] W' fun e w' => ∃ a' m' k', e = .returned (.slice a' m' k') ∧ KidAt l i W'.heap.size w' (.slice a' m' k') ∧ Below W'.heap.size W' w' := by
      rintro hne ⟨rfl, rfl, rfl⟩
      exact (Ac.copyacts_nil 0 W').mono fun e w' ⟨he, hw'⟩ => ⟨none, 0, 0, he, by unfold KidAt; split; exact absurd (by assumption) (hne _); rfl, by rw [hw']; exact Below.refl _ _⟩
    have hli := List.getElem?_eq_getElem hi
    generalize l[i] = x at h3 hli
    cases x with
    | clone ps =>
      obtain ⟨rfl, b, C', rfl, ho⟩ := h3
      have hmo := ho.most
      refine Calls.mono (copy_flat b ps.length k C' W' ho.row (by rw [ho.size]; exact Nat.le_refl _) ho.one (by omega) ho.some_ (fun j hj => by rw [outs_cell ho hj (by decide)]; rfl) (fun j hj => by rw [outs_cell ho hj (by decide)]; rfl)) ?_
      rintro e w' ⟨a', m', k', rfl, hf, hb'⟩
      exact ⟨a', m', k', rfl, by unfold KidAt; rw [hli]; exact flat_outs ho hf, hb'⟩
    | out p => exact hnil (fun ps e => by rw [hli] at e; cases e) h3
    | go p => exact hnil (fun ps e => by rw [hli] at e; cases e) h3
    | hop => exact hnil (fun ps e => by rw [hli] at e; cases e) h3
  · rintro e w' ⟨g', cap, D, rfl, hle, hc⟩
    refine ⟨_, _, _, rfl, ⟨_, cap, rfl, hle, .inr ⟨g', 0, D, by simp, hc.base, hc.row, fun i hi => ⟨l[i], List.getElem?_eq_getElem hi, ?_⟩⟩⟩, hc.below⟩
    rw [Nat.zero_add]
    have hx := h.at_ i _ (List.getElem?_eq_getElem hi)
    obtain ⟨v, B, d7, dB, dv⟩ := hc.kids i hi
    have d8 := hc.ways i hi
    have hsz := hc.size
    have hli := List.getElem?_eq_getElem hi
    have hrow : ∀ A : Array Value, A.size = 15 → A[7]? = some v → A[8]? = some (.slice none 0 0) → (∀ j, j < 15 → j ≠ 7 → j ≠ 8 → A[j]? = (C.extract (i * 15) (i * 15 + 15))[j]?) → D.extract (i * 15) (i * 15 + 15) = A := fun A hA a7 a8 aj => by
      refine extract_eq hA (by omega) (fun j hj => ?_)
      by_cases h7 : j = 7
      · subst h7; rw [d7, a7]
      · by_cases h8 : j = 8
        · subst h8; rw [d8, a8]
        · rw [hc.same i j hi hj (.inr ⟨h7, h8⟩), aj j hj h7 h8]
          exact get_extract rfl hj (hx.cell7.1)
    unfold KidAt at dv
    rw [hli] at dv
    generalize l[i] = x at hx dv
    generalize C.extract (i * 15) (i * 15 + 15) = A0 at hx hrow
    cases x with
    | out p => obtain ⟨rfl, _⟩ := hx; obtain rfl := dv; exact hrow _ rfl rfl rfl (fun _ _ _ _ => rfl)
    | go p => obtain ⟨rfl, h2, _⟩ := hx; obtain rfl := dv; exact ⟨hrow _ rfl rfl rfl (fun _ _ _ _ => rfl), h2⟩
    | hop => obtain rfl := hx; obtain rfl := dv; exact hrow _ rfl rfl rfl (fun _ _ _ _ => rfl)
    | clone ps =>
      obtain ⟨k, C', c', rfl, _⟩ := hx
      refine ⟨v, hrow _ rfl rfl rfl (fun j hj h7 h8 => ?_), SliceAt.base dv (by have := hc.base; omega)⟩
      rcases (show j = 0 ∨ j = 1 ∨ j = 2 ∨ j = 3 ∨ j = 4 ∨ j = 5 ∨ j = 6 ∨ j = 9 ∨ j = 10 ∨ j = 11 ∨ j = 12 ∨ j = 13 ∨ j = 14 by omega) with rfl | rfl | rfl | rfl | rfl | rfl | rfl | rfl | rfl | rfl | rfl | rfl | rfl <;> rfl
end Go.Proofs.YtnahhmcmahbnkaaGreatDoor
/- New of two flows without terms. Conditions: as said. -/
namespace Go.Proofs.YtnahhmcmahbnkaaGreatDoor
open Go.RowKit
def two {α : Type} (x y : α) (i : Nat) : α := if i = 0 then x else y
theorem two0 {α : Type} (x y : α) : two x y 0 = x := rfl
theorem two1 {α : Type} (x y : α) : two x y 1 = y := rfl
theorem lt_two {p : Nat → Prop} (h0 : p 0) (h1 : p 1) : ∀ i, i < 2 → p i := fun i hi => by
  rcases (show i = 0 ∨ i = 1 by omega) with rfl | rfl
  · exact h0
  · exact h1
abbrev nameOf (s : ByteArray) : ByteArray := s ++ ⟨#[32]⟩ ++ ⟨#[48]⟩ ++ ⟨#[32]⟩ ++ ⟨#[]⟩
theorem new_two (g g0 g1 c c0 c1 a b : Nat) (C0 C1 : Array Value) (l0 l1 : List AOp) (s0 s1 : ByteArray) (w : World) (hg : w.heap[g]? = some (.cells (flC (a : Int) 0 (.slice none 0 0) (.slice (some ⟨g0, 0, none⟩) l0.length c0) ++ flC (b : Int) 0 (.slice none 0 0) (.slice (some ⟨g1, 0, none⟩) l1.length c1)) 52 (0, 0)))
    (h0 : ActsSrc 2 (two a b) w g0 C0 l0) (h1 : ActsSrc 2 (two a b) w g1 C1 l1) (ha : a < 64) (hb : b < 64) (hab : a ≠ b)
    (hs0 : ∀ W, Calls Tryz.prog 49 #[.int .i64 (a : Int)] W fun e w' => e = .returned (.string s0) ∧ w' = W) (hs1 : ∀ W, Calls Tryz.prog 49 #[.int .i64 (b : Int)] W fun e w' => e = .returned (.string s1) ∧ w' = W) (hz0 : s0.size ≤ 100) (hz1 : s1.size ≤ 100) (hne : nameOf s0 ≠ nameOf s1) :
    Calls Tryz.prog 7 #[.slice (some ⟨g, 0, none⟩) 2 c] w fun e w' => ∃ pb Z m g' cap D, e = .returned (.tuple #[.pointer (some ⟨pb, 0, none⟩), .int .i64 0]) ∧ PrgAt w' pb 2 (two a b) (fun _ => 0) (fun i => ActsAt 2 (two a b) (two l0 l1 i)) Z m g' cap D ∧ Below w.heap.size w w' := by
  have chk : ∀ (t g0 c0 : Nat) (C0 : Array Value) (l0 : List AOp), ActsSrc 2 (two a b) w g0 C0 l0 → t < 64 → ∀ W, Below w.heap.size w W → Calls Tryz.prog 24 #[.agg (flC (t : Int) 0 (.slice none 0 0) (.slice (some ⟨g0, 0, none⟩) l0.length c0))] W fun e w' => e = .returned (.int .i64 0) ∧ Below W.heap.size W w' := fun t g0 c0 C0 l0 h ht W hW =>
    fcheck_yes (t : Int) 0 (some ⟨g0, 0, none⟩) l0.length c0 W (by omega) (by omega) (by omega) (by omega) (fun W' hW' => acts_check ((h.of hW).of hW') c0)
  have cop : ∀ (t g0 c0 : Nat) (C0 : Array Value) (l0 : List AOp), ActsSrc 2 (two a b) w g0 C0 l0 → ∀ W, Below w.heap.size w W → Calls Tryz.prog 23 #[.agg (flC (t : Int) 0 (.slice none 0 0) (.slice (some ⟨g0, 0, none⟩) l0.length c0))] W fun e w' => ∃ a' m' k' B, W.heap.size + 2 ≤ B ∧ e = .returned (.agg (flC (t : Int) 0 (.slice none 0 0) (.slice a' m' k'))) ∧ ActsAt 2 (two a b) l0 B w' (.slice a' m' k') ∧ Below W.heap.size W w' := fun t g0 c0 C0 l0 h W hW =>
    copy_any (t : Int) 0 (some ⟨g0, 0, none⟩) l0.length c0 W (ActsAt 2 (two a b) l0) (acts_lasts 2 (two a b) l0) (fun W' hW' => acts_copy ((h.of hW).of hW') c0)
  have nam : ∀ (t : Nat) (s : ByteArray), s.size ≤ 100 → (∀ W, Calls Tryz.prog 49 #[.int .i64 (t : Int)] W fun e w' => e = .returned (.string s) ∧ w' = W) → ∀ W b ac, W.heap[b]? = some (.cells (rwC (t : Int) 0 (.slice none 0 0) ac ⟨#[]⟩) 84 (0, 0)) → Calls Tryz.prog 26 #[.pointer (some ⟨b, 0, none⟩)] W fun e w' => e = .returned (.string (nameOf s)) ∧ ∃ q, w' = W.drewN q := fun t s hz hs W b ac h =>
    rname_any b (t : Int) 0 (.slice none 0 0) ac ⟨#[]⟩ s ⟨#[48]⟩ W h hs (by show s.size + 1 + 0 ≤ _; omega) itoa_0
  exact new_list g 2 c _ w hg (by show 2 * 4 ≤ 8; omega) (by omega) (by omega) (two a b) (fun _ => 0) (two (some ⟨g0, 0, none⟩) (some ⟨g1, 0, none⟩)) (two l0.length l1.length) (two c0 c1) (two (nameOf s0) (nameOf s1)) (fun i => ActsAt 2 (two a b) (two l0 l1 i))
    (fun i => acts_lasts 2 (two a b) _) (fun i B W v h => by obtain ⟨x, k, e⟩ := h.slice; exact ⟨x, _, k, e⟩) (lt_two ha hb)
    (fun i j hi hj e => by
      rcases (show i = 0 ∨ i = 1 by omega) with rfl | rfl <;> rcases (show j = 0 ∨ j = 1 by omega) with rfl | rfl
      · rfl
      · exact absurd e hab
      · exact absurd e.symm hab
      · rfl)
    (fun _ _ => ⟨by omega, by omega⟩) (lt_two rfl rfl) (lt_two (chk a g0 c0 C0 l0 h0 ha) (chk b g1 c1 C1 l1 h1 hb)) (lt_two (cop a g0 c0 C0 l0 h0) (cop b g1 c1 C1 l1 h1)) (lt_two (nam a s0 hz0 hs0) (nam b s1 hz1 hs1))
    (fun i j hij hj => by
      obtain rfl : i = 0 := by omega
      obtain rfl : j = 1 := by omega
      exact hne)
/-- Two actions, two flows as literals. -/
theorem run_acts2 {A B : Array Value} (hA : A.size = 15) (hB : B.size = 15) (w : World) : (Instr.buildSlice 44 2 #[(0, .agg A), (1, .agg B)]).run Tryz.prog w = .ok (.slice (some ⟨w.heap.size, 0, none⟩) 2 2) (w.alloc (.cells (A ++ B) 49)) := by
  obtain ⟨a0, a1, a2, a3, a4, a5, a6, a7, a8, a9, a10, a11, a12, a13, a14, rfl⟩ := Ac.fifteen hA
  obtain ⟨b0, b1, b2, b3, b4, b5, b6, b7, b8, b9, b10, b11, b12, b13, b14, rfl⟩ := Ac.fifteen hB
  kernel_rfl
theorem run_flows2 (a b p q : Int) (x y u v : Value) (w : World) : (Instr.buildSlice 53 2 #[(0, .agg (flC a p x y)), (1, .agg (flC b q u v))]).run Tryz.prog w = .ok (.slice (some ⟨w.heap.size, 0, none⟩) 2 2) (w.alloc (.cells (flC a p x y ++ flC b q u v) 52)) := by
  kernel_rfl
theorem wpList_buildS2 {ops : Array Oper} {rest : List Oper} {op : Oper} {a : Act} {w : World} {Q : Exit → Act → World → Prop} (hgd : op.guard = none) (ty : TypeId) (x y : Operand) (ho : op.op = .buildSlice ty 2 #[(0, x), (1, y)])
    (A B : Value) (hx : a.eval x = A) (hy : a.eval y = B) (v : Value) (w' : World) (hr : (Instr.buildSlice ty 2 #[(0, A), (1, B)]).run Tryz.prog w = .ok v w')
    (h : wpList Tryz.prog ops Q rest (a.put op.dst v) w') : wpList Tryz.prog ops Q (op :: rest) a w := by
  refine wpList_plain hgd fun K hK => ?_
  unfold Oper.wp execOp
  simp only [ho, List.map_toArray, List.map_cons, List.map_nil, hx, hy, Sem.run_bind, hr, Result.andThen_ok]
  exact hK _ _ h
/-- Outputs and a list of a flow out of their rows. -/
theorem outs_one (W : World) (g : Nat) (p : Int) (h : W.heap[g]? = some (.cells (Ac.outA p) 49 (0, 0))) (h0 : 0 ≤ p) (h1 : p ≤ 65535) : OutsSrc W g (Ac.outA p) [p] := by
  refine ⟨h, rfl, by kernel_rfl, fun i q hq => ?_, by simp, by simp⟩
  rcases (show i = 0 ∨ 1 ≤ i by omega) with rfl | hi
  · have hq2 : p = q := by simpa using hq
    subst hq2; exact ⟨rfl, h0, h1⟩
  · have h9 : ([p] : List Int)[i]? = none := List.getElem?_eq_none (by simpa using hi)
    rw [h9] at hq; cases hq
theorem ext_left {A B : Array Value} (hA : A.size = 15) : (A ++ B).extract (0 * 15) (0 * 15 + 15) = A :=
  extract_eq hA (by simp [hA]) (fun j hj => by rw [Array.getElem?_append_left (by omega)]; simp)
theorem ext_right {A B : Array Value} (hA : A.size = 15) (hB : B.size = 15) : (A ++ B).extract (1 * 15) (1 * 15 + 15) = B :=
  extract_eq hB (by simp [hA, hB]) (fun j hj => by rw [Array.getElem?_append_right (by omega)]; congr 1; omega)
theorem ext_self {A : Array Value} (hA : A.size = 15) : A.extract (0 * 15) (0 * 15 + 15) = A :=
  extract_eq hA (by omega) (fun j hj => by simp)
theorem acts_two {n : Nat} {T : Nat → Nat} {W : World} {g : Nat} {A B : Array Value} {x y : AOp} (h : W.heap[g]? = some (.cells (A ++ B) 49 (0, 0))) (hx : RowSrc n T W x A) (hy : RowSrc n T W y B) (h1 : (A ++ B).all (·.oneCell') = true) : ActsSrc n T W g (A ++ B) [x, y] := by
  have sA := hx.cell7.1
  have sB := hy.cell7.1
  refine ⟨h, by simp [sA, sB], h1, fun i z hz => ?_, by simp, by simp⟩
  rcases (show i = 0 ∨ i = 1 ∨ 2 ≤ i by omega) with rfl | rfl | hi
  · have e : x = z := by simpa using hz
    subst e
    rw [ext_left sA]; exact hx
  · have e : y = z := by simpa using hz
    subst e
    rw [ext_right sA sB]; exact hy
  · have h9 : ([x, y] : List AOp)[i]? = none := List.getElem?_eq_none (by simpa using hi)
    rw [h9] at hz; cases hz
theorem acts_one {n : Nat} {T : Nat → Nat} {W : World} {g : Nat} {A : Array Value} {x : AOp} (h : W.heap[g]? = some (.cells A 49 (0, 0))) (hx : RowSrc n T W x A) (h1 : A.all (·.oneCell') = true) : ActsSrc n T W g A [x] := by
  have sA := hx.cell7.1
  refine ⟨h, by simp [sA], h1, fun i z hz => ?_, by simp, by simp⟩
  rcases (show i = 0 ∨ 1 ≤ i by omega) with rfl | hi
  · have e : x = z := by simpa using hz
    subst e
    rw [ext_self sA]; exact hx
  · have h9 : ([x] : List AOp)[i]? = none := List.getElem?_eq_none (by simpa using hi)
    rw [h9] at hz; cases hz
end Go.Proofs.YtnahhmcmahbnkaaGreatDoor
