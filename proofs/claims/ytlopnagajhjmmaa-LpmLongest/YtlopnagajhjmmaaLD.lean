/- Tries as trees, with the blocks in which their nodes lie; what stands in them, in which order; paths. Plain facts; no condition. -/
import Derived.Test.YtlopnagajhjmmaaLC
namespace Go.Proofs.Ytlopnagajhjmmaa
open Go.RowKit
inductive Tr where
  | nil
  | node (b : Nat) (p : BitVec 32) (n : Nat) (v : Int) (th : Bool) (l r : Tr)
abbrev Ro := BitVec 32 × Nat × Int
namespace Tr
def bk : Tr → Option Nat
  | nil => none
  | node b _ _ _ _ _ _ => some b
def blocks : Tr → List Nat
  | nil => []
  | node b _ _ _ _ l r => b :: (l.blocks ++ r.blocks)
def ents : Tr → List Ro
  | nil => []
  | node _ p n v th l r => (if th then [(p, n, v)] else []) ++ (l.ents ++ r.ents)
def Kid (p : BitVec 32) (n : Nat) (s : Bool) : Tr → Prop
  | nil => True
  | node _ p' n' _ _ _ _ => n < n' ∧ hasB p n p' = true ∧ p'.getMsbD n = s
def Wf : Tr → Prop
  | nil => True
  | node _ p n _ _ l r => n ≤ 32 ∧ rightB p n = true ∧ Kid p n false l ∧ Kid p n true r ∧ l.Wf ∧ r.Wf
end Tr
open Tr

/-! What lies under a node. -/
theorem hasB_refl (p : BitVec 32) (n : Nat) : hasB p n p = true := by simp [hasB]
theorem hasB_trans {p q r : BitVec 32} {n m : Nat} (hm : m ≤ 32) (hnm : n ≤ m) (h1 : hasB p n q = true) (h2 : hasB q m r = true) : hasB p n r = true := by
  rw [hasB_iff (by omega)] at *
  intro i hi
  rw [h2 i (by omega), h1 i hi]
def UnderN (p : BitVec 32) (n : Nat) (r : Ro) : Prop := n ≤ r.2.1 ∧ r.2.1 ≤ 32 ∧ rightB r.1 r.2.1 = true ∧ hasB p n r.1 = true
def UnderK (p : BitVec 32) (n : Nat) (s : Bool) (r : Ro) : Prop := n < r.2.1 ∧ r.2.1 ≤ 32 ∧ rightB r.1 r.2.1 = true ∧ hasB p n r.1 = true ∧ r.1.getMsbD n = s
theorem ents_under : ∀ (t : Tr), t.Wf → (∀ b p n v th l r, t = node b p n v th l r → ∀ x ∈ t.ents, UnderN p n x) ∧ (∀ p n s, Kid p n s t → ∀ x ∈ t.ents, UnderK p n s x)
  | nil, _ => ⟨fun b p n v th l r h => Tr.noConfusion h, fun p n s _ x hx => by simp [ents] at hx⟩
  | node b p n v th l r, hw => by
    obtain ⟨hn, hr, kl, kr, wl, wr⟩ := hw
    have il := (ents_under l wl).2 p n false kl
    have ir := (ents_under r wr).2 p n true kr
    have A : ∀ x ∈ (node b p n v th l r).ents, UnderN p n x := by
      intro x hx
      rw [ents] at hx
      rcases List.mem_append.1 hx with h | h
      · cases th
        · simp at h
        · simp at h; subst h; exact ⟨Nat.le_refl _, hn, hr, hasB_refl _ _⟩
      rcases List.mem_append.1 h with h | h
      · obtain ⟨a1, a2, a3, a4, _⟩ := il x h; exact ⟨by omega, a2, a3, a4⟩
      · obtain ⟨a1, a2, a3, a4, _⟩ := ir x h; exact ⟨by omega, a2, a3, a4⟩
    refine ⟨?_, ?_⟩
    · intro b' p' n' v' th' l' r' h x hx
      injection h with e1 e2 e3 e4 e5 e6 e7
      subst e2 e3
      exact A x hx
    · intro q m s hk x hx
      obtain ⟨a1, a2, a3, a4⟩ := A x hx
      obtain ⟨k1, k2, k3⟩ := hk
      refine ⟨by omega, a2, a3, hasB_trans hn (by omega) k2 a4, ?_⟩
      rw [hasB_iff hn] at a4
      rw [a4 m k1, k3]

/-! The order. -/
def ltR (x y : Ro) : Prop := x.1.toNat < y.1.toNat ∨ (x.1 = y.1 ∧ x.2.1 < y.2.1)
theorem le_of_has {p q : BitVec 32} {n : Nat} (hn : n ≤ 32) (hr : rightB p n = true) (h : hasB p n q = true) : p.toNat ≤ q.toNat := by
  have e : p = q &&& msk n := by
    rw [rightB_iff hn] at hr
    rw [hasB_iff hn] at h
    apply BitVec.eq_of_getMsbD_eq
    intro i hi
    rw [BitVec.getMsbD_and, msk_msb n i hn hi]
    by_cases g : i < n
    · simp [g, h i g]
    · simp [g, hr i (by omega)]
  rw [e, BitVec.toNat_and]
  exact Nat.and_le_left
theorem msb_nat (a : BitVec 32) (i : Nat) (h : i < 32) : a.getMsbD i = (a.toNat / 2 ^ (31 - i) % 2 == 1) := by
  rw [BitVec.getMsbD_eq_getLsbD]
  simp only [h, decide_true, Bool.true_and]
  show a.toNat.testBit (32 - 1 - i) = _
  rw [Nat.testBit_eq_decide_div_mod_eq, show 32 - 1 - i = 31 - i by omega]
  rw [Bool.eq_iff_iff]; simp
theorem div_of_msb (a b : BitVec 32) (n : Nat) (hn : n ≤ 32) (h : ∀ i, i < n → a.getMsbD i = b.getMsbD i) : a.toNat / 2 ^ (32 - n) = b.toNat / 2 ^ (32 - n) := by
  have e : a >>> (32 - n) = b >>> (32 - n) := by
    apply BitVec.eq_of_getMsbD_eq
    intro i hi
    rw [BitVec.getMsbD_ushiftRight, BitVec.getMsbD_ushiftRight]
    by_cases g : i < 32 - n
    · simp [g]
    · rw [h (i - (32 - n)) (by omega)]
  have e2 := congrArg BitVec.toNat e
  rw [BitVec.toNat_ushiftRight, BitVec.toNat_ushiftRight, Nat.shiftRight_eq_div_pow, Nat.shiftRight_eq_div_pow] at e2
  exact e2
theorem lt_of_bit {a b : BitVec 32} {n : Nat} (hn : n < 32) (h : ∀ i, i < n → a.getMsbD i = b.getMsbD i) (ha : a.getMsbD n = false) (hb : b.getMsbD n = true) : a.toNat < b.toNat := by
  have e := div_of_msb a b n (by omega) h
  rw [msb_nat _ _ hn] at ha hb
  simp at ha hb
  rw [show 32 - n = (31 - n) + 1 by omega, Nat.pow_succ, ← Nat.div_div_eq_div_mul, ← Nat.div_div_eq_div_mul] at e
  have l : a.toNat / 2 ^ (31 - n) < b.toNat / 2 ^ (31 - n) := by omega
  rcases Nat.lt_or_ge a.toNat b.toNat with h' | h'
  · exact h'
  · have := Nat.div_le_div_right (c := 2 ^ (31 - n)) h'
    omega
theorem ents_sorted : ∀ (t : Tr), t.Wf → t.ents.Pairwise ltR
  | nil, _ => List.Pairwise.nil
  | node b p n v th l r, hw => by
    have hw' := hw
    obtain ⟨hn, hr, kl, kr, wl, wr⟩ := hw'
    have il := (ents_under l wl).2 p n false kl
    have ir := (ents_under r wr).2 p n true kr
    rw [ents]
    refine List.pairwise_append.2 ⟨?_, List.pairwise_append.2 ⟨ents_sorted l wl, ents_sorted r wr, ?_⟩, ?_⟩
    · cases th <;> simp
    · intro x hx y hy
      obtain ⟨a1, a2, a3, a4, a5⟩ := il x hx
      obtain ⟨b1, b2, b3, b4, b5⟩ := ir y hy
      rw [hasB_iff hn] at a4 b4
      exact .inl (lt_of_bit (n := n) (by omega) (fun i hi => by rw [a4 i hi, b4 i hi]) a5 b5)
    · intro x hx y hy
      cases th
      · simp at hx
      · simp at hx; subst hx
        have : n < y.2.1 ∧ hasB p n y.1 = true := by
          rcases List.mem_append.1 hy with h | h
          · exact ⟨(il y h).1, (il y h).2.2.2.1⟩
          · exact ⟨(ir y h).1, (ir y h).2.2.2.1⟩
        have le := le_of_has hn hr this.2
        by_cases g : p = y.1
        · exact .inr ⟨g, this.1⟩
        · exact .inl (by
            have : p.toNat ≠ y.1.toNat := fun e => g (BitVec.eq_of_toNat_eq e)
            show p.toNat < y.1.toNat
            omega)
theorem ltR_irr (x : Ro) : ¬ ltR x x := by rintro (h | h) <;> omega
theorem ltR_trans {x y z : Ro} (h1 : ltR x y) (h2 : ltR y z) : ltR x z := by
  rcases h1 with h1 | ⟨h1, h1'⟩ <;> rcases h2 with h2 | ⟨h2, h2'⟩
  · exact .inl (by omega)
  · exact .inl (by rw [← h2]; exact h1)
  · exact .inl (by rw [h1]; exact h2)
  · exact .inr ⟨h1.trans h2, by omega⟩
/-- Two rising lists with the same members are the same. -/
theorem sorted_eq : ∀ (l m : List Ro), l.Pairwise ltR → m.Pairwise ltR → (∀ x, x ∈ l ↔ x ∈ m) → l = m
  | [], [], _, _, _ => rfl
  | [], y :: m, _, _, h => absurd ((h y).2 (by simp)) (by simp)
  | x :: l, [], _, _, h => absurd ((h x).1 (by simp)) (by simp)
  | x :: l, y :: m, hl, hm, h => by
    have hl' := List.pairwise_cons.1 hl
    have hm' := List.pairwise_cons.1 hm
    have e : x = y := by
      have h1 := (h x).1 (by simp)
      have h2 := (h y).2 (by simp)
      rcases List.mem_cons.1 h1 with rfl | h1
      · rfl
      rcases List.mem_cons.1 h2 with h2 | h2
      · exact h2.symm
      exact absurd (ltR_trans (hl'.1 y h2) (hm'.1 x h1)) (ltR_irr x)
    subst e
    rw [sorted_eq l m hl'.2 hm'.2 fun z => ?_]
    constructor
    · intro hz
      rcases List.mem_cons.1 ((h z).1 (by simp [hz])) with rfl | h'
      · exact absurd (hl'.1 z hz) (ltR_irr z)
      · exact h'
    · intro hz
      rcases List.mem_cons.1 ((h z).2 (by simp [hz])) with rfl | h'
      · exact absurd (hm'.1 z hz) (ltR_irr z)
      · exact h'
theorem key_one {l : List Ro} (h : l.Pairwise ltR) {x y : Ro} (hx : x ∈ l) (hy : y ∈ l) (e1 : x.1 = y.1) (e2 : x.2.1 = y.2.1) : x = y := by
  rcases List.mem_iff_getElem.1 hx with ⟨i, hi, rfl⟩
  rcases List.mem_iff_getElem.1 hy with ⟨j, hj, rfl⟩
  have hp := List.pairwise_iff_getElem.1 h
  rcases Nat.lt_trichotomy i j with g | g | g
  · rcases hp i j hi hj g with q | q
    · rw [e1] at q; omega
    · omega
  · subst g; rfl
  · rcases hp j i hj hi g with q | q
    · rw [e1] at q; omega
    · omega
end Go.Proofs.Ytlopnagajhjmmaa
