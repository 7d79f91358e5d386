/- A trie that grows: plain facts. No condition. -/
import Derived.Test.YtlopnagajhjmmaaLG
namespace Go.Proofs.Ytlopnagajhjmmaa
open Go.RowKit Tr
theorem bitLen_up (x : Nat) (h : x < 2 ^ 64) : x < 2 ^ Lib.bitLen x := by
  induction x using Nat.strongRecOn with
  | _ x ih =>
    by_cases h0 : x = 0
    · subst h0; exact Nat.two_pow_pos _
    · rw [Lib.bitLen_half x h0 h]
      have := ih (x / 2) (by omega) (by omega)
      rw [Nat.add_comm, Nat.pow_succ]; omega
theorem bitLen_down (x : Nat) (h : x < 2 ^ 64) (h0 : x ≠ 0) : 2 ^ (Lib.bitLen x - 1) ≤ x := by
  induction x using Nat.strongRecOn with
  | _ x ih =>
    rw [Lib.bitLen_half x h0 h]
    by_cases h1 : x / 2 = 0
    · have : x = 1 := by omega
      subst this; decide +kernel
    · have := ih (x / 2) (by omega) (by omega) h1
      have hp : Lib.bitLen (x / 2) ≠ 0 := by
        intro e
        have := bitLen_up (x / 2) (by omega)
        rw [e] at this; omega
      rw [show 1 + Lib.bitLen (x / 2) - 1 = (Lib.bitLen (x / 2) - 1) + 1 by omega, Nat.pow_succ]
      omega
/-- How many first bits two addresses share. -/
def lz (a b : BitVec 32) : Nat := 32 - Lib.bitLen (a ^^^ b).toNat
theorem lz_le (a b : BitVec 32) : lz a b ≤ 32 := by unfold lz; omega
theorem bl_le (a : BitVec 32) : Lib.bitLen a.toNat ≤ 32 := Lib.bitLen_le a.toNat 32 (by omega) (a.isLt)
theorem lz_same {a b : BitVec 32} {i : Nat} (h : i < lz a b) : a.getMsbD i = b.getMsbD i := by
  have hx : (a ^^^ b).getMsbD i = false := by
    have l := bl_le (a ^^^ b)
    unfold lz at h
    rw [msb_nat _ _ (by omega)]
    have u := bitLen_up (a ^^^ b).toNat (by have := (a ^^^ b).isLt; omega)
    have : 2 ^ Lib.bitLen (a ^^^ b).toNat ≤ 2 ^ (31 - i) := Nat.pow_le_pow_right (by omega) (by omega)
    rw [Nat.div_eq_of_lt (by omega)]; rfl
  rw [BitVec.getMsbD_xor] at hx
  revert hx; cases a.getMsbD i <;> cases b.getMsbD i <;> simp
theorem lz_other {a b : BitVec 32} (h : lz a b < 32) : a.getMsbD (lz a b) ≠ b.getMsbD (lz a b) := by
  have hx : (a ^^^ b).getMsbD (lz a b) = true := by
    have l := bl_le (a ^^^ b)
    have hi := (a ^^^ b).isLt
    have h0 : (a ^^^ b).toNat ≠ 0 := by
      intro e
      unfold lz at h
      rw [e] at h
      have : Lib.bitLen 0 = 0 := by decide +kernel
      rw [this] at h; omega
    have u := bitLen_up (a ^^^ b).toNat (by omega)
    have d := bitLen_down (a ^^^ b).toNat (by omega) h0
    have p : Lib.bitLen (a ^^^ b).toNat ≠ 0 := by intro e; rw [e] at u; omega
    rw [msb_nat _ _ h]
    have e : 31 - lz a b = Lib.bitLen (a ^^^ b).toNat - 1 := by unfold lz; omega
    rw [e]
    have : (a ^^^ b).toNat / 2 ^ (Lib.bitLen (a ^^^ b).toNat - 1) = 1 := by
      apply Nat.div_eq_of_lt_le
      · omega
      · have : 2 ^ Lib.bitLen (a ^^^ b).toNat = 2 ^ (Lib.bitLen (a ^^^ b).toNat - 1) * 2 := by rw [← Nat.pow_succ]; congr 1; omega
        omega
    rw [this]; rfl
  rw [BitVec.getMsbD_xor] at hx
  revert hx; cases a.getMsbD (lz a b) <;> cases b.getMsbD (lz a b) <;> simp
/-- The kid that a node gets where a prefix comes below it, with a place for the prefix's own Value. -/
def twoKids (s : Bool) (a b : Tr) : Tr × Tr := if s then (b, a) else (a, b)
def grown (p : BitVec 32) (m : Nat) (k : Tr) (B : Nat) (v : Int) (th : Bool) : Tr :=
  match k with
  | nil => node B p m v th nil nil
  | node b' p' n' v' th' l' r' =>
    if m ≤ lz p p' then node B p m v th (twoKids (p'.getMsbD m) (node b' p' n' v' th' l' r') nil).1 (twoKids (p'.getMsbD m) (node b' p' n' v' th' l' r') nil).2
    else node (B + 1) (p &&& msk (lz p p')) (lz p p') 0 false (twoKids (p.getMsbD (lz p p')) (node B p m v th nil nil) (node b' p' n' v' th' l' r')).1 (twoKids (p.getMsbD (lz p p')) (node B p m v th nil nil) (node b' p' n' v' th' l' r')).2
theorem grown_le {p p' : BitVec 32} {m : Nat} (h : m ≤ lz p p') (b' n' : Nat) (v' : Int) (th' : Bool) (l' r' : Tr) (B : Nat) (v : Int) (th : Bool) : grown p m (node b' p' n' v' th' l' r') B v th = node B p m v th (twoKids (p'.getMsbD m) (node b' p' n' v' th' l' r') nil).1 (twoKids (p'.getMsbD m) (node b' p' n' v' th' l' r') nil).2 := if_pos h
theorem grown_gt {p p' : BitVec 32} {m : Nat} (h : ¬ m ≤ lz p p') (b' n' : Nat) (v' : Int) (th' : Bool) (l' r' : Tr) (B : Nat) (v : Int) (th : Bool) : grown p m (node b' p' n' v' th' l' r') B v th = node (B + 1) (p &&& msk (lz p p')) (lz p p') 0 false (twoKids (p.getMsbD (lz p p')) (node B p m v th nil nil) (node b' p' n' v' th' l' r')).1 (twoKids (p.getMsbD (lz p p')) (node B p m v th nil nil) (node b' p' n' v' th' l' r')).2 := if_neg h
theorem cut_msb (p : BitVec 32) (s i : Nat) (hs : s ≤ 32) : (p &&& msk s).getMsbD i = (p.getMsbD i && decide (i < s)) := by
  by_cases hi : i < 32
  · rw [BitVec.getMsbD_and, msk_msb s i hs hi]
  · rw [BitVec.getMsbD_of_ge _ _ (by omega), BitVec.getMsbD_of_ge p i (by omega)]; rfl
theorem grown_ok {ps p : BitVec 32} {ns m : Nat} {k : Tr} (hr : rightB p m = true) (hm : m ≤ 32) (hh : hasB ps ns p = true) (hn : ns < m) (hk : Kid ps ns (p.getMsbD ns) k) (hw : k.Wf) (hs : Stops p m k) (B : Nat) (v : Int) (th : Bool) :
    (grown p m k B v th).Wf ∧ Kid ps ns (p.getMsbD ns) (grown p m k B v th) := by
  cases k with
  | nil => exact ⟨⟨hm, hr, trivial, trivial, trivial, trivial⟩, hn, hh, rfl⟩
  | node b' p' n' v' th' l' r' =>
    have hn' : n' ≤ 32 := hw.1
    obtain ⟨k1, k2, k3⟩ := hk
    by_cases hz : m ≤ lz p p'
    · rw [grown_le hz]
      have e : ∀ i, i < m → p.getMsbD i = p'.getMsbD i := fun i hi => lz_same (by omega)
      have hmn : m < n' := by
        rcases hs with h | h
        · exact h
        · rcases Nat.lt_or_ge m n' with g | g
          · exact g
          · have : hasB p' n' p = true := by rw [hasB_iff hn']; intro i hi; exact e i (by omega)
            rw [h] at this; cases this
      have kk : ∀ s, p'.getMsbD m = s → Kid p m s (node b' p' n' v' th' l' r') := fun s hs' => ⟨hmn, by rw [hasB_iff hm]; intro i hi; exact (e i hi).symm, hs'⟩
      refine ⟨?_, hn, hh, rfl⟩
      unfold twoKids
      cases hb : p'.getMsbD m
      · exact ⟨hm, hr, kk _ hb, trivial, hw, trivial⟩
      · exact ⟨hm, hr, trivial, kk _ hb, trivial, hw⟩
    · rw [grown_gt hz]
      have hs32 : lz p p' < 32 := by omega
      have ne := lz_other hs32
      have e : ∀ i, i < lz p p' → p.getMsbD i = p'.getMsbD i := fun i hi => lz_same hi
      have hsn : lz p p' < n' := by
        rcases Nat.lt_or_ge (lz p p') n' with g | g
        · exact g
        · have : hasB p' n' p = true := by rw [hasB_iff hn']; intro i hi; exact e i (by omega)
          rcases hs with h | h
          · omega
          · rw [h] at this; cases this
      have hns : ns < lz p p' := by
        rcases Nat.lt_trichotomy ns (lz p p') with g | g | g
        · exact g
        · exfalso; apply ne; rw [← g, k3]
        · exfalso; apply ne
          rw [hasB_iff (by omega)] at hh k2
          rw [hh _ g, k2 _ g]
      have rf : rightB (p &&& msk (lz p p')) (lz p p') = true := by
        rw [rightB_iff (by omega)]; intro i hi
        rw [cut_msb _ _ _ (by omega)]; simp; omega
      have hf : ∀ q : BitVec 32, (∀ i, i < lz p p' → q.getMsbD i = p.getMsbD i) → hasB (p &&& msk (lz p p')) (lz p p') q = true := by
        intro q hq; rw [hasB_iff (by omega)]; intro i hi
        rw [cut_msb _ _ _ (by omega), hq i hi]; simp [hi]
      have km : ∀ s, p.getMsbD (lz p p') = s → Kid (p &&& msk (lz p p')) (lz p p') s (node B p m v th nil nil) := fun s hs' => ⟨by omega, hf p fun _ _ => rfl, hs'⟩
      have ko : ∀ s, p'.getMsbD (lz p p') = s → Kid (p &&& msk (lz p p')) (lz p p') s (node b' p' n' v' th' l' r') := fun s hs' => ⟨hsn, hf p' fun i hi => (e i hi).symm, hs'⟩
      have wm : (node B p m v th nil nil).Wf := ⟨hm, hr, trivial, trivial, trivial, trivial⟩
      refine ⟨?_, hns, ?_, ?_⟩
      · unfold twoKids
        cases hb : p.getMsbD (lz p p')
        · have hb' : p'.getMsbD (lz p p') = true := by rw [hb] at ne; revert ne; cases p'.getMsbD (lz p p') <;> simp
          exact ⟨by omega, rf, km _ hb, ko _ hb', wm, hw⟩
        · have hb' : p'.getMsbD (lz p p') = false := by rw [hb] at ne; revert ne; cases p'.getMsbD (lz p p') <;> simp
          exact ⟨by omega, rf, ko _ hb', km _ hb, hw, wm⟩
      · rw [hasB_iff (by omega)] at hh ⊢
        intro i hi
        rw [cut_msb _ _ _ (by omega), hh i hi]; simp; omega
      · rw [cut_msb _ _ _ (by omega)]; simp [hns]
theorem grown_mem (p : BitVec 32) (m : Nat) (k : Tr) (B : Nat) (v : Int) (x : Ro) : x ∈ (grown p m k B v true).ents ↔ x ∈ k.ents ∨ x = (p, m, v) := by
  cases k with
  | nil => simp [grown, ents]
  | node b' p' n' v' th' l' r' =>
    by_cases hz : m ≤ lz p p'
    · rw [grown_le hz]; unfold twoKids; split <;> simp [ents] <;> grind
    · rw [grown_gt hz]; unfold twoKids; split <;> simp [ents] <;> grind
/-- The blocks that are new in it. -/
def newB (p : BitVec 32) (m : Nat) (k : Tr) (B : Nat) : List Nat :=
  match k with
  | nil => [B]
  | node _ p' _ _ _ _ _ => if m ≤ lz p p' then [B] else [B, B + 1]
theorem grown_blocks (p : BitVec 32) (m : Nat) (k : Tr) (B : Nat) (v : Int) (th : Bool) : (grown p m k B v th).blocks.Perm (newB p m k B ++ k.blocks) := by
  cases k with
  | nil => simp [grown, newB, blocks]
  | node b' p' n' v' th' l' r' =>
    by_cases hz : m ≤ lz p p'
    · rw [grown_le hz]; simp only [newB, hz, if_true]; unfold twoKids; split <;> simp [blocks]
    · rw [grown_gt hz]; simp only [newB, hz, if_false]; unfold twoKids; split
      · simp only [blocks, List.append_nil]
        refine List.Perm.trans ?_ (List.Perm.swap _ _ _)
        refine List.Perm.cons _ ?_
        exact List.perm_append_comm
      · simp only [blocks, List.append_nil]
        exact List.Perm.swap _ _ _
end Go.Proofs.Ytlopnagajhjmmaa
