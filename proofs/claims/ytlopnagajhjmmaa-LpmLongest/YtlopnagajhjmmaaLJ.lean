/- Rising lists of prefixes; a trie with a prefix more. Plain facts; no condition. -/
import Derived.Test.YtlopnagajhjmmaaLI
namespace Go.Proofs.Ytlopnagajhjmmaa
open Go.RowKit Tr
instance (x y : Ro) : Decidable (ltR x y) := by unfold ltR; infer_instance
def ins (x : Ro) : List Ro → List Ro
  | [] => [x]
  | y :: l => if ltR y x then y :: ins x l else x :: y :: l
theorem mem_ins (x z : Ro) : ∀ l : List Ro, z ∈ ins x l ↔ z = x ∨ z ∈ l
  | [] => by simp [ins]
  | y :: l => by
    unfold ins; split
    · simp only [List.mem_cons, mem_ins x z l]; grind
    · simp
theorem len_ins (x : Ro) : ∀ l : List Ro, (ins x l).length = l.length + 1
  | [] => rfl
  | y :: l => by unfold ins; split <;> simp [len_ins x l]
theorem ltR_tri {x y : Ro} (h : ¬ ltR x y) (hk : ¬ (x.1 = y.1 ∧ x.2.1 = y.2.1)) : ltR y x := by
  unfold ltR at *
  by_cases e : x.1 = y.1
  · refine .inr ⟨e.symm, ?_⟩
    have : ¬ x.2.1 < y.2.1 := fun g => h (.inr ⟨e, g⟩)
    have : x.2.1 ≠ y.2.1 := fun g => hk ⟨e, g⟩
    omega
  · have : x.1.toNat ≠ y.1.toNat := fun g => e (BitVec.eq_of_toNat_eq g)
    have : ¬ x.1.toNat < y.1.toNat := fun g => h (.inl g)
    exact .inl (by omega)
theorem sorted_ins (x : Ro) : ∀ l : List Ro, l.Pairwise ltR → (∀ y ∈ l, ¬ (y.1 = x.1 ∧ y.2.1 = x.2.1)) → (ins x l).Pairwise ltR
  | [], _, _ => by simp [ins]
  | y :: l, hl, hk => by
    have hl' := List.pairwise_cons.1 hl
    unfold ins; split
    · rename_i h
      refine List.pairwise_cons.2 ⟨?_, sorted_ins x l hl'.2 fun z hz => hk z (by simp [hz])⟩
      intro z hz
      rcases (mem_ins x z l).1 hz with rfl | hz
      · exact h
      · exact hl'.1 z hz
    · rename_i h
      have hxy : ltR x y := ltR_tri h (hk y (by simp))
      refine List.pairwise_cons.2 ⟨?_, hl⟩
      intro z hz
      rcases List.mem_cons.1 hz with rfl | hz
      · exact hxy
      · exact ltR_trans hxy (hl'.1 z hz)
/-- There are only so many prefixes. -/
def keyN (x : Ro) : Nat := x.1.toNat * 64 + x.2.1
theorem len_sorted : ∀ (l : List Ro) (a b : Nat), l.Pairwise ltR → (∀ x ∈ l, x.2.1 ≤ 32 ∧ a ≤ keyN x ∧ keyN x < b) → l.length ≤ b - a
  | [], a, b, _, _ => by simp
  | y :: l, a, b, hl, h => by
    have hl' := List.pairwise_cons.1 hl
    have hy := h y (by simp)
    have := len_sorted l (keyN y + 1) b hl'.2 fun x hx => by
      have hx' := h x (by simp [hx])
      refine ⟨hx'.1, ?_, hx'.2.2⟩
      have := hl'.1 x hx
      unfold keyN
      rcases this with g | ⟨g, g'⟩
      · omega
      · rw [g]; omega
    simp only [List.length_cons]
    omega
theorem ents_le {t : Tr} (hw : t.Wf) : ∀ x ∈ t.ents, x.2.1 ≤ 32 ∧ rightB x.1 x.2.1 = true := by
  intro x hx
  cases t with
  | nil => simp [ents] at hx
  | node b p n v th l r =>
    obtain ⟨_, h2, h3, _⟩ := (ents_under _ hw).1 b p n v th l r rfl x hx
    exact ⟨h2, h3⟩
theorem ents_len {t : Tr} (hw : t.Wf) : t.ents.length ≤ 274877906944 := by
  have := len_sorted t.ents 0 274877906944 (ents_sorted t hw) fun x hx => by
    have h := (ents_le hw x hx).1
    have := x.1.isLt
    exact ⟨h, Nat.zero_le _, by unfold keyN; omega⟩
  omega
/-! The last node on the way to a prefix. -/
def hasKey (L : List Ro) (p : BitVec 32) (m : Nat) : Bool := L.any fun x => x.1 == p && x.2.1 == m
theorem hasKey_iff {L : List Ro} {p : BitVec 32} {m : Nat} : hasKey L p m = true ↔ ∃ v, (p, m, v) ∈ L := by
  unfold hasKey
  rw [List.any_eq_true]
  constructor
  · rintro ⟨⟨a, b, c⟩, h, e⟩
    simp at e
    obtain ⟨rfl, rfl⟩ := e
    exact ⟨c, h⟩
  · rintro ⟨v, h⟩
    exact ⟨_, h, by simp⟩
theorem way_key {t : Tr} {p : BitVec 32} {m : Nat} {C : List Fr} {b : Nat} {ps : BitVec 32} {ns : Nat} {vs : Int} {th : Bool} {l r : Tr} (hw : t.Wf) (h : WayTo t p m C b ps ns vs th l r) (hs : Stops p m (kidAt p ns l r)) (hr : rightB p m = true) (hm : m ≤ 32) :
    (hasKey t.ents p m = (th && ns == m)) ∧ (ns = m → ps = p) ∧ (th = true → (ps, ns, vs) ∈ t.ents) := by
  have hw' : (plug C (node b ps ns vs th l r)).Wf := h.t.symm ▸ hw
  have hws := (wf_plug C _ hw').1
  have rises := (way_rises C b ps ns vs th l r hw').2.2.1
  have own : th = true → (ps, ns, vs) ∈ t.ents := by
    intro ht
    rw [← h.t, mem_plug]
    exact .inl (by simp [ents, ht])
  have same : ns = m → ps = p := by
    intro e
    subst e
    exact same_of_has hm hws.2.1 hr h.has (hasB_refl _ _)
  refine ⟨?_, same, own⟩
  rw [Bool.eq_iff_iff, hasKey_iff]
  constructor
  · rintro ⟨v, hv⟩
    rw [← h.t] at hv
    rcases cov_all hw' h.on hs hv (hasB_refl _ _) (Nat.le_refl _) with ⟨h1, h2⟩ | ⟨f, hf, h1, h2⟩
    · injection h2 with e1 e2
      injection e2 with e2 e3
      simp [h1, e2]
    · injection h2 with e1 e2
      injection e2 with e2 e3
      have := rises f hf
      have := h.n
      omega
  · intro h1
    simp at h1
    refine ⟨vs, ?_⟩
    have := own h1.1
    rw [same h1.2, h1.2] at this
    exact this
/-- A node with another kid. -/
def rekid (b : Nat) (ps : BitVec 32) (ns : Nat) (vs : Int) (th : Bool) (l r : Tr) (s : Bool) (g : Tr) : Tr := node b ps ns vs th (if s then l else g) (if s then g else r)
theorem rekid_wf {b : Nat} {ps : BitVec 32} {ns : Nat} {vs : Int} {th : Bool} {l r g : Tr} {s : Bool} (h : (node b ps ns vs th l r).Wf) (hg : g.Wf) (hk : Kid ps ns s g) : (rekid b ps ns vs th l r s g).Wf := by
  obtain ⟨h1, h2, h3, h4, h5, h6⟩ := h
  unfold rekid
  cases s
  · exact ⟨h1, h2, hk, h4, hg, h6⟩
  · exact ⟨h1, h2, h3, hk, h5, hg⟩
theorem rekid_mem {b : Nat} {ps : BitVec 32} {ns : Nat} {vs : Int} {th : Bool} {l r g : Tr} {s : Bool} {y x : Ro} (h : ∀ x, x ∈ g.ents ↔ x ∈ (if s then r else l).ents ∨ x = y) : x ∈ (rekid b ps ns vs th l r s g).ents ↔ x ∈ (node b ps ns vs th l r).ents ∨ x = y := by
  unfold rekid
  cases s
  · simp only [ents, List.mem_append, Bool.false_eq_true, if_false] at *
    rw [h]; grind
  · simp only [ents, List.mem_append, if_true] at *
    rw [h]; grind
theorem rekid_blocks {b : Nat} {ps : BitVec 32} {ns : Nat} {vs : Int} {th : Bool} {l r g : Tr} {s : Bool} {N : List Nat} (h : g.blocks.Perm (N ++ (if s then r else l).blocks)) : (rekid b ps ns vs th l r s g).blocks.Perm (N ++ (node b ps ns vs th l r).blocks) := by
  unfold rekid
  cases s
  · simp only [blocks, Bool.false_eq_true, if_false] at *
    refine List.Perm.trans ?_ List.perm_middle.symm
    refine List.Perm.cons _ ?_
    rw [← List.append_assoc]
    exact h.append_right _
  · simp only [blocks, if_true] at *
    refine List.Perm.trans ?_ List.perm_middle.symm
    refine List.Perm.cons _ ?_
    refine (h.append_left _).trans ?_
    rw [← List.append_assoc, ← List.append_assoc]
    exact (List.perm_append_comm).append_right _
theorem rekid_own {w : World} {b : Nat} {ps : BitVec 32} {ns : Nat} {vs : Int} {th : Bool} {l r g : Tr} {s : Bool} (h : w.heap[b]? = some (.cells (withKid ps ns vs th l.bk r.bk s g.bk) 57 (0, 0))) (ho : Own w (if s then l else r)) (hg : Own w g) : Own w (rekid b ps ns vs th l r s g) := by
  unfold rekid
  unfold withKid at h
  cases s
  · exact ⟨h, hg, ho⟩
  · exact ⟨h, ho, hg⟩
theorem kidAt_if (ip : BitVec 32) (n : Nat) (l r : Tr) : kidAt ip n l r = if ip.getMsbD n then r else l := rfl
theorem grown_row {w : World} {p : BitVec 32} {m : Nat} {k : Tr} {B : Nat} {v : Int} {th : Bool} (h : Own w (grown p m k B v th)) : ∃ ka kb, w.heap[B]? = some (.cells (nodC p m v th ka kb) 57 (0, 0)) := by
  cases k with
  | nil => exact ⟨_, _, h.1⟩
  | node b' p' n' v' th' l' r' =>
    by_cases hz : m ≤ lz p p'
    · rw [grown_le hz] at h; exact ⟨_, _, h.1⟩
    · rw [grown_gt hz] at h
      unfold twoKids at h
      cases hb : p.getMsbD (lz p p')
      · rw [hb] at h; exact ⟨_, _, h.2.1.1⟩
      · rw [hb] at h; exact ⟨_, _, h.2.2.1⟩
theorem grown_set {w w' : World} {p : BitVec 32} {m : Nat} {k : Tr} {B : Nat} {v v2 : Int} {th th2 : Bool} (h : Own w (grown p m k B v th)) (hrow : ∀ ka kb, w.heap[B]? = some (.cells (nodC p m v th ka kb) 57 (0, 0)) → w'.heap[B]? = some (.cells (nodC p m v2 th2 ka kb) 57 (0, 0)))
    (ho : ∀ x, x = B + 1 ∨ x ∈ k.blocks → w'.heap[x]? = w.heap[x]?) : Own w' (grown p m k B v2 th2) := by
  cases k with
  | nil => exact ⟨hrow _ _ h.1, trivial, trivial⟩
  | node b' p' n' v' th' l' r' =>
    have fr : Own w (node b' p' n' v' th' l' r') → Own w' (node b' p' n' v' th' l' r') := fun ok => own_frame ok fun x hx => ho x (.inr hx)
    by_cases hz : m ≤ lz p p'
    · rw [grown_le hz] at h ⊢
      unfold twoKids at h ⊢
      cases hb : p'.getMsbD m
      · rw [hb] at h; exact ⟨hrow _ _ h.1, fr h.2.1, trivial⟩
      · rw [hb] at h; exact ⟨hrow _ _ h.1, trivial, fr h.2.2⟩
    · rw [grown_gt hz] at h ⊢
      unfold twoKids at h ⊢
      cases hb : p.getMsbD (lz p p')
      · rw [hb] at h; exact ⟨(ho _ (.inl rfl)).trans h.1, ⟨hrow _ _ h.2.1.1, trivial, trivial⟩, fr h.2.2⟩
      · rw [hb] at h; exact ⟨(ho _ (.inl rfl)).trans h.1, fr h.2.1, ⟨hrow _ _ h.2.2.1, trivial, trivial⟩⟩
theorem grown_bk (p : BitVec 32) (m : Nat) (k : Tr) (B : Nat) (v v2 : Int) (th th2 : Bool) : (grown p m k B v th).bk = (grown p m k B v2 th2).bk := by
  cases k with
  | nil => rfl
  | node b' p' n' v' th' l' r' =>
    by_cases hz : m ≤ lz p p'
    · rw [grown_le hz, grown_le hz]; rfl
    · rw [grown_gt hz, grown_gt hz]; rfl
theorem newB_ge (p : BitVec 32) (m : Nat) (k : Tr) (B : Nat) : (∀ x ∈ newB p m k B, B ≤ x) ∧ (newB p m k B).Nodup := by
  cases k with
  | nil => simp [newB]
  | node b' p' n' v' th' l' r' =>
    unfold newB
    split
    · rename_i h; cases h
    · split
      · simp
      · simp
end Go.Proofs.Ytlopnagajhjmmaa
