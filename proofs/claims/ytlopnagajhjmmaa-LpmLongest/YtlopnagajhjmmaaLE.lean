/- A trie with a place in it: the way from the root down. Plain facts; no condition. -/
import Derived.Test.YtlopnagajhjmmaaLD
namespace Go.Proofs.Ytlopnagajhjmmaa
open Go.RowKit Tr
structure Fr where
  b : Nat
  p : BitVec 32
  n : Nat
  v : Int
  th : Bool
  side : Bool
  oth : Tr
def up (f : Fr) (s : Tr) : Tr := .node f.b f.p f.n f.v f.th (if f.side then f.oth else s) (if f.side then s else f.oth)
def plug : List Fr → Tr → Tr
  | [], s => s
  | f :: C, s => plug C (up f s)
def Own (w : World) : Tr → Prop
  | nil => True
  | node b p n v th l r => w.heap[b]? = some (.cells (nodC p n v th (kp l.bk) (kp r.bk)) 57 (0, 0)) ∧ Own w l ∧ Own w r
def frC (f : Fr) (k : Option Nat) : Array Value := nodC f.p f.n f.v f.th (kp (if f.side then f.oth.bk else k)) (kp (if f.side then k else f.oth.bk))
def OwnF (w : World) : List Fr → Option Nat → Prop
  | [], _ => True
  | f :: C, k => w.heap[f.b]? = some (.cells (frC f k) 57 (0, 0)) ∧ Own w f.oth ∧ OwnF w C (some f.b)
theorem own_up {w : World} {f : Fr} {s : Tr} : Own w (up f s) ↔ w.heap[f.b]? = some (.cells (frC f s.bk) 57 (0, 0)) ∧ Own w f.oth ∧ Own w s := by
  obtain ⟨b, p, n, v, th, sd, oth⟩ := f
  cases sd
  · simp only [up, Own, frC, Bool.false_eq_true, if_false]
    exact ⟨fun ⟨a, b, c⟩ => ⟨a, c, b⟩, fun ⟨a, b, c⟩ => ⟨a, c, b⟩⟩
  · simp only [up, Own, frC, if_true]
theorem own_plug {w : World} : ∀ (C : List Fr) (s : Tr), Own w (plug C s) ↔ OwnF w C s.bk ∧ Own w s
  | [], s => by simp [plug, OwnF]
  | f :: C, s => by
    rw [plug, own_plug C (up f s), own_up, OwnF]
    exact ⟨fun ⟨a, b, c, d⟩ => ⟨⟨b, c, a⟩, d⟩, fun ⟨⟨b, c, a⟩, d⟩ => ⟨a, b, c, d⟩⟩
def blkF : List Fr → List Nat
  | [] => []
  | f :: C => f.b :: (f.oth.blocks ++ blkF C)
theorem blocks_up (f : Fr) (s : Tr) : (up f s).blocks.Perm (s.blocks ++ (f.b :: f.oth.blocks)) := by
  obtain ⟨b, p, n, v, th, sd, oth⟩ := f
  cases sd
  · simp only [up, blocks, Bool.false_eq_true, if_false]
    exact List.perm_middle.symm
  · simp only [up, blocks, if_true]
    exact ((List.perm_append_comm (l₁ := oth.blocks) (l₂ := s.blocks)).cons b).trans List.perm_middle.symm
theorem blocks_plug : ∀ (C : List Fr) (s : Tr), (plug C s).blocks.Perm (s.blocks ++ blkF C)
  | [], s => by simp [plug, blkF]
  | f :: C, s => by
    rw [plug, blkF]
    refine (blocks_plug C (up f s)).trans (((blocks_up f s).append_right _).trans ?_)
    simp
theorem own_frame {w w' : World} : ∀ {t : Tr}, Own w t → (∀ b ∈ t.blocks, w'.heap[b]? = w.heap[b]?) → Own w' t
  | nil, _, _ => trivial
  | node b p n v th l r, ⟨h1, h2, h3⟩, h => by
    refine ⟨(h b (by simp [blocks])).trans h1, own_frame h2 fun x hx => h x (by simp [blocks, hx]), own_frame h3 fun x hx => h x (by simp [blocks, hx])⟩
theorem ownF_frame {w w' : World} : ∀ {C : List Fr} {k : Option Nat}, OwnF w C k → (∀ b ∈ blkF C, w'.heap[b]? = w.heap[b]?) → OwnF w' C k
  | [], _, _, _ => trivial
  | f :: C, k, ⟨h1, h2, h3⟩, h => by
    refine ⟨(h f.b (by simp [blkF])).trans h1, own_frame h2 fun x hx => h x (by simp [blkF, hx]), ownF_frame h3 fun x hx => h x (by simp [blkF, hx])⟩
theorem own_lt {w : World} : ∀ {t : Tr}, Own w t → ∀ b ∈ t.blocks, b < w.heap.size
  | nil, _, b, hb => by simp [blocks] at hb
  | node b p n v th l r, ⟨h1, h2, h3⟩, x, hx => by
    simp only [blocks, List.mem_cons, List.mem_append] at hx
    rcases hx with rfl | hx | hx
    · exact lt_of_heap h1
    · exact own_lt h2 x hx
    · exact own_lt h3 x hx
def ownE (th : Bool) (p : BitVec 32) (n : Nat) (v : Int) : List Ro := if th then [(p, n, v)] else []
def entF : List Fr → List Ro
  | [] => []
  | f :: C => ownE f.th f.p f.n f.v ++ (f.oth.ents ++ entF C)
theorem mem_up (f : Fr) (s : Tr) (x : Ro) : x ∈ (up f s).ents ↔ x ∈ s.ents ∨ x ∈ ownE f.th f.p f.n f.v ∨ x ∈ f.oth.ents := by
  obtain ⟨b, p, n, v, th, sd, oth⟩ := f
  cases sd <;> simp [up, ents, ownE] <;> grind
theorem mem_plug : ∀ (C : List Fr) (s : Tr) (x : Ro), x ∈ (plug C s).ents ↔ x ∈ s.ents ∨ x ∈ entF C
  | [], s, x => by simp [plug, entF]
  | f :: C, s, x => by
    rw [plug, mem_plug C, mem_up, entF]
    simp only [List.mem_append]
    grind
/-- The head of a node. -/
def SameHead : Tr → Tr → Prop
  | node _ p n _ _ _ _, node _ p' n' _ _ _ _ => p = p' ∧ n = n'
  | _, _ => False
theorem kid_same {p : BitVec 32} {n : Nat} {sd : Bool} {s s' : Tr} (h : SameHead s s') (hk : Kid p n sd s) : Kid p n sd s' := by
  cases s <;> cases s' <;> simp_all [SameHead, Kid]
theorem wf_up {f : Fr} {s : Tr} : (up f s).Wf ↔ f.n ≤ 32 ∧ rightB f.p f.n = true ∧ Kid f.p f.n f.side s ∧ Kid f.p f.n (!f.side) f.oth ∧ s.Wf ∧ f.oth.Wf := by
  obtain ⟨b, p, n, v, th, sd, oth⟩ := f
  cases sd <;> simp [up, Wf] <;> grind
theorem sameHead_up (f : Fr) (s s' : Tr) : SameHead (up f s) (up f s') := ⟨rfl, rfl⟩
theorem wf_plug : ∀ (C : List Fr) (s : Tr), (plug C s).Wf → s.Wf ∧ ∀ s', s'.Wf → (SameHead s s' ∨ ∃ f C', C = f :: C' ∧ Kid f.p f.n f.side s') → (plug C s').Wf
  | [], s, h => ⟨h, fun s' h' _ => h'⟩
  | f :: C, s, h => by
    obtain ⟨h1, h2⟩ := wf_plug C (up f s) h
    rw [wf_up] at h1
    obtain ⟨a1, a2, a3, a4, a5, a6⟩ := h1
    refine ⟨a5, fun s' hs' hk => h2 (up f s') ?_ (.inl (sameHead_up f s s'))⟩
    rw [wf_up]
    refine ⟨a1, a2, ?_, a4, hs', a6⟩
    rcases hk with hk | ⟨f', C', e, hk⟩
    · exact kid_same hk a3
    · injection e with e1 e2; subst e1; exact hk
/-! The way to an address. -/
def OnWay (ip : BitVec 32) (f : Fr) : Prop := hasB f.p f.n ip = true ∧ f.side = ip.getMsbD f.n
theorem under_no {f : Fr} {ip : BitVec 32} {x : Ro} (hw : OnWay ip f) (hu : UnderK f.p f.n (!f.side) x) (hx : hasB x.1 x.2.1 ip = true) : False := by
  obtain ⟨h1, h2, h3, h4, h5⟩ := hu
  rw [hasB_iff h2] at hx
  have := hx f.n h1
  rw [h5, ← hw.2] at this
  cases f.side <;> simp at this
/-- What of a trie has an address, and lies not below the place, stands on the way. -/
theorem cov_way : ∀ (C : List Fr) (s : Tr) (ip : BitVec 32), (plug C s).Wf → (∀ f ∈ C, OnWay ip f) → ∀ x ∈ entF C, hasB x.1 x.2.1 ip = true → ∃ f ∈ C, f.th = true ∧ x = (f.p, f.n, f.v)
  | [], s, ip, _, _, x, hx, _ => by simp [entF] at hx
  | f :: C, s, ip, hw, ho, x, hx, hh => by
    have hw1 := (wf_plug C (up f s) hw).1
    rw [wf_up] at hw1
    obtain ⟨a1, a2, a3, a4, a5, a6⟩ := hw1
    simp only [entF, List.mem_append] at hx
    rcases hx with hx | hx | hx
    · unfold ownE at hx
      cases hth : f.th
      · simp [hth] at hx
      · simp [hth] at hx; exact ⟨f, by simp, hth, hx⟩
    · exact (under_no (ho f (by simp)) ((ents_under f.oth a6).2 _ _ _ a4 x hx) hh).elim
    · obtain ⟨g, hg, r⟩ := cov_way C (up f s) ip hw (fun g hg => ho g (by simp [hg])) x hx hh
      exact ⟨g, by simp [hg], r⟩
/-- The way's lengths rise. -/
theorem way_rises : ∀ (C : List Fr) (b : Nat) (p : BitVec 32) (n : Nat) (v : Int) (th : Bool) (l r : Tr), (plug C (node b p n v th l r)).Wf → C.length ≤ n ∧ n ≤ 32 ∧ (∀ f ∈ C, f.n < n) ∧ C.Pairwise (fun f g => g.n < f.n)
  | [], b, p, n, v, th, l, r, h => ⟨Nat.zero_le _, h.1, by simp, List.Pairwise.nil⟩
  | f :: C, b, p, n, v, th, l, r, h => by
    obtain ⟨i1, i2, i3, i4⟩ := way_rises C f.b f.p f.n f.v f.th _ _ h
    have hw1 := (wf_plug C (up f _) h).1
    rw [wf_up] at hw1
    obtain ⟨a1, a2, a3, a4, a5, a6⟩ := hw1
    have hk : f.n < n := a3.1
    refine ⟨by simp; omega, a5.1, ?_, List.pairwise_cons.2 ⟨i3, i4⟩⟩
    intro g hg
    rcases List.mem_cons.1 hg with rfl | hg
    · exact hk
    · have := i3 g hg; omega
/-- Where a way ends: no node below has the address within that length. -/
def Stops (ip : BitVec 32) (m : Nat) : Tr → Prop
  | nil => True
  | node _ p n _ _ _ _ => m < n ∨ hasB p n ip = false
def kidAt (ip : BitVec 32) (n : Nat) (l r : Tr) : Tr := if ip.getMsbD n then r else l
theorem cov_stop {ip : BitVec 32} {m : Nat} {t : Tr} (hw : t.Wf) (hs : Stops ip m t) {x : Ro} (hx : x ∈ t.ents) (hh : hasB x.1 x.2.1 ip = true) (hm : x.2.1 ≤ m) : False := by
  cases t with
  | nil => simp [ents] at hx
  | node b p n v th l r =>
    obtain ⟨u1, u2, u3, u4⟩ := (ents_under _ hw).1 b p n v th l r rfl x hx
    rcases hs with hs | hs
    · omega
    · have := hasB_trans u2 u1 u4 hh
      rw [hs] at this; cases this
theorem cov_all {C : List Fr} {b : Nat} {p : BitVec 32} {n : Nat} {v : Int} {th : Bool} {l r : Tr} {ip : BitVec 32} {m : Nat} (hw : (plug C (node b p n v th l r)).Wf) (ho : ∀ f ∈ C, OnWay ip f) (hs : Stops ip m (kidAt ip n l r))
    {x : Ro} (hx : x ∈ (plug C (node b p n v th l r)).ents) (hh : hasB x.1 x.2.1 ip = true) (hm : x.2.1 ≤ m) : (th = true ∧ x = (p, n, v)) ∨ ∃ f ∈ C, f.th = true ∧ x = (f.p, f.n, f.v) := by
  rw [mem_plug] at hx
  rcases hx with hx | hx
  · have hw1 := (wf_plug C _ hw).1
    obtain ⟨hn, hr, kl, kr, wl, wr⟩ := hw1
    simp only [ents, List.mem_append] at hx
    have il := (ents_under l wl).2 p n false kl
    have ir := (ents_under r wr).2 p n true kr
    rcases hx with hx | hx | hx
    · cases th
      · simp at hx
      · simp at hx; exact .inl ⟨rfl, hx⟩
    · exfalso
      cases hb : ip.getMsbD n
      · rw [kidAt, hb] at hs; exact cov_stop wl hs hx hh hm
      · obtain ⟨h1, h2, h3, h4, h5⟩ := il x hx
        rw [hasB_iff h2] at hh
        have := hh n h1
        rw [hb, h5] at this; cases this
    · exfalso
      cases hb : ip.getMsbD n
      · obtain ⟨h1, h2, h3, h4, h5⟩ := ir x hx
        rw [hasB_iff h2] at hh
        have := hh n h1
        rw [hb, h5] at this; cases this
      · rw [kidAt, hb] at hs; exact cov_stop wr hs hx hh hm
  · exact .inr (cov_way C _ ip hw ho x hx hh)
theorem fr_mem : ∀ {C : List Fr} {f : Fr}, f ∈ C → f.th = true → (f.p, f.n, f.v) ∈ entF C
  | g :: C, f, h, ht => by
    simp only [entF, List.mem_append]
    rcases List.mem_cons.1 h with rfl | h
    · exact .inl (by simp [ownE, ht])
    · exact .inr (.inr (fr_mem h ht))
end Go.Proofs.Ytlopnagajhjmmaa
