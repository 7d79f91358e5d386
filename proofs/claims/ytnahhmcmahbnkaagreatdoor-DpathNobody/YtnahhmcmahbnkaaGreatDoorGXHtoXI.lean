/- Actions in memory, and what a run does with them. Plain laws, no condition. -/
import Derived.Test.YtnahhmcmahbnkaaGreatDoorGWGtoQV
import Derived.Test.YtnahhmcmahbnkaaGreatDoorGAJtoWE
import Derived.Test.YtnahhmcmahbnkaaGreatDoorGFZtoAF
import Derived.Lib.Hide
import Derived.Test.YtnahhmcmahbnkaaGreatDoorXG
import Derived.Maps.AppendAt
namespace Go.Proofs.YtnahhmcmahbnkaaGreatDoor
open Go.RowKit
/-- An action: Output, Go to the table of a flow, Hop, or a Clone of Outputs. -/
inductive AOp where
  | out (p : Int)
  | go (i : Nat)
  | hop
  | clone (ps : List Int)
/-- A slice of n actions, the i-th as r i says, in a block from B on. -/
def SliceAt (B : Nat) (W : World) (v : Value) (n : Nat) (r : Nat → Array Value → Prop) : Prop := ∃ a cap, v = .slice a n cap ∧ n ≤ cap ∧ (n = 0 ∨ ∃ g o D, a = some ⟨g, o * 15, none⟩ ∧ B ≤ g ∧ W.heap[g]? = some (.cells D 49 (0, 0)) ∧ ∀ i, i < n → r i (D.extract ((o + i) * 15) ((o + i) * 15 + 15)))
theorem SliceAt.of {B : Nat} {W W' : World} {v : Value} {n : Nat} {r r' : Nat → Array Value → Prop} (h : SliceAt B W v n r) (hk : ∀ g D f, B ≤ g → W.heap[g]? = some (.cells D 49 f) → W'.heap[g]? = W.heap[g]?) (hr : ∀ i A, i < n → r i A → r' i A) : SliceAt B W' v n r' := by
  obtain ⟨a, cap, rfl, hc, h0 | ⟨g, o, D, rfl, h1, h2, h3⟩⟩ := h
  · exact ⟨a, cap, rfl, hc, .inl h0⟩
  · exact ⟨_, cap, rfl, hc, .inr ⟨g, o, D, rfl, h1, (hk g D _ h1 h2).trans h2, fun i hi => hr i _ hi (h3 i hi)⟩⟩
theorem SliceAt.base {B B' : Nat} {W : World} {v : Value} {n : Nat} {r : Nat → Array Value → Prop} (h : SliceAt B' W v n r) (hB : B ≤ B') : SliceAt B W v n r := by
  obtain ⟨a, cap, rfl, hc, h0 | ⟨g, o, D, rfl, h1, h2, h3⟩⟩ := h
  · exact ⟨a, cap, rfl, hc, .inl h0⟩
  · exact ⟨_, cap, rfl, hc, .inr ⟨g, o, D, rfl, by omega, h2, h3⟩⟩
theorem SliceAt.tail {B : Nat} {W : World} {n cap : Nat} {a : Option Addr} {r : Nat → Array Value → Prop} (h : SliceAt B W (.slice a (n + 1) cap) (n + 1) r) : SliceAt B W (sliced a 1 (n + 1) cap 15) n (fun i => r (i + 1)) := by
  obtain ⟨a', cap', e, hc, h⟩ := h
  cases e
  rcases h with h0 | ⟨g, o, D, rfl, h1, h2, h3⟩
  · omega
  · refine ⟨_, cap - 1, rfl, by omega, ?_⟩
    by_cases h0 : n = 0
    · exact .inl h0
    · refine .inr ⟨g, o + 1, D, ?_, h1, h2, fun i hi => ?_⟩
      · rw [if_neg (by omega)]
        simp [Addr.add, Nat.add_mul]
      · have := h3 (i + 1) (by omega)
        rwa [show o + (i + 1) = o + 1 + i by omega] at this
def OutsAt (B : Nat) (W : World) (v : Value) (ps : List Int) : Prop := SliceAt B W v ps.length (fun i A => ∃ p, ps[i]? = some p ∧ A = Ac.outA p)
def RowAt (n : Nat) (T : Nat → Nat) (B : Nat) (W : World) : AOp → Array Value → Prop
  | .out p, A => A = Ac.outA p
  | .go i, A => A = Ac.goA (T i : Int) ∧ i < n
  | .hop, A => A = Ac.leafA 3
  | .clone ps, A => ∃ v, A = Ac.cloneA v ∧ OutsAt B W v ps
def ActsAt (n : Nat) (T : Nat → Nat) (l : List AOp) (B : Nat) (W : World) (v : Value) : Prop := SliceAt B W v l.length (fun i A => ∃ x, l[i]? = some x ∧ RowAt n T B W x A)
theorem RowAt.of {n : Nat} {T : Nat → Nat} {B : Nat} {W W' : World} {x : AOp} {A : Array Value} (h : RowAt n T B W x A) (hk : ∀ g D f, B ≤ g → W.heap[g]? = some (.cells D 49 f) → W'.heap[g]? = W.heap[g]?) : RowAt n T B W' x A := by
  cases x with
  | clone ps =>
    obtain ⟨v, e, h⟩ := h
    exact ⟨v, e, SliceAt.of h hk (fun _ _ _ h => h)⟩
  | _ => exact h
theorem ActsAt.of {n : Nat} {T : Nat → Nat} {l : List AOp} {B : Nat} {W W' : World} {v : Value} (h : ActsAt n T l B W v) (hk : ∀ g D f, B ≤ g → W.heap[g]? = some (.cells D 49 f) → W'.heap[g]? = W.heap[g]?) : ActsAt n T l B W' v :=
  SliceAt.of h hk (fun _ _ _ ⟨x, h1, h2⟩ => ⟨x, h1, h2.of hk⟩)
theorem acts_lasts (n : Nat) (T : Nat → Nat) (l : List AOp) : Ac.Lasts (ActsAt n T l) := fun _ _ _ _ h _ hk => h.of (fun g _ _ h1 h2 => hk g h1 (lt_of_heap h2))
theorem ActsAt.slice {n : Nat} {T : Nat → Nat} {l : List AOp} {B : Nat} {W : World} {v : Value} (h : ActsAt n T l B W v) : ∃ a k, v = .slice a l.length k := by
  obtain ⟨a, cap, e, _⟩ := h
  exact ⟨a, cap, e⟩
theorem ActsAt.tail {n : Nat} {T : Nat → Nat} {x : AOp} {l : List AOp} {B cap : Nat} {W : World} {a : Option Addr} (h : ActsAt n T (x :: l) B W (.slice a (l.length + 1) cap)) : ActsAt n T l B W (sliced a 1 (l.length + 1) cap 15) :=
  SliceAt.of (SliceAt.tail h) (fun _ _ _ _ _ => rfl) (fun i A _ ⟨x, h1, h2⟩ => ⟨x, by simpa using h1, h2⟩)
theorem ActsAt.head {n : Nat} {T : Nat → Nat} {x : AOp} {l : List AOp} {B cap : Nat} {W : World} {a : Option Addr} (h : ActsAt n T (x :: l) B W (.slice a (l.length + 1) cap)) : ∃ g o D, a = some ⟨g, o * 15, none⟩ ∧ B ≤ g ∧ W.heap[g]? = some (.cells D 49 (0, 0)) ∧ RowAt n T B W x (D.extract (o * 15) (o * 15 + 15)) := by
  obtain ⟨a', cap', e, _, h0 | ⟨g, o, D, rfl, h1, h2, h3⟩⟩ := h
  · simp at h0
  · cases e
    obtain ⟨x', h4, h5⟩ := h3 0 (by simp)
    simp at h4
    subst h4
    exact ⟨g, o, D, rfl, h1, h2, by simpa using h5⟩
theorem outs_acts {n : Nat} {T : Nat → Nat} {B : Nat} {W : World} {v : Value} {ps : List Int} (h : OutsAt B W v ps) : ActsAt n T (ps.map .out) B W v := by
  have h2 := SliceAt.of (W' := W) (r' := fun i A => ∃ x, (ps.map AOp.out)[i]? = some x ∧ RowAt n T B W x A) h (fun _ _ _ _ _ => rfl) (fun i A _ ⟨p, h1, h2⟩ => ⟨.out p, by simp [h1], h2⟩)
  unfold ActsAt
  rwa [List.length_map]
theorem row_one {n : Nat} {T : Nat → Nat} {B : Nat} {W : World} {x : AOp} {A : Array Value} (h : RowAt n T B W x A) : A.size = 15 ∧ A.all (·.oneCell') = true := by
  cases x with
  | out p => cases h; exact ⟨rfl, by kernel_rfl⟩
  | go i => obtain ⟨rfl, _⟩ := h; exact ⟨rfl, by kernel_rfl⟩
  | hop => cases h; exact ⟨rfl, by kernel_rfl⟩
  | clone ps =>
    obtain ⟨v, e, a, cap, e2, _⟩ := h
    subst e2; subst e
    exact ⟨rfl, Ac.cloneA_one _ _ _⟩
/-- What was sent: the ports, with the State of each. -/
abbrev SentL := List (Int × Array Value)
def sentC (x : Int × Array Value) : List Value := .bool false :: .int .i64 x.1 :: x.2.toList
def sentsC (o : SentL) : List Value := o.flatMap sentC
/-- A run: flows' actions, fuel, the list, the State, goes, what was sent: whether it goes on, goes, what was sent. -/
def runO (F : Nat → List AOp) : Nat → List AOp → Array Value → Nat → SentL → Option (Bool × Nat × SentL)
  | 0, _, _, _, _ => none
  | _ + 1, [], _, g, o => some (true, g, o)
  | f + 1, .out p :: r, s, g, o => runO F f r s g (o ++ [(p, s)])
  | f + 1, .go i :: _, s, g, o => if g = 4096 then some (false, g, o) else runO F f (F i) s (g + 1) o
  | f + 1, .hop :: r, s, g, o => if Ac.hopE s = 0 then runO F f r (Ac.hopR s) g o else none
  | f + 1, .clone ps :: r, s, g, o => match runO F f (ps.map .out) s g o with
    | some (true, g', o') => runO F f r s g' o'
    | x => x
theorem runO_mono {F : Nat → List AOp} : ∀ {f : Nat} {l : List AOp} {s : Array Value} {g : Nat} {o : SentL} {b : Bool} {g' : Nat} {o' : SentL}, runO F f l s g o = some (b, g', o') → o.length ≤ o'.length := by
  intro f
  induction f with
  | zero => intro l s g o b g' o' h; simp [runO] at h
  | succ f ih =>
    intro l s g o b g' o' h
    cases l with
    | nil => simp [runO] at h; obtain ⟨_, _, rfl⟩ := h; exact Nat.le_refl _
    | cons x r =>
      cases x with
      | out p =>
        have := ih h
        simp at this; omega
      | go i =>
        simp only [runO] at h
        split at h
        · simp at h; obtain ⟨_, _, rfl⟩ := h; exact Nat.le_refl _
        · exact ih h
      | hop =>
        simp only [runO] at h
        split at h
        · exact ih h
        · simp at h
      | clone ps =>
        simp only [runO] at h
        split at h
        · rename_i h1
          exact Nat.le_trans (ih h1) (ih h)
        · exact ih h
/-- The fields of a run in memory. -/
abbrev runC (pb : Nat) (tv sv : Value) (g : Nat) : Array Value := #[.pointer (some ⟨pb, 0, none⟩), tv, sv, .int .i64 (g : Int)]
/-- What a run leaves alone: all from before B, and all below n that is neither a run nor a list of Sents. -/
structure Mv (B n : Nat) (W W' : World) : Prop where
  below : Below B W W'
  keep : ∀ g, g < n → g < W.heap.size → (∀ A r, W.heap[g]? ≠ some (.cells A 66 r)) → (∀ A r, W.heap[g]? ≠ some (.cells A 89 r)) → W'.heap[g]? = W.heap[g]?
theorem Mv.refl (B n : Nat) (W : World) : Mv B n W W := ⟨Below.refl _ _, fun _ _ _ _ _ => rfl⟩
theorem Mv.mono {B m n : Nat} {W W' : World} (h : Mv B m W W') (hn : n ≤ m) : Mv B n W W' := ⟨h.below, fun g hg => h.keep g (Nat.lt_of_lt_of_le hg hn)⟩
theorem Mv.ofBelow {B n : Nat} {W W' : World} (h : Below W.heap.size W W') (hB : B ≤ W.heap.size) : Mv B n W W' := ⟨h.mono hB, fun g _ hg _ _ => h.block g hg⟩
theorem Mv.trans {B n : Nat} {W W' W'' : World} (h : Mv B n W W') (h2 : Mv B n W' W'') : Mv B n W W'' :=
  ⟨h.below.trans h2.below, fun g hn hg h3 h4 => by
    have e := h.keep g hn hg h3 h4
    exact (h2.keep g hn (Nat.lt_of_lt_of_le hg h.below.size) (fun A r h => h3 A r (e ▸ h)) (fun A r h => h4 A r (e ▸ h))).trans e⟩
/-- A change of blocks from n on, or of a run, or of a list of Sents. -/
theorem Mv.change {B n x : Nat} {W W' : World} (hb : Below B W W') (h : ∀ g, g < W.heap.size → g ≠ x → W'.heap[g]? = W.heap[g]?) (hx : n ≤ x ∨ (∃ A r, W.heap[x]? = some (.cells A 66 r)) ∨ ∃ A r, W.heap[x]? = some (.cells A 89 r)) : Mv B n W W' :=
  ⟨hb, fun g hn hg h3 h4 => h g hg (fun e => by
    subst e
    rcases hx with hx | ⟨A, r, hx⟩ | ⟨A, r, hx⟩
    · omega
    · exact h3 A r hx
    · exact h4 A r hx)⟩
theorem Mv.cells {B n : Nat} {W W' : World} (h : Mv B n W W') {g : Nat} {A : Array Value} {t : TypeId} {r : Nat × Nat} (hn : g < n) (hg : W.heap[g]? = some (.cells A t r)) (h1 : t ≠ 66) (h2 : t ≠ 89) : W'.heap[g]? = some (.cells A t r) :=
  (h.keep g hn (lt_of_heap hg) (fun A' r' e => by rw [hg] at e; cases e; exact h1 rfl) (fun A' r' e => by rw [hg] at e; cases e; exact h2 rfl)).trans hg
theorem Mv.acts {B n : Nat} {W W' : World} (h : Mv B W.heap.size W W') {T : Nat → Nat} {l : List AOp} {C : Nat} {v : Value} (ha : ActsAt n T l C W v) : ActsAt n T l C W' v :=
  ha.of (fun g D f _ h2 => (h.cells (lt_of_heap h2) h2 (by decide) (by decide)).trans h2.symm)
/-- What append leaves alone, seen from blocks of other types. -/
theorem grown_cells {B k m q : Nat} {W W' : World} {v : Value} {xs : List Value} {A : Array Value} {t : TypeId} {r : Nat × Nat} (hown : W.ownsRow B 66 m v k xs) (hg : W.grownBy W' v.ownBlock) (h : W.heap[q]? = some (.cells A t r)) (ht : t ≠ 66) : W'.heap[q]? = some (.cells A t r) := by
  refine (hg.block q (lt_of_heap h) ?_).trans h
  intro e
  rcases hown.2 with ⟨rfl, _⟩ | ⟨g, cap, cur, rfl, _, hc, _⟩
  · simp [Value.ownBlock] at e
  · simp [Value.ownBlock] at e
    subst e
    rw [h] at hc
    cases hc
    exact ht rfl
theorem grown_mv {B k m n : Nat} {W W' : World} {v : Value} {xs : List Value} (hB : B ≤ W.heap.size) (hown : W.ownsRow B 66 m v k xs) (hg : W.grownBy W' v.ownBlock) : Mv B n W W' := by
  rcases hown.2 with ⟨rfl, _⟩ | ⟨g, cap, cur, rfl, hb, hc, _⟩
  · exact Mv.ofBelow ⟨hg.os, hg.tape, hg.output, hg.size, fun q hq => hg.block q hq (by simp [Value.ownBlock])⟩ hB
  · refine Mv.change (x := g) ⟨hg.os, hg.tape, hg.output, hg.size, fun q hq => hg.block q (by omega) (by simp [Value.ownBlock]; omega)⟩ (fun q hq hne => hg.block q hq (by simp [Value.ownBlock]; exact hne)) (.inr (.inl ⟨_, _, hc⟩))
/-- A list of Sents that is not touched. -/
theorem own_run {B m k rb : Nat} {W W' : World} {v : Value} {xs : List Value} {A : Array Value} {r : Nat × Nat} (hown : W.ownsRow B 66 m v k xs) (hr : W.heap[rb]? = some (.cells A 89 r)) (h : ∀ g, g < W.heap.size → g ≠ rb → W'.heap[g]? = W.heap[g]?) : W'.ownsRow B 66 m v k xs := by
  refine ⟨hown.1, ?_⟩
  rcases hown.2 with h0 | ⟨g, cap, cur, rfl, hb, hc, h1⟩
  · exact .inl h0
  · refine .inr ⟨g, cap, cur, rfl, hb, (h g (lt_of_heap hc) (fun e => ?_)).trans hc, h1⟩
    subst e
    rw [hr] at hc
    cases hc
end Go.Proofs.YtnahhmcmahbnkaaGreatDoor
/- change of a run by a Hop; a Sent; its append. Conditions: as said. -/
namespace Go.Proofs.YtnahhmcmahbnkaaGreatDoor
open Go.RowKit
theorem st_hop {cs : Array Value} (h : St cs) (h0 : Ac.hopE cs = 0) : St (Ac.hopR cs) := by
  unfold Ac.hopR
  rw [if_pos h0]
  obtain ⟨x, hx, h1, h2⟩ := h.i64 15 (by decide)
  have hn := numAt_of hx
  have hx2 : 2 ≤ x := by
    unfold Ac.hopE at h0
    rw [hn] at h0
    split at h0
    · split at h0
      · cases h0
      · omega
    · cases h0
  rw [hn]
  exact st_put h 15 _ (by decide) rfl (fun h => absurd h (by decide)) (fun _ => ⟨x - 1, rfl, by omega, by omega⟩) (fun h => absurd h (by decide)) (fun h => absurd h (by decide)) (fun h => absurd h (by decide))
theorem results_st {fn : Func} {p u : Tmp} (h : fn.results = #[.cell p 38, .tmp u]) (tmps : Array Value) (w : World) (g : Nat) (cs : Array Value)
    (hp : tmps.getD p undef = .pointer (some ⟨g, 0, none⟩)) (hg : w.heap[g]? = some (.cells cs 38 (0, 0))) (hs : cs.size = 49) :
    (results fn tmps).run Tryz.prog w = .ok (.tuple #[.agg cs, tmps.getD u undef]) w := by
  rw [results_cell_tmp h, hp]
  simp only [asAddr, Sem.run_pure, Result.andThen_ok, run_loadVar_row w g 38 38 cs (0, 0) _ hg Tryz.underlying38 rfl (info_size hs)]
set_option linter.unusedSimpArgs false in
set_option maxRecDepth 100000 in
set_option maxHeartbeats 8000000 in
theorem change_hop (rb : Value) (cs : Array Value) (h : St cs) (h0 : Ac.hopE cs = 0) (w : World) :
    Calls Tryz.prog 35 #[rb, .agg cs, .agg (Ac.leafA 3)] w fun e w' => e = .returned (.tuple #[.agg (Ac.hopR cs), .bool true]) ∧ Below w.heap.size w w' := by
  have B0 : Hid (Below w.heap.size w (((w.alloc (.cells cs 38)).alloc (.cells (Ac.leafA 3) 49)).alloc (.cells zeroC 38))) := below3 _ _ _ _
  have S0 : Hid ((((w.alloc (.cells cs 38)).alloc (.cells (Ac.leafA 3) 49)).alloc (.cells zeroC 38)).heap[w.heap.size]? = some (.cells cs 38 (0, 0))) := three_first _ _ _ _
  have A0 : Hid ((((w.alloc (.cells cs 38)).alloc (.cells (Ac.leafA 3) 49)).alloc (.cells zeroC 38)).heap[w.heap.size + 1]? = some (.cells (Ac.leafA 3) 49 (0, 0))) := by
    show _ = _
    rw [heap_alloc_old _ _ (by simp)]
    have := heap_alloc_new (w.alloc (.cells cs 38)) (.cells (Ac.leafA 3) 49)
    simpa using this
  have Z0 : Hid ((((w.alloc (.cells cs 38)).alloc (.cells (Ac.leafA 3) 49)).alloc (.cells zeroC 38)).heap[w.heap.size + 1 + 1]? = some (.cells zeroC 38 (0, 0))) := Ac.three_last _ _ _ _
  have HI : Hid _ := info_size h.size
  have HI2 : Hid _ := info_size (Ac.hopR_size h)
  have HS : Hid (cs.size = 49 ∧ (Ac.hopR cs).size = 49 ∧ (Ac.hopR cs).all (·.oneCell') = true) := ⟨h.size, Ac.hopR_size h, Ac.hopR_one h⟩
  have HST : Hid _ := fun W => Ac.step_hop cs h W
  have a0 : (((w.alloc (.cells cs 38)).alloc (.cells (Ac.leafA 3) 49)).alloc (.cells zeroC 38)).cell? ⟨w.heap.size + 1, 0, none⟩ = some (.int .i64 3) := cell_row A0.out 0
  unfold zeroC at a0 B0 S0 A0 Z0
  have HE : Hid _ := h0
  clear h h0
  go_enter Tryz.func35, Tryz.ntmps35
  go_wp2_with (first
    | refine wpList_load_row rfl 38 _ rfl w.heap.size rfl 38 cs (0, 0) _ S0.out Tryz.underlying38 rfl HI.out ?_
    | refine wpList_load_row rfl 49 _ rfl (w.heap.size + 1) rfl 49 (Ac.leafA 3) (0, 0) _ A0.out Tryz.underlying49 rfl (by kernel_rfl) ?_
    | fail)
  clear a0
  refine Calls.mono (HST.out _) ?_
  rintro e W1 ⟨rfl, hb⟩
  have B1 : Hid (Below w.heap.size w W1) := B0.out.trans (hb.mono B0.out.size)
  have S1 : Hid _ := (hb.block _ (lt_of_heap S0.out)).trans S0.out
  have Z1 : Hid _ := (hb.block _ (lt_of_heap Z0.out)).trans Z0.out
  clear hb B0 S0 A0 Z0
  rw [HE.out]
  go_wp2_with (first
    | refine wpList_store_row rfl 38 _ _ rfl w.heap.size cs (Ac.hopR cs) 38 rfl rfl S1.out HI2.out (HS.out.1.trans HS.out.2.1.symm) HS.out.2.2 ?_
    | fail)
  intro W2 z1 z2 z3 z4
  have B2 : Hid (Below w.heap.size w W2) := B1.out.trans z4
  have S2 : Hid _ := z1
  have Z2 : Hid (W2.heap[w.heap.size + 1 + 1]? = some (.cells zeroC 38 (0, 0))) := (z2 _ (by omega)).trans Z1.out
  clear z1 z2 z3 z4 B1 S1 Z1
  go_wp2_with (first
    | refine wpList_load_row rfl 38 _ rfl w.heap.size rfl 38 (Ac.hopR cs) (0, 0) _ S2.out Tryz.underlying38 rfl HI2.out ?_
    | refine wpList_store_row rfl 38 _ _ rfl (w.heap.size + 1 + 1) _ (Ac.hopR cs) 38 rfl rfl Z2.out HI2.out HS.out.2.1.symm HS.out.2.2 ?_
    | fail)
  intro W3 z1 z2 z3 z4
  have B3 : Hid (Below w.heap.size w W3) := B2.out.trans (z4.mono (by omega))
  have Z3 : Hid _ := z1
  clear z1 z2 z3 z4 B2 S2 Z2
  go_wp2
  exact bodyPost_ret (results_st (p := 6) (u := 7) rfl _ _ (w.heap.size + 1 + 1) (Ac.hopR cs) rfl Z3.out HS.out.2.1) rfl ⟨rfl, B3.out⟩
end Go.Proofs.YtnahhmcmahbnkaaGreatDoor
