/- A drawn region inside a round whose operations only read: any order comes to the same. A plain law; no condition. -/
import Derived.Test.YtlopnagajhjmmaaLXa
import Derived.OrdersIn
namespace Go.Proofs.Ytlopnagajhjmmaa
open Go.RowKit
section
variable {P : Program} {md : Region.Mode} {ops : Array Oper} {Q : Exit → Act → World → Prop} {w : World}
/-- In this world an operation yields v, or is not wanted. -/
def ReadsTo (P : Program) (ops : Array Oper) (w : World) (o : Oper) (v : Value) (a : Act) : Prop :=
  (Region.wanted o (yielded ops a.tmps) = true ∧ (execOp a.eval o).run P w = .ok (.value v) w) ∨ (Region.wanted o (yielded ops a.tmps) = false ∧ v = undef)
/-- Whatever order is picked, the world stays as it is. -/
def Reads (P : Program) (md : Region.Mode) (ops : Array Oper) (Q : Exit → Act → World → Prop) (w : World) : Nat → Array Bool → Act → Prop
  | 0, L, a => Region.ready md ops L = [] ∧ Q .normal a w
  | n + 1, L, a => (Region.ready md ops L = [] → Q .normal a w) ∧ ∀ i ∈ Region.ready md ops L, ∀ o, ops[i]? = some o → ∃ v, ReadsTo P ops w o v a ∧ Reads P md ops Q w n (L.setIfInBounds i true) (a.put o.dst v)
theorem Reads.in {l m : Nat} (hd : ∀ (j : Nat) (o : Oper) c, ops[j]? = some o → o.op ≠ .defer c) : ∀ {n : Nat} {L : Array Bool} {a : Act}, Reads P md ops Q w n L a → wpAnyIn (Fence.wide.inRound l) m P md ops Q n L a w
  | 0, _, _, h => h
  | n + 1, L, a, ⟨h1, h2⟩ => by
    refine ⟨h1, fun i hi => ?_⟩
    obtain ⟨_, o, ho, _⟩ := mem_ready.1 hi
    obtain ⟨v, hv, hr⟩ := h2 i hi o ho
    have hr' := hr.in hd (l := l) (m := m)
    unfold wpOpIn
    rw [ho]
    dsimp only
    rcases hv with ⟨hw, hx⟩ | ⟨hw, rfl⟩
    · rw [if_pos hw]
      refine ⟨fun _ _ => trivial, ?_⟩
      rw [Oper.semAt_eq _ _ _ (fun c => hd i o c ho), hx]
      exact hr'
    · rw [if_neg (by rw [hw]; exact Bool.false_ne_true)]
      exact ⟨fun _ _ => trivial, hr'⟩
theorem Reads.first {i : Nat} {o : Oper} {v : Value} (hi : ops[i]? = some o) (hsel : ∀ (j : Nat) (o : Oper) cs b, ops[j]? = some o → o.op ≠ .select cs b) :
    ∀ (n : Nat) (L : Array Bool) (a : Act), (∀ j oj, ops[j]? = some oj → j ≠ i → L.getD j true = false → (∀ e ∈ oj.after, Region.binds md e = true → e.on ≠ i) → o.apart ops oj = true) →
      i ∈ Region.ready md ops L → ReadsTo P ops w o v a → Reads P md ops Q w n (L.setIfInBounds i true) (a.put o.dst v) → Reads P md ops Q w (n + 1) L a
  | 0, L, a, _, hr, hy, H => by
    refine ⟨fun h => absurd (h ▸ hr) (by simp), fun j hj oj hoj => ?_⟩
    by_cases e : j = i
    · subst e
      rw [hi] at hoj; injection hoj with hoj; subst hoj
      exact ⟨v, hy, H⟩
    · exact absurd (H.1 ▸ ready_mono hj e) (by simp)
  | n + 1, L, a, hf, hr, hy, H => by
    refine ⟨fun h => absurd (h ▸ hr) (by simp), fun j hj oj hoj => ?_⟩
    by_cases e : j = i
    · subst e
      rw [hi] at hoj; injection hoj with hoj; subst hoj
      exact ⟨v, hy, H⟩
    · obtain ⟨hun, oj', hoj', hall⟩ := mem_ready.1 hj
      rw [hoj] at hoj'; injection hoj' with hoj'; subst hoj'
      have hno : ∀ e ∈ oj.after, Region.binds md e = true → e.on ≠ i := by
        intro e he hb hon
        have h1 := hall e he hb
        have h0 := (mem_ready.1 hr).1
        rw [hon] at h1
        rcases Nat.lt_or_ge i L.size with g | g
        · simp [g] at h0 h1
          rw [h0] at h1; cases h1
        · simp [Array.getElem?_eq_none g] at h1
      obtain ⟨p1, p2, p3⟩ := Oper.apart_spec (hf j oj hoj e hun hno)
      obtain ⟨u, hu, hrest⟩ := H.2 j (ready_mono hj e) oj hoj
      refine ⟨u, ?_, ?_⟩
      · unfold ReadsTo at hu ⊢
        rwa [wanted_put oj a o.dst v p1, execOp_put (ops := ops) oj (fun cs b => hsel j oj cs b hoj) a o.dst v p1] at hu
      · refine Reads.first (v := v) hi hsel n _ _ ?_ (ready_mono hr (Ne.symm e)) ?_ ?_
        · intro k ok hk hki hun' hno'
          refine hf k ok hk hki ?_ hno'
          by_cases hjk : j = k
          · subst hjk; exact hun
          · rwa [getD_set_ne true hjk] at hun'
        · unfold ReadsTo at hy ⊢
          rwa [wanted_put o a oj.dst u p3, execOp_put (ops := ops) o (fun cs b => hsel i o cs b hi) a oj.dst u p3]
        · rw [Array.setIfInBounds_comm _ _ e, ← Act.put_comm a v u p2]
          exact hrest
theorem Reads.take {i : Nat} {o : Oper} {v : Value} {n : Nat} {L : Array Bool} {a : Act} (hi : ops[i]? = some o) (hs : Region.noSelect ops = true) (hf : Region.free md ops L i = true) (hr : (Region.ready md ops L).contains i = true) (hy : ReadsTo P ops w o v a)
    (h : Reads P md ops Q w n (L.setIfInBounds i true) (a.put o.dst v)) : Reads P md ops Q w (n + 1) L a :=
  Reads.first hi (Region.noSelect_spec hs) n L a (Region.free_spec hi hf) (by simpa using hr) hy h
theorem Reads.done {L : Array Bool} {a : Act} (hr : Region.ready md ops L = []) (h : Q .normal a w) : ∀ n, Reads P md ops Q w n L a
  | 0 => ⟨hr, h⟩
  | _ + 1 => ⟨fun _ => h, by rw [hr]; simp⟩
def noDefer (ops : Array Oper) : Bool := ops.all fun o => match o.op with | .defer _ => false | _ => true
theorem noDefer_spec (h : noDefer ops = true) : ∀ (j : Nat) (o : Oper) c, ops[j]? = some o → o.op ≠ .defer c := by
  intro j o c ho e
  unfold noDefer at h
  rw [Array.all_eq_true_iff_forall_mem] at h
  have := h o (Array.mem_of_getElem? ho)
  rw [e] at this
  cases this
theorem region_reads {l m id : Nat} {a : Act} (hm : P.follows .mixedOrders = true) (hd : noDefer ops = true) (h : Reads P .any ops Q w.drew ops.size (Array.replicate ops.size false) a) : (Code.region id ops true).wpIn (Fence.wide.inRound l) m P Q a w := wpIn_region_any hm (h.in (noDefer_spec hd))
end
end Go.Proofs.Ytlopnagajhjmmaa
