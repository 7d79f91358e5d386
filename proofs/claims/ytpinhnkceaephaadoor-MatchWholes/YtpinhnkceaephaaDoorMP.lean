/- The reference's And and Implies as lists, and that they are the program's. No condition, nothing of a program but the masks of fields. -/
import Derived.Test.YtpinhnkceaephaaDoorMM
namespace Go.Proofs.YtpinhnkceaephaaDoor
open Go.RowKit
/-- The term of a field; all 0 if there is none. -/
def tm0 (l : List Tm) (f : Int) : Tm := ⟨f, lv l f, lm l f⟩
theorem cfl_tm0 (a b : List Tm) (f : Int) : cfl (tm0 a f) (tm0 b f) = true ↔ Cf a b f := by
  unfold cfl Cf tm0
  simp only [bne_iff_ne]
/-- And by definition, from field f on, n fields. -/
def rj (a b : List Tm) : Nat → Nat → Option (List Tm)
  | _, 0 => some []
  | f, n + 1 => if cfl (tm0 a f) (tm0 b f) = true then none
    else if (lm a f ||| lm b f) != 0 then (rj a b (f + 1) n).map (⟨f, lv a f ||| lv b f, lm a f ||| lm b f⟩ :: ·)
    else rj a b (f + 1) n
theorem rj_spec {a b : List Tm} (ha : chk abV 0 a = true) (hb : chk abV 0 b = true) : ∀ (n f : Nat), f + n ≤ 29 → 1 ≤ f →
    (∀ l, rj a b f n = some l → chk abV ((f : Int) - 1) l = true ∧ ∀ g : Int, ((f : Int) ≤ g ∧ g < f + n → lv l g = lv a g ||| lv b g ∧ lm l g = lm a g ||| lm b g ∧ ¬ Cf a b g) ∧ (¬ ((f : Int) ≤ g ∧ g < f + n) → lv l g = 0 ∧ lm l g = 0)) ∧
    (rj a b f n = none → ∃ g, Cf a b g) := by
  intro n
  induction n with
  | zero =>
    intro f _ _
    refine ⟨fun l hl => ?_, fun h => by cases h⟩
    cases hl
    refine ⟨rfl, fun g => ⟨fun h => ?_, fun _ => ⟨rfl, rfl⟩⟩⟩
    have := h.1
    have := h.2
    omega
  | succ n ih =>
    intro f hf hf1
    obtain ⟨i1, i2⟩ := ih (f + 1) (by omega) (by omega)
    rw [rj]
    cases hc : cfl (tm0 a f) (tm0 b f)
    · have hnc : ¬ Cf a b (f : Int) := fun h => by
        rw [(cfl_tm0 a b f).2 h] at hc
        cases hc
      simp only [Bool.false_eq_true, if_false]
      cases hm : ((lm a f ||| lm b f) != 0)
      · simp only [Bool.false_eq_true, if_false]
        refine ⟨fun l hl => ?_, i2⟩
        obtain ⟨j1, j2⟩ := i1 l hl
        refine ⟨chk_mono j1 (by omega), fun g => ⟨fun hg => ?_, fun hg => (j2 g).2 (by omega)⟩⟩
        by_cases e : g = f
        · subst e
          have z := (j2 (f : Int)).2 (by omega)
          have hm0 : lm a f ||| lm b f = 0 := by simpa using hm
          have ma : lm a f = 0 := bv0.2 fun i => by
            have := bv0.1 hm0 i
            simp only [BitVec.getLsbD_or, Bool.or_eq_false_iff] at this
            exact this.1
          have mb : lm b f = 0 := bv0.2 fun i => by
            have := bv0.1 hm0 i
            simp only [BitVec.getLsbD_or, Bool.or_eq_false_iff] at this
            exact this.2
          have va : lv a f = 0 := bv0.2 fun i => by
            cases h : (lv a f).getLsbD i
            · rfl
            · have := vm ha f h
              rw [ma] at this
              simp at this
          have vb : lv b f = 0 := bv0.2 fun i => by
            cases h : (lv b f).getLsbD i
            · rfl
            · have := vm hb f h
              rw [mb] at this
              simp at this
          rw [z.1, z.2, ma, mb, va, vb]
          exact ⟨by simp, by simp, hnc⟩
        · exact (j2 g).1 (by omega)
      · simp only [if_true]
        refine ⟨fun l hl => ?_, fun h => ?_⟩
        · cases hj : rj a b (f + 1) n with
          | none => rw [hj] at hl; cases hl
          | some l' =>
            rw [hj] at hl
            cases hl
            obtain ⟨j1, j2⟩ := i1 l' hj
            have iva := inv ha f
            have ivb := inv hb f
            refine ⟨chk_mk (by simp; omega) (okT_mk (by simpa using hm) ?_ ?_) (chk_mono j1 (by simp)), fun g => ?_⟩
            · refine andn.2 fun i hi => ?_
              rcases (by simpa using hi : (lm a f).getLsbD i = true ∨ (lm b f).getLsbD i = true) with h | h
              · exact andn.1 iva.2 i h
              · exact andn.1 ivb.2 i h
            · refine andn.2 fun i hi => ?_
              rcases (by simpa using hi : (lv a f).getLsbD i = true ∨ (lv b f).getLsbD i = true) with h | h
              · have := vm ha f h
                simp [this]
              · have := vm hb f h
                simp [this]
            · by_cases e : g = f
              · subst e
                refine ⟨fun _ => ⟨by simp [lv], by simp [lm], hnc⟩, fun h => by omega⟩
              · have e' : ¬ (f : Int) = g := fun h => e h.symm
                have q1 : lv (⟨f, lv a f ||| lv b f, lm a f ||| lm b f⟩ :: l') g = lv l' g := lv_cons_ne e'
                have q2 : lm (⟨f, lv a f ||| lv b f, lm a f ||| lm b f⟩ :: l') g = lm l' g := lm_cons_ne e'
                rw [q1, q2]
                exact ⟨fun h => (j2 g).1 (by omega), fun h => (j2 g).2 (by omega)⟩
        · cases hj : rj a b (f + 1) n with
          | some l' => rw [hj] at h; cases h
          | none => exact i2 hj
    · simp only [if_true]
      exact ⟨fun l hl => (by cases hl), fun _ => ⟨f, (cfl_tm0 a b f).1 hc⟩⟩
/-- Beyond the fields nothing is wanted. -/
theorem beyond {a : List Tm} (ha : chk abV 0 a = true) {g : Int} (hg : ¬ (1 ≤ g ∧ g ≤ 28)) : lv a g = 0 ∧ lm a g = 0 := by
  have hm : lm a g = 0 := by
    have := (inv ha g).2
    rw [abV_zero hg] at this
    refine bv0.2 fun i => ?_
    cases h : (lm a g).getLsbD i
    · rfl
    · have := andn.1 this i h
      simp at this
  refine ⟨bv0.2 fun i => ?_, hm⟩
  cases h : (lv a g).getLsbD i
  · rfl
  · have := vm ha g h
    rw [hm] at this
    simp at this
theorem rj_eq {a b : List Tm} (ha : chk abV 0 a = true) (hb : chk abV 0 b = true) : rj a b 1 28 = jn a b := by
  obtain ⟨s1, s2⟩ := rj_spec ha hb 28 1 (by omega) (by omega)
  cases h : rj a b 1 28 with
  | none =>
    obtain ⟨g, hg⟩ := s2 h
    exact ((jn_none ha hb).2 ⟨g, hg⟩).symm
  | some l =>
    obtain ⟨c1, d1⟩ := s1 l h
    cases h2 : jn a b with
    | none =>
      obtain ⟨g, hg⟩ := (jn_none ha hb).1 h2
      by_cases hr : 1 ≤ g ∧ g ≤ 28
      · exact absurd hg ((d1 g).1 (by omega)).2.2
      · exact absurd hg (cf_low (.inl (beyond ha hr).2))
    | some l2 =>
      obtain ⟨c2, d2⟩ := jn_some ha hb h2
      refine congrArg some (ext (k := 0) (by simpa using c1) c2 fun g => ?_)
      by_cases hr : 1 ≤ g ∧ g ≤ 28
      · obtain ⟨p1, p2, _⟩ := (d1 g).1 (by omega)
        rw [p1, p2, (d2 g).1, (d2 g).2.1]
        exact ⟨rfl, rfl⟩
      · obtain ⟨p1, p2⟩ := (d1 g).2 (by omega)
        rw [p1, p2, (d2 g).1, (d2 g).2.1, (beyond ha hr).1, (beyond ha hr).2, (beyond hb hr).1, (beyond hb hr).2]
        exact ⟨by simp, by simp⟩
/-- Implies by definition. -/
def rimT (a : List Tm) (t : Tm) : Bool := !((t.m &&& ~~~ lm a t.f) != 0 || (lv a t.f &&& t.m) != t.v)
def rim (a : List Tm) : List Tm → Bool
  | [] => true
  | t :: r => rimT a t && rim a r
theorem rimT_iff {ab : Int → BitVec 64} {a : List Tm} {t : Tm} (ht : okT ab t = true) : rimT a t = true ↔ ∀ i, t.m.getLsbD i = true → (lm a t.f).getLsbD i = true ∧ (lv a t.f).getLsbD i = t.v.getLsbD i := by
  unfold rimT
  simp only [Bool.not_eq_true', Bool.or_eq_false_iff, bne_eq_false_iff_eq]
  have hv := (okT_m ht).2.2
  constructor
  · rintro ⟨h1, h2⟩ i hi
    refine ⟨andn.1 h1 i hi, ?_⟩
    have := bve.1 h2 i
    simpa [hi] using this
  · intro h
    refine ⟨andn.2 fun i hi => (h i hi).1, bve.2 fun i => ?_⟩
    simp only [BitVec.getLsbD_and]
    cases hi : t.m.getLsbD i
    · cases hx : t.v.getLsbD i
      · simp
      · have := andn.1 hv i hx
        rw [hi] at this
        cases this
    · simp [(h i hi).2]
theorem rim_iff {ab : Int → BitVec 64} {k : Int} {a b : List Tm} (hb : chk ab k b = true) : rim a b = true ↔ ∀ f i, (lm b f).getLsbD i = true → (lm a f).getLsbD i = true ∧ (lv a f).getLsbD i = (lv b f).getLsbD i := by
  induction b generalizing k with
  | nil => simp [rim, lm]
  | cons t r ih =>
    obtain ⟨_, h2, h3⟩ := chk_cons hb
    have l0 := low h3 (Int.le_refl _)
    rw [rim, Bool.and_eq_true, ih h3, rimT_iff h2]
    constructor
    · rintro ⟨p, q⟩ f i hi
      by_cases e : t.f = f
      · subst e
        rw [lm_cons_eq] at hi
        rw [lv_cons_eq]
        exact p i hi
      · rw [lm_cons_ne e] at hi
        rw [lv_cons_ne e]
        exact q f i hi
    · intro p
      refine ⟨fun i hi => ?_, fun f i hi => ?_⟩
      · have := p t.f i (by rw [lm_cons_eq]; exact hi)
        rw [lv_cons_eq] at this
        exact this
      · by_cases e : t.f = f
        · subst e
          rw [l0.2] at hi
          simp at hi
        · have := p f i (by rw [lm_cons_ne e]; exact hi)
          rw [lv_cons_ne e] at this
          exact this
theorem rim_eq {a b : List Tm} (ha : chk abV 0 a = true) (hb : chk abV 0 b = true) : rim a b = fol a b := by
  rw [Bool.eq_iff_iff, rim_iff hb, fol_bits ha hb]
/-- A term by itself in form, as the reference asks. -/
theorem ok_ref (t : Tm) : okT abV t = (decide (1 ≤ t.f ∧ t.f ≤ 28) && (t.m != 0) && decide (t.m.toNat ≤ abN t.f) && ((t.v &&& ~~~ t.m) == 0)) := by
  by_cases hf : 1 ≤ t.f ∧ t.f ≤ 28
  · rw [decide_eq_true hf]
    unfold okT
    rw [Bool.true_and]
    congr 2
    rw [Bool.eq_iff_iff, beq_iff_eq, decide_eq_true_eq, andn]
    have hab : abN t.f = 2 ^ fBits t.f.toNat - 1 := if_pos hf
    have hpos : 1 ≤ 2 ^ fBits t.f.toNat := Nat.one_le_two_pow
    have hbit : ∀ i, (abV t.f).getLsbD i = (decide (i < 64) && decide (i < fBits t.f.toNat)) := fun i => by
      unfold abV
      rw [BitVec.getLsbD_ofNat, hab, Nat.testBit_two_pow_sub_one]
    constructor
    · intro h
      have : t.m.toNat < 2 ^ fBits t.f.toNat := by
        apply Nat.lt_pow_two_of_testBit
        intro i hi
        cases hx : t.m.toNat.testBit i
        · rfl
        · have := h i hx
          rw [hbit] at this
          simp only [Bool.and_eq_true, decide_eq_true_eq] at this
          omega
      omega
    · intro h i hi
      rw [hbit]
      have h64 := nlt hi
      simp only [Bool.and_eq_true, decide_eq_true_eq]
      refine ⟨h64, Decidable.byContradiction fun hn => ?_⟩
      have hlt : t.m.toNat < 2 ^ i := Nat.lt_of_lt_of_le (by omega : t.m.toNat < 2 ^ fBits t.f.toNat) (Nat.pow_le_pow_right (by omega) (by omega))
      have : t.m.toNat.testBit i = false := Nat.testBit_lt_two_pow hlt
      have hi' : t.m.toNat.testBit i = true := hi
      rw [this] at hi'
      cases hi'
  · rw [decide_eq_false hf, Bool.false_and, Bool.false_and, Bool.false_and]
    cases h : okT abV t
    · rfl
    · exact absurd (okT_field h) hf
end Go.Proofs.YtpinhnkceaephaaDoor
