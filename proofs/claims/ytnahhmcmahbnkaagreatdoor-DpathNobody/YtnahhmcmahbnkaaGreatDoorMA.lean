/- Matches as plain lists of terms: in form, joined, implied; what follows from these definitions. No condition, nothing of a program. -/
import Derived.WalkKit
namespace Go.Proofs.YtnahhmcmahbnkaaGreatDoor

/-- A term: field, value, mask. -/
structure Tm where
  f : Int
  v : BitVec 64
  m : BitVec 64

/-- The value of the first term of a field; 0 if there is none. -/
def lv : List Tm → Int → BitVec 64
  | [], _ => 0
  | t :: r, f => if t.f = f then t.v else lv r f
/-- Its mask. -/
def lm : List Tm → Int → BitVec 64
  | [], _ => 0
  | t :: r, f => if t.f = f then t.m else lm r f
/-- Is a term by itself in form, if the field's bits are those of 'ab'? -/
def okT (ab : Int → BitVec 64) (t : Tm) : Bool := t.m != 0 && (t.m &&& ~~~ ab t.f) == 0 && (t.v &&& ~~~ t.m) == 0
/-- Is a list in form, all fields beyond 'last'? -/
def chk (ab : Int → BitVec 64) : Int → List Tm → Bool
  | _, [] => true
  | last, t :: r => decide (last < t.f) && okT ab t && chk ab t.f r
/-- Do two terms want other values of a bit? -/
def cfl (x y : Tm) : Bool := (((x.v ^^^ y.v) &&& x.m) &&& y.m) != 0
/-- Two lists in one, the first one not empty; J: the rest of the first one with another. -/
def jnI (x : Tm) (r : List Tm) (J : List Tm → Option (List Tm)) : List Tm → Option (List Tm)
  | [] => some (x :: r)
  | y :: s =>
    if x.f < y.f then (J (y :: s)).map (x :: ·)
    else if y.f < x.f then (jnI x r J s).map (y :: ·)
    else if cfl x y then none
    else (J s).map (⟨x.f, x.v ||| y.v, x.m ||| y.m⟩ :: ·)
/-- Two lists in one. -/
def jn : List Tm → List Tm → Option (List Tm)
  | [], b => some b
  | x :: r, b => jnI x r (jn r) b
/-- Does the one want all that the other wants? -/
def folI (x : Tm) (F : List Tm → Bool) : List Tm → Bool
  | [] => true
  | y :: s =>
    if y.f < x.f then false
    else if x.f < y.f then F (y :: s)
    else if ((y.m &&& ~~~ x.m) != 0 || cfl x y) then false
    else F s
def fol : List Tm → List Tm → Bool
  | [], b => b.isEmpty
  | x :: r, b => folI x (fol r) b

theorem jn_nil (b : List Tm) : jn [] b = some b := rfl
theorem jn_nil2 (a : List Tm) : jn a [] = some a := by cases a <;> rfl
theorem jn_lt {x y : Tm} {r s : List Tm} (h : x.f < y.f) : jn (x :: r) (y :: s) = (jn r (y :: s)).map (x :: ·) := by rw [jn, jnI, if_pos h]
theorem jn_gt {x y : Tm} {r s : List Tm} (h : y.f < x.f) : jn (x :: r) (y :: s) = (jn (x :: r) s).map (y :: ·) := by rw [jn, jnI, if_neg (by omega), if_pos h]; rfl
theorem jn_no {x y : Tm} {r s : List Tm} (h : x.f = y.f) (hc : cfl x y = true) : jn (x :: r) (y :: s) = none := by rw [jn, jnI, if_neg (by omega), if_neg (by omega), if_pos hc]
theorem jn_eq {x y : Tm} {r s : List Tm} (h : x.f = y.f) (hc : cfl x y = false) : jn (x :: r) (y :: s) = (jn r s).map (⟨x.f, x.v ||| y.v, x.m ||| y.m⟩ :: ·) := by rw [jn, jnI, if_neg (by omega), if_neg (by omega), if_neg (by simp [hc])]
theorem fol_nil (a : List Tm) : fol a [] = true := by cases a <;> rfl
theorem fol_none (y : Tm) (s : List Tm) : fol [] (y :: s) = false := rfl
theorem fol_gt {x y : Tm} {r s : List Tm} (h : y.f < x.f) : fol (x :: r) (y :: s) = false := by rw [fol, folI, if_pos h]
theorem fol_lt {x y : Tm} {r s : List Tm} (h : x.f < y.f) : fol (x :: r) (y :: s) = fol r (y :: s) := by rw [fol, folI, if_neg (by omega), if_pos h]
theorem fol_no {x y : Tm} {r s : List Tm} (h : x.f = y.f) (hc : ((y.m &&& ~~~ x.m) != 0 || cfl x y) = true) : fol (x :: r) (y :: s) = false := by rw [fol, folI, if_neg (by omega), if_neg (by omega), if_pos hc]
theorem fol_eq {x y : Tm} {r s : List Tm} (h : x.f = y.f) (hc : ((y.m &&& ~~~ x.m) != 0 || cfl x y) = false) : fol (x :: r) (y :: s) = fol r s := by rw [fol, folI, if_neg (by omega), if_neg (by omega), if_neg (by rw [hc]; exact Bool.false_ne_true)]

variable {ab : Int → BitVec 64}

theorem chk_cons {k : Int} {t : Tm} {r : List Tm} (h : chk ab k (t :: r) = true) : k < t.f ∧ okT ab t = true ∧ chk ab t.f r = true := by
  simp only [chk, Bool.and_eq_true, decide_eq_true_eq] at h
  exact ⟨h.1.1, h.1.2, h.2⟩
theorem chk_mk {k : Int} {t : Tm} {r : List Tm} (h1 : k < t.f) (h2 : okT ab t = true) (h3 : chk ab t.f r = true) : chk ab k (t :: r) = true := by
  simp [chk, h1, h2, h3]
theorem chk_mono {j k : Int} {l : List Tm} (h : chk ab k l = true) (hj : j ≤ k) : chk ab j l = true := by
  cases l with
  | nil => rfl
  | cons t r => obtain ⟨h1, h2, h3⟩ := chk_cons h; exact chk_mk (by omega) h2 h3
theorem okT_m {t : Tm} (h : okT ab t = true) : t.m ≠ 0 ∧ t.m &&& ~~~ ab t.f = 0 ∧ t.v &&& ~~~ t.m = 0 := by
  simp only [okT, Bool.and_eq_true, bne_iff_ne, beq_iff_eq] at h
  exact ⟨h.1.1, h.1.2, h.2⟩
theorem okT_mk {t : Tm} (h1 : t.m ≠ 0) (h2 : t.m &&& ~~~ ab t.f = 0) (h3 : t.v &&& ~~~ t.m = 0) : okT ab t = true := by
  have h1' : ¬ t.m = 0#64 := h1
  simp [okT, h1', h2, h3]
theorem low {k f : Int} {l : List Tm} (h : chk ab k l = true) (hf : f ≤ k) : lv l f = 0 ∧ lm l f = 0 := by
  induction l generalizing k with
  | nil => exact ⟨rfl, rfl⟩
  | cons t r ih =>
    obtain ⟨h1, _, h3⟩ := chk_cons h
    have := ih h3 (by omega)
    simp only [lv, lm, if_neg (show ¬ t.f = f by omega)]
    exact this
theorem bv0 {x : BitVec 64} : x = 0 ↔ ∀ i, x.getLsbD i = false := by
  constructor
  · rintro rfl i; simp
  · intro h; apply BitVec.eq_of_getLsbD_eq; intro i _; rw [h i]; simp
theorem bvn {x : BitVec 64} : x ≠ 0 ↔ ∃ i, x.getLsbD i = true := by
  rw [Ne, bv0]; simp
theorem bve {x y : BitVec 64} : x = y ↔ ∀ i, x.getLsbD i = y.getLsbD i := by
  constructor
  · rintro rfl i; rfl
  · intro h; apply BitVec.eq_of_getLsbD_eq; intro i _; exact h i
theorem nlt {x : BitVec 64} {i : Nat} (h : x.getLsbD i = true) : i < 64 := by
  rcases Nat.lt_or_ge i 64 with h1 | h1
  · exact h1
  · rw [BitVec.getLsbD_of_ge _ _ h1] at h; cases h
theorem andn {x y : BitVec 64} : x &&& ~~~ y = 0 ↔ ∀ i, x.getLsbD i = true → y.getLsbD i = true := by
  rw [bv0]
  constructor
  · intro h i hx
    have h1 := h i
    have h2 := nlt hx
    simp [hx, h2] at h1
    exact h1
  · intro h i
    have h1 := h i
    cases hx : x.getLsbD i
    · simp [hx]
    · simp [hx, h1 hx]
theorem inv {k : Int} {l : List Tm} (h : chk ab k l = true) (f : Int) : lv l f &&& ~~~ lm l f = 0 ∧ lm l f &&& ~~~ ab f = 0 := by
  induction l generalizing k with
  | nil => exact ⟨by simp [lv, lm], by simp [lm]⟩
  | cons t r ih =>
    obtain ⟨h1, h2, h3⟩ := chk_cons h
    simp only [lv, lm]
    by_cases e : t.f = f
    · subst e
      simp only [if_pos]
      exact ⟨(okT_m h2).2.2, (okT_m h2).2.1⟩
    · simp only [if_neg e]; exact ih h3

/-- Two in form that want the same of every field are one. -/
theorem ext {k : Int} {a b : List Tm} (ha : chk ab k a = true) (hb : chk ab k b = true) (h : ∀ f, lv a f = lv b f ∧ lm a f = lm b f) : a = b := by
  induction a generalizing k b with
  | nil =>
    cases b with
    | nil => rfl
    | cons y s =>
      obtain ⟨_, h2, _⟩ := chk_cons hb
      have := (h y.f).2
      simp only [lm, if_pos] at this
      exact absurd this.symm (okT_m h2).1
  | cons x r ih =>
    obtain ⟨p1, p2, p3⟩ := chk_cons ha
    cases b with
    | nil =>
      have := (h x.f).2
      simp only [lm, if_pos] at this
      exact absurd this (okT_m p2).1
    | cons y s =>
      obtain ⟨q1, q2, q3⟩ := chk_cons hb
      have hxy : x.f = y.f := by
        rcases Int.lt_trichotomy x.f y.f with h1 | h1 | h1
        · have := (h x.f).2
          rw [(low (chk_mk (k := x.f) h1 q2 q3) (Int.le_refl _)).2] at this
          simp only [lm, if_pos] at this
          exact absurd this (okT_m p2).1
        · exact h1
        · have := (h y.f).2
          rw [(low (chk_mk (k := y.f) h1 p2 p3) (Int.le_refl _)).2] at this
          simp only [lm, if_pos] at this
          exact absurd this.symm (okT_m q2).1
      have e := h x.f
      simp only [lv, lm, if_pos, if_pos hxy.symm] at e
      have hxe : x = y := by
        obtain ⟨xf, xv, xm⟩ := x
        obtain ⟨yf, yv, ym⟩ := y
        simp only at hxy e
        rw [hxy, e.1, e.2]
      subst hxe
      congr 1
      refine ih p3 q3 fun f => ?_
      have := h f
      by_cases ef : x.f = f
      · subst ef
        rw [(low p3 (Int.le_refl _)).1, (low p3 (Int.le_refl _)).2, (low q3 (Int.le_refl _)).1, (low q3 (Int.le_refl _)).2]
        exact ⟨rfl, rfl⟩
      · simpa only [lv, lm, if_neg ef] using this

/-- Is there a bit of a field of which two lists want other values? -/
def Cf (a b : List Tm) (f : Int) : Prop := ((lv a f ^^^ lv b f) &&& lm a f) &&& lm b f ≠ 0

theorem lv_cons_ne {t : Tm} {r : List Tm} {f : Int} (h : ¬ t.f = f) : lv (t :: r) f = lv r f := by simp [lv, h]
theorem lm_cons_ne {t : Tm} {r : List Tm} {f : Int} (h : ¬ t.f = f) : lm (t :: r) f = lm r f := by simp [lm, h]
theorem lv_cons_eq {t : Tm} {r : List Tm} : lv (t :: r) t.f = t.v := by simp [lv]
theorem lm_cons_eq {t : Tm} {r : List Tm} : lm (t :: r) t.f = t.m := by simp [lm]
theorem cf_low {a b : List Tm} {f : Int} (h : lm a f = 0 ∨ lm b f = 0) : ¬ Cf a b f := by
  unfold Cf
  rcases h with h | h <;> simp [h]

/-- What the joined list wants. -/
theorem jn_spec {k : Int} : ∀ {a b : List Tm}, chk ab k a = true → chk ab k b = true →
    (∀ l, jn a b = some l → chk ab k l = true ∧ ∀ f, lv l f = lv a f ||| lv b f ∧ lm l f = lm a f ||| lm b f ∧ ¬ Cf a b f) ∧ (jn a b = none → ∃ f, Cf a b f) := by
  intro a b
  induction hn : a.length + b.length using Nat.strongRecOn generalizing k a b with
  | ind n ih =>
    intro ha hb
    cases a with
    | nil =>
      rw [jn_nil]
      refine ⟨fun l hl => ?_, fun h => by cases h⟩
      cases hl
      exact ⟨hb, fun f => ⟨by simp [lv], by simp [lm], cf_low (.inl rfl)⟩⟩
    | cons x r =>
      cases b with
      | nil =>
        rw [jn_nil2]
        refine ⟨fun l hl => ?_, fun h => by cases h⟩
        cases hl
        exact ⟨ha, fun f => ⟨by simp [lv], by simp [lm], cf_low (.inr rfl)⟩⟩
      | cons y s =>
        obtain ⟨p1, p2, p3⟩ := chk_cons ha
        obtain ⟨q1, q2, q3⟩ := chk_cons hb
        rcases Int.lt_trichotomy x.f y.f with hlt | heq | hgt
        · have hb' : chk ab x.f (y :: s) = true := chk_mk hlt q2 q3
          obtain ⟨i1, i2⟩ := ih _ (by simp at hn ⊢; omega) rfl p3 hb'
          rw [jn_lt hlt]
          have hl0 := low hb' (Int.le_refl _)
          refine ⟨fun l hl => ?_, fun h => ?_⟩
          · cases hj : jn r (y :: s) with
            | none => rw [hj] at hl; cases hl
            | some l' =>
              rw [hj] at hl
              cases hl
              obtain ⟨j1, j2⟩ := i1 l' hj
              refine ⟨chk_mk p1 p2 j1, fun f => ?_⟩
              by_cases e : x.f = f
              · subst e
                rw [lv_cons_eq, lm_cons_eq, lv_cons_eq, lm_cons_eq, hl0.1, hl0.2]
                exact ⟨by simp, by simp, cf_low (.inr hl0.2)⟩
              · have := j2 f
                unfold Cf at this ⊢
                rw [lv_cons_ne e, lm_cons_ne e, lv_cons_ne e, lm_cons_ne e]
                exact this
          · cases hj : jn r (y :: s) with
            | some l' => rw [hj] at h; cases h
            | none =>
              obtain ⟨f, hf⟩ := i2 hj
              refine ⟨f, ?_⟩
              by_cases e : x.f = f
              · subst e; exact absurd hf (cf_low (.inr hl0.2))
              · unfold Cf at hf ⊢
                rw [lv_cons_ne e, lm_cons_ne e]
                exact hf
        · cases hc : cfl x y
          · obtain ⟨i1, i2⟩ := ih _ (by simp at hn ⊢; omega) rfl p3 (heq ▸ q3)
            rw [jn_eq heq hc]
            have hc0 : (((x.v ^^^ y.v) &&& x.m) &&& y.m) = 0 := by simpa [cfl] using hc
            refine ⟨fun l hl => ?_, fun h => ?_⟩
            · cases hj : jn r s with
              | none => rw [hj] at hl; cases hl
              | some l' =>
                rw [hj] at hl
                cases hl
                obtain ⟨j1, j2⟩ := i1 l' hj
                obtain ⟨a1, a2, a3⟩ := okT_m p2
                obtain ⟨b1, b2, b3⟩ := okT_m q2
                refine ⟨chk_mk p1 (okT_mk ?_ ?_ ?_) j1, fun f => ?_⟩
                · rw [bvn] at a1 ⊢
                  obtain ⟨i, hi⟩ := a1
                  exact ⟨i, by simp [hi]⟩
                · rw [andn] at a2 b2 ⊢
                  intro i hi
                  rcases (by simpa using hi : x.m.getLsbD i = true ∨ y.m.getLsbD i = true) with h | h
                  · exact a2 i h
                  · have := b2 i h; rwa [← heq] at this
                · rw [andn] at a3 b3 ⊢
                  intro i hi
                  rcases (by simpa using hi : x.v.getLsbD i = true ∨ y.v.getLsbD i = true) with h | h
                  · simp [a3 i h]
                  · simp [b3 i h]
                · by_cases e : x.f = f
                  · subst e
                    refine ⟨?_, ?_, ?_⟩
                    · rw [show lv (y :: s) x.f = y.v from by rw [heq]; exact lv_cons_eq, lv_cons_eq]; simp [lv]
                    · rw [show lm (y :: s) x.f = y.m from by rw [heq]; exact lm_cons_eq, lm_cons_eq]; simp [lm]
                    · unfold Cf
                      rw [show lv (y :: s) x.f = y.v from by rw [heq]; exact lv_cons_eq, lv_cons_eq, show lm (y :: s) x.f = y.m from by rw [heq]; exact lm_cons_eq, lm_cons_eq]
                      simp [hc0]
                  · have e2 : ¬ y.f = f := by omega
                    have := j2 f
                    unfold Cf at this ⊢
                    rw [lv_cons_ne (t := y) e2, lm_cons_ne (t := y) e2, lv_cons_ne (t := x) e, lm_cons_ne (t := x) e, lv_cons_ne (by exact e), lm_cons_ne (by exact e)]
                    exact this
            · cases hj : jn r s with
              | some l' => rw [hj] at h; cases h
              | none =>
                obtain ⟨f, hf⟩ := i2 hj
                refine ⟨f, ?_⟩
                by_cases e : x.f = f
                · subst e; exact absurd hf (cf_low (.inl (low p3 (Int.le_refl _)).2))
                · have e2 : ¬ y.f = f := by omega
                  unfold Cf at hf ⊢
                  rw [lv_cons_ne e, lm_cons_ne e, lv_cons_ne e2, lm_cons_ne e2]
                  exact hf
          · rw [jn_no heq hc]
            refine ⟨fun l hl => (by cases hl), fun _ => ⟨x.f, ?_⟩⟩
            unfold Cf
            rw [show lv (y :: s) x.f = y.v from by rw [heq]; exact lv_cons_eq, lv_cons_eq, show lm (y :: s) x.f = y.m from by rw [heq]; exact lm_cons_eq, lm_cons_eq]
            simpa [cfl] using hc
        · have ha' : chk ab y.f (x :: r) = true := chk_mk hgt p2 p3
          obtain ⟨i1, i2⟩ := ih _ (by simp at hn ⊢; omega) rfl ha' q3
          rw [jn_gt hgt]
          have hl0 := low ha' (Int.le_refl _)
          refine ⟨fun l hl => ?_, fun h => ?_⟩
          · cases hj : jn (x :: r) s with
            | none => rw [hj] at hl; cases hl
            | some l' =>
              rw [hj] at hl
              cases hl
              obtain ⟨j1, j2⟩ := i1 l' hj
              refine ⟨chk_mk q1 q2 j1, fun f => ?_⟩
              by_cases e : y.f = f
              · subst e
                rw [lv_cons_eq, lm_cons_eq, lv_cons_eq, lm_cons_eq, hl0.1, hl0.2]
                exact ⟨by simp, by simp, cf_low (.inl hl0.2)⟩
              · have := j2 f
                unfold Cf at this ⊢
                rw [lv_cons_ne e, lm_cons_ne e, lv_cons_ne (t := y) e, lm_cons_ne (t := y) e]
                exact this
          · cases hj : jn (x :: r) s with
            | some l' => rw [hj] at h; cases h
            | none =>
              obtain ⟨f, hf⟩ := i2 hj
              refine ⟨f, ?_⟩
              by_cases e : y.f = f
              · subst e; exact absurd hf (cf_low (.inl hl0.2))
              · unfold Cf at hf ⊢
                rw [lv_cons_ne (t := y) e, lm_cons_ne (t := y) e]
                exact hf

/-- What one that follows wants. -/
theorem fol_iff {k : Int} : ∀ {a b : List Tm}, chk ab k a = true → chk ab k b = true → (fol a b = true ↔ ∀ f, lm b f &&& ~~~ lm a f = 0 ∧ ¬ Cf a b f) := by
  intro a b
  induction hn : a.length + b.length using Nat.strongRecOn generalizing k a b with
  | ind n ih =>
    intro ha hb
    cases b with
    | nil =>
      rw [fol_nil]
      simp only [true_iff]
      exact fun f => ⟨by simp [lm], cf_low (.inr rfl)⟩
    | cons y s =>
      obtain ⟨q1, q2, q3⟩ := chk_cons hb
      have hym := (okT_m q2).1
      cases a with
      | nil =>
        rw [fol_none]
        simp only [Bool.false_eq_true, false_iff]
        intro h
        have := (h y.f).1
        rw [lm_cons_eq] at this
        obtain ⟨i, hi⟩ := bvn.1 hym
        have := andn.1 this i hi
        simp [lm] at this
      | cons x r =>
        obtain ⟨p1, p2, p3⟩ := chk_cons ha
        rcases Int.lt_trichotomy x.f y.f with hlt | heq | hgt
        · have hb' : chk ab x.f (y :: s) = true := chk_mk hlt q2 q3
          rw [fol_lt hlt, ih _ (by simp at hn ⊢; omega) rfl p3 hb']
          have hl0 := low hb' (Int.le_refl _)
          constructor
          · intro h f
            by_cases e : x.f = f
            · subst e; exact ⟨by rw [hl0.2]; simp, cf_low (.inr hl0.2)⟩
            · have := h f
              unfold Cf at this ⊢
              rw [lv_cons_ne (t := x) e, lm_cons_ne (t := x) e]; exact this
          · intro h f
            by_cases e : x.f = f
            · subst e; exact ⟨by rw [hl0.2]; simp, cf_low (.inr hl0.2)⟩
            · have := h f
              unfold Cf at this ⊢
              rw [lv_cons_ne (t := x) e, lm_cons_ne (t := x) e] at this; exact this
        · cases hc : ((y.m &&& ~~~ x.m) != 0 || cfl x y)
          · rw [fol_eq heq hc, ih _ (by simp at hn ⊢; omega) rfl p3 (heq ▸ q3)]
            simp only [Bool.or_eq_false_iff, cfl, bne_eq_false_iff_eq] at hc
            have l1 := low p3 (Int.le_refl _)
            have l2 := low (heq ▸ q3 : chk ab x.f s = true) (Int.le_refl _)
            constructor
            · intro h f
              by_cases e : x.f = f
              · subst e
                unfold Cf
                rw [show lv (y :: s) x.f = y.v from by rw [heq]; exact lv_cons_eq, lv_cons_eq, show lm (y :: s) x.f = y.m from by rw [heq]; exact lm_cons_eq, lm_cons_eq]
                exact ⟨hc.1, by simp [hc.2]⟩
              · have e2 : ¬ y.f = f := by omega
                have := h f
                unfold Cf at this ⊢
                rw [lv_cons_ne (t := y) e2, lm_cons_ne (t := y) e2, lv_cons_ne (t := x) e, lm_cons_ne (t := x) e]; exact this
            · intro h f
              by_cases e : x.f = f
              · subst e; exact ⟨by rw [l2.2]; simp, cf_low (.inr l2.2)⟩
              · have e2 : ¬ y.f = f := by omega
                have := h f
                unfold Cf at this ⊢
                rw [lv_cons_ne (t := y) e2, lm_cons_ne (t := y) e2, lv_cons_ne (t := x) e, lm_cons_ne (t := x) e] at this; exact this
          · rw [fol_no heq hc]
            simp only [Bool.false_eq_true, false_iff]
            intro h
            have := h x.f
            unfold Cf at this
            rw [show lv (y :: s) x.f = y.v from by rw [heq]; exact lv_cons_eq, lv_cons_eq, show lm (y :: s) x.f = y.m from by rw [heq]; exact lm_cons_eq, lm_cons_eq] at this
            simp only [Bool.or_eq_true, cfl, bne_iff_ne] at hc
            rcases hc with hc | hc
            · exact hc this.1
            · exact this.2 hc
        · rw [fol_gt hgt]
          simp only [Bool.false_eq_true, false_iff]
          intro h
          have := (h y.f).1
          rw [(low (chk_mk (k := y.f) hgt p2 p3) (Int.le_refl _)).2, lm_cons_eq] at this
          obtain ⟨i, hi⟩ := bvn.1 hym
          have := andn.1 this i hi
          simp at this

theorem jn_some {k : Int} {a b l : List Tm} (ha : chk ab k a = true) (hb : chk ab k b = true) (h : jn a b = some l) : chk ab k l = true ∧ ∀ f, lv l f = lv a f ||| lv b f ∧ lm l f = lm a f ||| lm b f ∧ ¬ Cf a b f := (jn_spec ha hb).1 l h
theorem jn_none {k : Int} {a b : List Tm} (ha : chk ab k a = true) (hb : chk ab k b = true) : jn a b = none ↔ ∃ f, Cf a b f := by
  refine ⟨(jn_spec ha hb).2, fun ⟨f, hf⟩ => ?_⟩
  cases h : jn a b with
  | none => rfl
  | some l => exact absurd hf (((jn_some ha hb h).2 f).2.2)
/-- A conflict, bit by bit. -/
theorem cf_iff {a b : List Tm} {f : Int} : Cf a b f ↔ ∃ i, (lv a f).getLsbD i ≠ (lv b f).getLsbD i ∧ (lm a f).getLsbD i = true ∧ (lm b f).getLsbD i = true := by
  unfold Cf
  rw [bvn]
  constructor
  · rintro ⟨i, hi⟩
    simp only [BitVec.getLsbD_and, BitVec.getLsbD_xor, Bool.and_eq_true] at hi
    exact ⟨i, by simpa using hi.1.1, hi.1.2, hi.2⟩
  · rintro ⟨i, h1, h2, h3⟩
    refine ⟨i, ?_⟩
    simp only [BitVec.getLsbD_and, BitVec.getLsbD_xor, Bool.and_eq_true]
    exact ⟨⟨by simpa using h1, h2⟩, h3⟩
theorem cf_comm {a b : List Tm} {f : Int} (h : Cf a b f) : Cf b a f := by
  rw [cf_iff] at h ⊢
  obtain ⟨i, h1, h2, h3⟩ := h
  exact ⟨i, fun e => h1 e.symm, h3, h2⟩
theorem jn_comm {k : Int} {a b : List Tm} (ha : chk ab k a = true) (hb : chk ab k b = true) : jn a b = jn b a := by
  cases h1 : jn a b with
  | none =>
    obtain ⟨f, hf⟩ := (jn_none ha hb).1 h1
    exact ((jn_none hb ha).2 ⟨f, cf_comm hf⟩).symm
  | some l =>
    cases h2 : jn b a with
    | none =>
      obtain ⟨f, hf⟩ := (jn_none hb ha).1 h2
      rw [(jn_none ha hb).2 ⟨f, cf_comm hf⟩] at h1
      cases h1
    | some l2 =>
      obtain ⟨c1, d1⟩ := jn_some ha hb h1
      obtain ⟨c2, d2⟩ := jn_some hb ha h2
      rw [ext c1 c2 fun f => by rw [(d1 f).1, (d2 f).1, (d1 f).2.1, (d2 f).2.1]; exact ⟨BitVec.or_comm _ _, BitVec.or_comm _ _⟩]
/-- What a value has, its mask has. -/
theorem vm {k : Int} {a : List Tm} (ha : chk ab k a = true) (f : Int) {i : Nat} (h : (lv a f).getLsbD i = true) : (lm a f).getLsbD i = true := andn.1 (inv ha f).1 i h
theorem jn_assoc {k : Int} {a b c x z : List Tm} (ha : chk ab k a = true) (hb : chk ab k b = true) (hc : chk ab k c = true) (hx : jn a b = some x) (hz : jn b c = some z) : jn x c = jn a z := by
  obtain ⟨cx, dx⟩ := jn_some ha hb hx
  obtain ⟨cz, dz⟩ := jn_some hb hc hz
  have key : ∀ f, Cf x c f ↔ Cf a z f := by
    intro f
    have e1 := (dx f).2.2
    have e2 := (dz f).2.2
    rw [cf_iff] at e1 e2
    rw [cf_iff, cf_iff]
    refine exists_congr fun i => ?_
    have e1 := (not_exists.1 e1) i
    have e2 := (not_exists.1 e2) i
    have va := vm ha f (i := i)
    have vb := vm hb f (i := i)
    have vc := vm hc f (i := i)
    rw [(dx f).1, (dx f).2.1, (dz f).1, (dz f).2.1]
    simp only [BitVec.getLsbD_or]
    revert e1 e2 va vb vc
    cases (lv a f).getLsbD i <;> cases (lv b f).getLsbD i <;> cases (lv c f).getLsbD i <;> cases (lm a f).getLsbD i <;> cases (lm b f).getLsbD i <;> cases (lm c f).getLsbD i <;> simp
  cases h1 : jn x c with
  | none =>
    obtain ⟨f, hf⟩ := (jn_none cx hc).1 h1
    exact ((jn_none ha cz).2 ⟨f, (key f).1 hf⟩).symm
  | some l =>
    cases h2 : jn a z with
    | none =>
      obtain ⟨f, hf⟩ := (jn_none ha cz).1 h2
      rw [(jn_none cx hc).2 ⟨f, (key f).2 hf⟩] at h1
      cases h1
    | some l2 =>
      obtain ⟨c1, d1⟩ := jn_some cx hc h1
      obtain ⟨c2, d2⟩ := jn_some ha cz h2
      rw [ext c1 c2 fun f => by rw [(d1 f).1, (d2 f).1, (d1 f).2.1, (d2 f).2.1, (dx f).1, (dx f).2.1, (dz f).1, (dz f).2.1]; exact ⟨BitVec.or_assoc _ _ _, BitVec.or_assoc _ _ _⟩]
/-- Implied, bit by bit. -/
theorem fol_bits {k : Int} {a b : List Tm} (ha : chk ab k a = true) (hb : chk ab k b = true) : fol a b = true ↔ ∀ f i, (lm b f).getLsbD i = true → (lm a f).getLsbD i = true ∧ (lv a f).getLsbD i = (lv b f).getLsbD i := by
  rw [fol_iff ha hb]
  constructor
  · intro h f i hi
    have h1 := andn.1 (h f).1 i hi
    refine ⟨h1, Decidable.byContradiction fun hne => (h f).2 (cf_iff.2 ⟨i, hne, h1, hi⟩)⟩
  · intro h f
    refine ⟨andn.2 fun i hi => (h f i hi).1, fun hc => ?_⟩
    obtain ⟨i, h1, h2, h3⟩ := cf_iff.1 hc
    exact h1 (h f i h3).2
theorem fol_trans {k : Int} {a b c : List Tm} (ha : chk ab k a = true) (hb : chk ab k b = true) (hc : chk ab k c = true) (h1 : fol a b = true) (h2 : fol b c = true) : fol a c = true := by
  rw [fol_bits ha hb] at h1
  rw [fol_bits hb hc] at h2
  rw [fol_bits ha hc]
  intro f i hi
  obtain ⟨p1, p2⟩ := h2 f i hi
  obtain ⟨q1, q2⟩ := h1 f i p1
  exact ⟨q1, q2.trans p2⟩
theorem fol_anti {k : Int} {a b : List Tm} (ha : chk ab k a = true) (hb : chk ab k b = true) (h1 : fol a b = true) (h2 : fol b a = true) : a = b := by
  rw [fol_bits ha hb] at h1
  rw [fol_bits hb ha] at h2
  refine ext ha hb fun f => ⟨bve.2 fun i => ?_, bve.2 fun i => ?_⟩
  · have p1 := h1 f i
    have p2 := h2 f i
    have va := vm ha f (i := i)
    have vb := vm hb f (i := i)
    revert p1 p2 va vb
    cases (lv a f).getLsbD i <;> cases (lv b f).getLsbD i <;> cases (lm a f).getLsbD i <;> cases (lm b f).getLsbD i <;> simp
  · have p1 := h1 f i
    have p2 := h2 f i
    revert p1 p2
    cases (lm a f).getLsbD i <;> cases (lm b f).getLsbD i <;> simp
theorem fol_left {k : Int} {a b x : List Tm} (ha : chk ab k a = true) (hb : chk ab k b = true) (hx : jn a b = some x) : fol x a = true := by
  obtain ⟨cx, dx⟩ := jn_some ha hb hx
  rw [fol_bits cx ha]
  intro f i hi
  have e1 := (dx f).2.2
  rw [cf_iff] at e1
  have e1 := (not_exists.1 e1) i
  have vb := vm hb f (i := i)
  rw [(dx f).1, (dx f).2.1]
  simp only [BitVec.getLsbD_or]
  revert e1 vb hi
  cases (lv a f).getLsbD i <;> cases (lv b f).getLsbD i <;> cases (lm a f).getLsbD i <;> cases (lm b f).getLsbD i <;> simp
theorem fol_right {k : Int} {a b x : List Tm} (ha : chk ab k a = true) (hb : chk ab k b = true) (hx : jn a b = some x) : fol x b = true :=
  fol_left hb ha ((jn_comm hb ha).trans hx)
end Go.Proofs.YtnahhmcmahbnkaaGreatDoor
