/- Texts of tokens joined, and their tokens (plain facts). Conditions: none. -/
import Derived.Test.YtajjffjnnjklnaaDoorOC
import Derived.Lib.Join
namespace Go.Proofs.YtajjffjnnjklnaaDoor
open Go.Shelf Go.RowKit
def quo : ByteArray := ⟨#[34]⟩
/-- A token as it stands. -/
def repr9 (x : Tk) : ByteArray := if x.k = 6 then quo ++ x.t ++ quo else x.t
def reprs : List Tk → List ByteArray
  | [] => []
  | x :: r => if x.k = 7 then reprs r else repr9 x :: reprs r
def jt : List ByteArray → ByteArray
  | [] => non
  | y :: r => spc ++ (y ++ jt r)
def jn : List ByteArray → ByteArray
  | [] => non
  | x :: r => x ++ jt r
theorem reprs_app (a b : List Tk) : reprs (a ++ b) = reprs a ++ reprs b := by
  induction a with
  | nil => rfl
  | cons x r ih =>
    show (if x.k = 7 then reprs (r ++ b) else repr9 x :: reprs (r ++ b)) = (if x.k = 7 then reprs r else repr9 x :: reprs r) ++ reprs b
    by_cases h : x.k = 7
    · rw [if_pos h, if_pos h, ih]
    · rw [if_neg h, if_neg h, ih]; rfl
theorem jt_app (a b : List ByteArray) : jt (a ++ b) = jt a ++ jt b := by
  induction a with
  | nil => exact (nil_app _).symm
  | cons x r ih =>
    show spc ++ (x ++ jt (r ++ b)) = (spc ++ (x ++ jt r)) ++ jt b
    rw [ih]
    apply ByteArray.ext
    simp only [data_app, Array.append_assoc]
theorem jn_snoc (a : List ByteArray) (y : ByteArray) : jn (a ++ [y]) = if a = [] then y else jn a ++ (spc ++ y) := by
  cases a with
  | nil => rw [if_pos rfl]; exact app_nil y
  | cons x r =>
    rw [if_neg (by simp)]
    show x ++ jt (r ++ [y]) = (x ++ jt r) ++ (spc ++ y)
    rw [jt_app, show jt [y] = spc ++ y from congrArg (spc ++ ·) (app_nil y)]
    apply ByteArray.ext
    simp only [data_app, Array.append_assoc]
theorem list_app (a b : ByteArray) : (a ++ b).data.toList = a.data.toList ++ b.data.toList := by rw [data_app, Array.toList_append]
theorem jt_list (r : List ByteArray) : (jt r).data.toList = Lib.joinTail [32] (r.map (·.data.toList)) := by
  induction r with
  | nil => rfl
  | cons y r ih =>
    show (spc ++ (y ++ jt r)).data.toList = _
    rw [list_app, list_app, ih]
    simp [Lib.joinTail, spc]
theorem jn_lib (xs : List ByteArray) : (⟨(Lib.join (xs.map (·.data.toList)) [32]).toArray⟩ : ByteArray) = jn xs := by
  cases xs with
  | nil => rfl
  | cons x r =>
    apply ByteArray.ext
    apply Array.toList_inj.1
    show Lib.join _ _ = (x ++ jt r).data.toList
    rw [List.map_cons, Lib.join_cons, list_app, jt_list]
theorem jn_len (xs : List ByteArray) : (Lib.join (xs.map (·.data.toList)) [32]).length = (jn xs).size := by
  rw [← jn_lib xs]
  rfl
theorem jt_size {m : Nat} : ∀ (r : List ByteArray), (∀ y ∈ r, y.size ≤ m) → (jt r).size ≤ r.length * (m + 1)
  | [], _ => Nat.zero_le _
  | y :: r, h => by
    show (spc ++ (y ++ jt r)).size ≤ (r.length + 1) * (m + 1)
    rw [size_app, size_app, size_spc, Nat.add_mul]
    have := jt_size r (fun z hz => h z (List.mem_cons_of_mem _ hz))
    have := h y (List.mem_cons_self ..)
    omega
theorem jn_size {m : Nat} (xs : List ByteArray) (h : ∀ y ∈ xs, y.size ≤ m) : (jn xs).size ≤ xs.length * (m + 1) := by
  cases xs with
  | nil => exact Nat.zero_le _
  | cons x r =>
    show (x ++ jt r).size ≤ (r.length + 1) * (m + 1)
    rw [size_app, Nat.add_mul]
    have := jt_size r (fun z hz => h z (List.mem_cons_of_mem _ hz))
    have := h x (List.mem_cons_self ..)
    omega
/-- A token but for its place. -/
def zero9 (x : Tk) : Tk := ⟨x.k, x.t, x.n, 0⟩
theorem own_repr {c : ByteArray} {x : Tk} (h : Own c x) : repr9 x = c ∧ x.k ≠ 7 ∧ x.a = 0 := by
  have key : ∀ (k n : Int) (t : ByteArray), k ≠ 6 → repr9 ⟨k, t, n, 0⟩ = t := fun k n t hk => if_neg hk
  rcases h with ⟨a, b, d, e, rfl⟩ | ⟨a, b, d, v, e, rfl⟩ | ⟨a, b, d, e, f, rfl⟩ | ⟨v, a, rfl⟩ | ⟨a, b, v, d, rfl⟩ | ⟨a, rfl⟩ | ⟨a, b, d, e, f, rfl⟩
  · exact ⟨key _ _ _ (by decide), by show (1 : Int) ≠ 7; decide, rfl⟩
  · exact ⟨key _ _ _ (by decide), by show (2 : Int) ≠ 7; decide, rfl⟩
  · exact ⟨key _ _ _ (by decide), by show (2 : Int) ≠ 7; decide, rfl⟩
  · exact ⟨key _ _ _ (by decide), by show (3 : Int) ≠ 7; decide, rfl⟩
  · exact ⟨key _ _ _ (by decide), by show (4 : Int) ≠ 7; decide, rfl⟩
  · exact ⟨key _ _ _ (by decide), by show (5 : Int) ≠ 7; decide, rfl⟩
  · refine ⟨?_, by show (6 : Int) ≠ 7; decide, rfl⟩
    show (if (6 : Int) = 6 then quo ++ c.extract 1 (c.size - 1) ++ quo else _) = c
    rw [if_pos rfl]
    have hq : quo.size = 1 := rfl
    have hx : (c.extract 1 (c.size - 1)).size = c.size - 2 := by rw [ByteArray.size_extract]; omega
    apply ext_bytes
    · rw [size_app, size_app, hx, hq]; omega
    · intro i hi
      rw [size_app, size_app, hx, hq] at hi
      by_cases h1 : i < c.size - 1
      · rw [byt_l (by rw [size_app, hx, hq]; omega)]
        by_cases h0 : i = 0
        · subst h0; rw [byt_l (by decide), d]; decide
        · have := byt_r quo (c.extract 1 (c.size - 1)) (i - 1)
          rw [hq, show 1 + (i - 1) = i by omega] at this
          rw [this, byt_x (by omega), show 1 + (i - 1) = i by omega]
      · have := byt_r (quo ++ c.extract 1 (c.size - 1)) quo 0
        rw [size_app, hx, hq, show 1 + (c.size - 2) + 0 = i by omega] at this
        rw [this, show i = c.size - 1 by omega, e]; decide
/-- The tokens that Tokens tells are tokens. -/
theorem tokF_own (s : ByteArray) : ∀ (f k : Nat) (acc L : List Tk) (n : Nat), tokF s f k acc = (some L, n) → ∃ r, L = acc ++ (r ++ [⟨7, ⟨#[]⟩, 0, (s.size : Nat)⟩]) ∧ ∀ x ∈ r, Own (repr9 x) (zero9 x) ∧ x.k ≠ 7 := by
  intro f
  induction f with
  | zero => intro k acc L n h; cases h
  | succ f ih =>
    intro k acc L n h
    rw [tokF_succ] at h
    generalize k + blkS (s.extract k s.size) = p at *
    have ho := ownAt_long (s.extract p s.size)
    generalize longS (s.extract p s.size) = x at *
    split at h
    · cases h
      exact ⟨[], rfl, fun x hx => absurd hx (List.not_mem_nil)⟩
    · split at h
      · cases h
      · rename_i hm
        obtain ⟨r, h1, h2⟩ := ih _ _ L n h
        have hO := ho (Nat.pos_of_ne_zero hm)
        obtain ⟨e1, e2, e3⟩ := own_repr hO
        refine ⟨{ x.1 with a := ((p : Nat) : Int) } :: r, by rw [h1]; simp, fun y hy => ?_⟩
        rcases List.mem_cons.1 hy with rfl | hy
        · refine ⟨?_, e2⟩
          have e4 : zero9 { x.1 with a := ((p : Nat) : Int) } = x.1 := by
            obtain ⟨⟨a1, a2, a3, a4⟩, a5⟩ := x
            have e3 : a4 = 0 := e3
            subst e3; rfl
          rw [e4, show repr9 { x.1 with a := ((p : Nat) : Int) } = repr9 x.1 from rfl, e1]
          exact hO
        · exact h2 y hy
theorem reprs_all {r : List Tk} (h : ∀ x ∈ r, x.k ≠ 7) : reprs r = r.map repr9 := by
  induction r with
  | nil => rfl
  | cons x r ih =>
    show (if x.k = 7 then reprs r else repr9 x :: reprs r) = _
    rw [if_neg (h x (List.mem_cons_self ..)), ih (fun y hy => h y (List.mem_cons_of_mem _ hy))]; rfl
theorem jt_ends (k : Int) (r : List ByteArray) : Ends k (jt r) := by
  cases r with
  | nil => exact .inl rfl
  | cons y r => exact .inr (.inr (.inl (by show byt (spc ++ (y ++ jt r)) 0 = 32; rw [byt_l (by decide)]; decide)))
theorem core_zero (x : Tk) (b : Int) : core x = core { zero9 x with a := b } := rfl
/-- Tokens behind one another, a blank ahead of each. -/
theorem tokF_jt {J : ByteArray} : ∀ (r : List Tk) (f k : Nat) (acc : List Tk), (∀ x ∈ r, Own (repr9 x) (zero9 x) ∧ x.k ≠ 7) → k ≤ J.size → J.extract k J.size = jt (r.map repr9) → r.length < f → ∃ r', tokF J f k acc = (some (acc ++ (r' ++ [⟨7, ⟨#[]⟩, 0, (J.size : Nat)⟩])), 0) ∧ AlikeC r r'
  | [], f, k, acc, _, hk, hJ, hf => by
    obtain ⟨g, rfl⟩ : ∃ g, f = g + 1 := ⟨f - 1, by have : 0 < f := hf; omega⟩
    have hz := congrArg ByteArray.size hJ
    rw [ByteArray.size_extract] at hz
    have hz : min J.size J.size - k = 0 := hz
    obtain rfl : k = J.size := by omega
    exact ⟨[], by rw [tokF_end]; rfl, rfl⟩
  | y :: r, f, k, acc, h, hk, hJ, hf => by
    obtain ⟨g, rfl⟩ : ∃ g, f = g + 1 := ⟨f - 1, by have : r.length + 1 < f := hf; omega⟩
    obtain ⟨s1, k1, r1⟩ := tokF_step (f := g) (acc := acc) hk (show J.extract k J.size = spc ++ (repr9 y ++ jt (r.map repr9)) from hJ) (.inr rfl) (h y (List.mem_cons_self ..)).1 (jt_ends _ _)
    obtain ⟨r', h1, h2⟩ := tokF_jt r g _ (acc ++ [{ zero9 y with a := ((k + spc.size : Nat) : Int) }]) (fun x hx => h x (List.mem_cons_of_mem _ hx)) k1 r1 (by have : r.length + 1 < g + 1 := hf; omega)
    refine ⟨{ zero9 y with a := ((k + spc.size : Nat) : Int) } :: r', by rw [s1, h1]; simp, ?_⟩
    show core y :: r.map core = core _ :: r'.map core
    rw [show r.map core = r'.map core from h2]
    rfl
theorem jt_count {r : List Tk} (h : ∀ x ∈ r, Own (repr9 x) (zero9 x) ∧ x.k ≠ 7) : r.length ≤ (jt (r.map repr9)).size := by
  induction r with
  | nil => exact Nat.zero_le _
  | cons y r ih =>
    show r.length + 1 ≤ (spc ++ (repr9 y ++ jt (r.map repr9))).size
    rw [size_app, size_app, size_spc]
    have := ih (fun x hx => h x (List.mem_cons_of_mem _ hx))
    omega
theorem tokF_step0p {J c w : ByteArray} {x : Tk} {k f : Nat} {acc : List Tk} (hk : k ≤ J.size) (hJ : J.extract k J.size = c ++ w) (ho : Own c x) (he : Ends x.k w) :
    tokF J (f + 1) k acc = tokF J f (k + c.size) (acc ++ [{ x with a := ((k : Nat) : Int) }]) ∧ k + c.size ≤ J.size ∧ J.extract (k + c.size) J.size = w :=
  tokF_step (sp := non) hk (by rw [hJ, nil_app]) (.inl rfl) ho he
/-- Tokens joined, and read again. -/
theorem toks_joined {r : List Tk} (h : ∀ x ∈ r, Own (repr9 x) (zero9 x) ∧ x.k ≠ 7) : ∃ r', tokS (jn (r.map repr9)) = (some (r' ++ [⟨7, ⟨#[]⟩, 0, ((jn (r.map repr9)).size : Nat)⟩]), 0) ∧ AlikeC r r' := by
  cases r with
  | nil => exact ⟨[], by
      have : tokS non = tokF non (non.size + 1) non.size [] := rfl
      show tokS non = _
      rw [this, tokF_end]; rfl, rfl⟩
  | cons y r =>
    generalize hJ : jn ((y :: r).map repr9) = J
    have hJ2 : repr9 y ++ jt (r.map repr9) = J := hJ
    have hc := jt_count (r := r) (fun x hx => h x (List.mem_cons_of_mem _ hx))
    have hy := own_first (h y (List.mem_cons_self ..)).1
    have hsz : J.size = (repr9 y).size + (jt (r.map repr9)).size := by rw [← hJ2, size_app]
    unfold tokS
    obtain ⟨s1, k1, r1⟩ := tokF_step0p (f := J.size) (acc := []) (Nat.zero_le _) (show J.extract 0 J.size = repr9 y ++ jt (r.map repr9) by rw [ext_all, hJ2]) (h y (List.mem_cons_self ..)).1 (jt_ends _ _)
    obtain ⟨r', h1, h2⟩ := tokF_jt r J.size _ ([] ++ [{ zero9 y with a := ((0 : Nat) : Int) }]) (fun x hx => h x (List.mem_cons_of_mem _ hx)) k1 r1 (by omega)
    refine ⟨{ zero9 y with a := ((0 : Nat) : Int) } :: r', by rw [s1, h1]; simp, ?_⟩
    show core y :: r.map core = core _ :: r'.map core
    rw [show r.map core = r'.map core from h2]
    rfl
theorem reprs_alike {L M : List Tk} : AlikeC L M → reprs L = reprs M := by
  induction L generalizing M with
  | nil =>
    intro h
    cases M with
    | nil => rfl
    | cons y M => cases h
  | cons x L ih =>
    intro h
    cases M with
    | nil => cases h
    | cons y M =>
      have h' : core x :: L.map core = core y :: M.map core := h
      have h1 : core x = core y := (List.cons.inj h').1
      have h2 := ih (M := M) (List.cons.inj h').2
      have a1 : x.k = y.k := congrArg Prod.fst h1
      have a2 : x.t = y.t := congrArg (fun q => q.2.1) h1
      show (if x.k = 7 then reprs L else repr9 x :: reprs L) = (if y.k = 7 then reprs M else repr9 y :: reprs M)
      unfold repr9
      rw [a1, a2, h2]
end Go.Proofs.YtajjffjnnjklnaaDoor
