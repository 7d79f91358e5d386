/- Where tokens stand: each where it says, one behind the other. Conditions: none. -/
import Derived.Test.YtajjffjnnjklnaaDoorLQ
namespace Go.Proofs.YtajjffjnnjklnaaDoor
open Go.Shelf Go.RowKit
/-- What a reader tells stands at the text's beginning (a text behind its quote). -/
def Std (s : ByteArray) (r : Tk × Nat) : Prop := 0 < r.2 → (r.1.k ≠ 6 ∧ r.1.t = s.extract 0 r.2) ∨ (r.1.k = 6 ∧ 2 ≤ r.2 ∧ r.1.t = s.extract 1 (r.2 - 1))
theorem ne6 {k : Int} {t : ByteArray} {n a : Int} {m : Nat} (h : k ≠ 6) : ((⟨k, t, n, a⟩, m) : Tk × Nat).1.k ≠ 6 := h
theorem std_tz (s : ByteArray) : Std s (tz, 0) := fun h => absurd h (by decide)
theorem std_name (s : ByteArray) : Std s (tkName s) := by
  unfold tkName; split
  · exact std_tz s
  · exact fun _ => .inl ⟨ne6 (by decide), rfl⟩
theorem std_num (s : ByteArray) : Std s (tkNum s) := by
  unfold tkNum fin9; split
  · exact std_tz s
  · split
    · exact std_tz s
    · exact fun _ => .inl ⟨ne6 (by decide), rfl⟩
theorem std_mac (s : ByteArray) : Std s (tkMac s) := by
  unfold tkMac fin3; split
  · rename_i m h
    have := macSpec_size h
    simp at this
    exact fun _ => .inl ⟨ne6 (by decide), by show s.extract 0 (min s.size 17) = s.extract 0 17; rw [show min s.size 17 = 17 by omega]⟩
  · exact std_tz s
theorem std_addr (s : ByteArray) : Std s (tkAddr s) := by
  unfold tkAddr fin4; split
  · exact fun _ => .inl ⟨ne6 (by decide), rfl⟩
  · exact std_tz s
theorem std_op (s : ByteArray) : Std s (tkOp s) := by
  unfold tkOp; split
  · exact fun _ => .inl ⟨ne6 (by decide), rfl⟩
  · split
    · exact fun _ => .inl ⟨ne6 (by decide), rfl⟩
    · exact fun h => absurd h (by decide)
theorem std_text (s : ByteArray) : Std s (tkText s) := by
  unfold tkText; split
  · exact fun _ => .inr ⟨rfl, by show 2 ≤ 1 + runS (s.extract 1 s.size) textB + 1; omega, by show _ = s.extract 1 (1 + runS (s.extract 1 s.size) textB + 1 - 1); rw [Nat.add_sub_cancel]⟩
  · exact std_tz s
theorem std_best {s : ByteArray} {a b : Tk × Nat} (ha : Std s a) (hb : Std s b) : Std s (best a b) := by unfold best; split <;> assumption
theorem std_long (s : ByteArray) : Std s (longS s) := by
  rw [longS_eq]
  exact std_best (std_best (std_best (std_best (std_best (std_best (std_tz s) (std_name s)) (std_num s)) (std_mac s)) (std_addr s)) (std_op s)) (std_text s)
/-- Where a token's Text begins. -/
def at6 (t : Tk) : Int := if t.k = 6 then t.a + 1 else t.a
/-- Each token stands where it says, behind the one ahead. -/
def Placed (s : ByteArray) : Int → List Tk → Prop
  | _, [] => True
  | e, t :: r => e ≤ t.a ∧ t.a ≤ s.size ∧ at6 t + t.t.size ≤ s.size ∧ s.extract (at6 t).toNat (at6 t + t.t.size).toNat = t.t ∧ Placed s (at6 t + t.t.size) r
theorem Placed.mono {s : ByteArray} {e e' : Int} (h : e' ≤ e) : ∀ {r : List Tk}, Placed s e r → Placed s e' r
  | [], _ => trivial
  | _ :: _, ⟨h1, h2⟩ => ⟨Int.le_trans h h1, h2⟩
theorem ext_ext (s : ByteArray) (p i j : Nat) (h : p + j ≤ s.size) : (s.extract p s.size).extract i j = s.extract (p + i) (p + j) := by
  rw [ByteArray.extract_extract]
  congr 1
  omega
/-- A token and where it ends: at most where the next one may begin. -/
theorem std_at {s : ByteArray} {p m : Nat} {x : Tk} (hp : p ≤ s.size) (hm : m ≤ s.size - p) (h : (x.k ≠ 6 ∧ x.t = (s.extract p s.size).extract 0 m) ∨ (x.k = 6 ∧ 2 ≤ m ∧ x.t = (s.extract p s.size).extract 1 (m - 1))) (y : Tk) (hy : y = ⟨x.k, x.t, x.n, (p : Nat)⟩) :
    at6 y + y.t.size ≤ (p + m : Nat) ∧ s.extract (at6 y).toNat (at6 y + y.t.size).toNat = y.t := by
  subst hy
  rcases h with ⟨h1, h2⟩ | ⟨h1, h2, h3⟩
  · have hsz : x.t.size = m := by rw [h2]; simp; omega
    unfold at6
    simp only [if_neg h1]
    rw [hsz]
    refine ⟨by omega, ?_⟩
    rw [show ((p : Int)).toNat = p by omega, show ((p : Int) + (m : Int)).toNat = p + m by omega, h2, ext_ext s p 0 m (by omega)]
    rfl
  · have hsz : x.t.size = m - 2 := by rw [h3]; simp; omega
    unfold at6
    simp only [if_pos h1]
    rw [hsz]
    refine ⟨by omega, ?_⟩
    rw [show ((p : Int) + 1).toNat = p + 1 by omega, show ((p : Int) + 1 + ((m - 2 : Nat) : Int)).toNat = p + (m - 1) by omega, h3, ext_ext s p 1 (m - 1) (by omega)]
/-- The tokens that Tokens tells from a place on. -/
theorem tokF_placed (s : ByteArray) : ∀ (f k : Nat) (acc L : List Tk) (n : Nat), k ≤ s.size → tokF s f k acc = (some L, n) → ∃ r, L = acc ++ (r ++ [⟨7, ⟨#[]⟩, 0, (s.size : Nat)⟩]) ∧ Placed s k (r ++ [⟨7, ⟨#[]⟩, 0, (s.size : Nat)⟩])
  | 0, k, acc, L, n, hk, h => by unfold tokF at h; cases h
  | f + 1, k, acc, L, n, hk, h => by
    have hbl := blkS_le (s.extract k s.size)
    rw [show (s.extract k s.size).size = s.size - k by simp] at hbl
    unfold tokF at h
    generalize blkS (s.extract k s.size) = b at *
    generalize hp : k + b = p at *
    have hfit := (fits_long (s.extract p s.size)).1
    rw [show (s.extract p s.size).size = s.size - p by simp] at hfit
    have hstd := std_long (s.extract p s.size)
    obtain ⟨⟨x, m⟩, hx⟩ : ∃ x, longS (s.extract p s.size) = x := ⟨_, rfl⟩
    rw [hx] at hfit hstd h
    have hfit : m ≤ s.size - p := hfit
    split at h
    · rename_i he
      cases h
      refine ⟨[], rfl, ?_⟩
      refine ⟨by show (k : Int) ≤ (s.size : Nat); omega, by show ((s.size : Nat) : Int) ≤ s.size; omega, ?_, ?_, trivial⟩
      · show (s.size : Int) + ((0 : Nat) : Int) ≤ s.size; omega
      · show s.extract ((s.size : Nat) : Int).toNat (((s.size : Nat) : Int) + ((0 : Nat) : Int)).toNat = ⟨#[]⟩
        rw [show (((s.size : Nat) : Int) + ((0 : Nat) : Int)).toNat = s.size by omega, show (((s.size : Nat) : Int)).toNat = s.size by omega]
        apply ByteArray.ext
        apply Array.eq_empty_of_size_eq_zero
        show (s.extract s.size s.size).size = 0
        simp
    · split at h
      · cases h
      · rename_i hm0
        have hm0 : ¬ m = 0 := hm0
        obtain ⟨r, hr1, hr2⟩ := tokF_placed s f (p + m) _ L n (by omega) h
        refine ⟨⟨x.k, x.t, x.n, (p : Nat)⟩ :: r, by rw [hr1]; simp, ?_⟩
        have hh := std_at (s := s) (p := p) (m := m) (x := x) (by omega) hfit (hstd (Nat.pos_of_ne_zero hm0)) _ rfl
        refine ⟨by show (k : Int) ≤ (p : Nat); omega, by show ((p : Nat) : Int) ≤ s.size; omega, by have := hh.1; omega, hh.2, ?_⟩
        exact hr2.mono (by have := hh.1; omega)
end Go.Proofs.YtajjffjnnjklnaaDoor
