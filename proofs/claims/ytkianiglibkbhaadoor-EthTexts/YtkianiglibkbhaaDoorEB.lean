/- The document's Addr, sign by sign, against the program's. No condition. -/
import Derived.Test.YtkianiglibkbhaaDoorEA
namespace Go.Proofs.YtkianiglibkbhaaDoor
open Go.RowKit
/-- The document's way through a text's rest. -/
def rA (s : ByteArray) : Nat → Nat → Int → Nat → Int → Nat → Option Int
  | 0, _, x, parts, n, size => if size = 0 then none else if parts + 1 = 4 then some (x * 256 + n) else none
  | m + 1, i, x, parts, n, size =>
    if byt s i = 46 then (if size = 0 then none else rA s m (i + 1) (x * 256 + n) (parts + 1) 0 0)
    else if byt s i < 48 ∨ 57 < byt s i ∨ (0 < size ∧ n = 0) ∨ size = 3 then none
    else if 255 < 10 * n + (byt s i - 48) ∨ 3 < parts then none
    else rA s m (i + 1) x parts (10 * n + (byt s i - 48)) (size + 1)
/-- Behind four parts nothing may come. -/
theorem rA_four (s : ByteArray) (m i : Nat) (x : Int) (parts : Nat) (h : 4 ≤ parts) : rA s m i x parts 0 0 = none := by
  cases m with
  | zero => simp [rA]
  | succ m =>
    unfold rA
    split
    · rfl
    · split
      · rfl
      · rw [if_pos (.inr (by omega))]
/-- The rest of a text from place k on, as one of its own. -/
theorem byt_ext (s : ByteArray) (k i : Nat) (h : k + i < s.size) : byt (s.extract k s.size) i = byt s (k + i) := by
  unfold byt
  congr 2
  have h1 : (s.extract k s.size).data = s.data.extract k s.size := by simp [ByteArray.data_extract]
  rw [h1]
  have hs : s.data.size = s.size := rfl
  rw [Array.getD_eq_getD_getElem?, Array.getD_eq_getD_getElem?, Array.getElem?_extract]
  simp only [hs, Nat.min_self]
  rw [if_pos (by omega)]
theorem ext_size (s : ByteArray) (k : Nat) : (s.extract k s.size).size = s.size - k := by simp
/-- A digit's value. -/
def dg (s : ByteArray) (i : Nat) : Int := byt s i - 48
theorem digB_iff (c : Int) : digB c = true ↔ 48 ≤ c ∧ c ≤ 57 := by simp [digB]
/-- One step of the document's way at a digit. -/
theorem rA_digit {s : ByteArray} {m i : Nat} {x : Int} {parts : Nat} {n : Int} {size : Nat} (hd : digB (byt s i) = true) (h1 : ¬ (0 < size ∧ n = 0)) (h2 : size ≠ 3) (h3 : 10 * n + dg s i ≤ 255) (h4 : parts ≤ 3) :
    rA s (m + 1) i x parts n size = rA s m (i + 1) x parts (10 * n + dg s i) (size + 1) := by
  have hd' := (digB_iff _).1 hd
  unfold dg at h3
  rw [rA, if_neg (by omega), if_neg (by omega), if_neg (by omega)]; rfl
theorem rA_bad {s : ByteArray} {m i : Nat} {x : Int} {parts : Nat} {n : Int} {size : Nat} (hd : digB (byt s i) = true) (h : (0 < size ∧ n = 0) ∨ size = 3 ∨ 255 < 10 * n + dg s i) :
    rA s (m + 1) i x parts n size = none := by
  have hd' := (digB_iff _).1 hd
  unfold dg at h
  rw [rA, if_neg (by omega)]
  by_cases h1 : byt s i < 48 ∨ 57 < byt s i ∨ (0 < size ∧ n = 0) ∨ size = 3
  · rw [if_pos h1]
  · rw [if_neg h1, if_pos (.inl (by omega))]
/-- Where no digit follows. -/
theorem rA_stop {s : ByteArray} {m i : Nat} {x : Int} {parts : Nat} {n : Int} {size : Nat} (hz : size ≠ 0) (_hp : parts ≤ 3) (h : m = 0 ∨ digB (byt s i) = false) :
    rA s m i x parts n size = if m = 0 then (if parts = 3 then some (x * 256 + n) else none) else if byt s i = 46 then rA s (m - 1) (i + 1) (x * 256 + n) (parts + 1) 0 0 else none := by
  cases m with
  | zero =>
    rw [rA, if_neg hz, if_pos rfl]
    by_cases h3 : parts = 3
    · rw [if_pos (by omega), if_pos h3]
    · rw [if_neg (by omega), if_neg h3]
  | succ m =>
    have hd : digB (byt s i) = false := h.resolve_left (by omega)
    have hd' : ¬ (48 ≤ byt s i ∧ byt s i ≤ 57) := by rw [← digB_iff, hd]; decide
    rw [rA, if_neg (show ¬ m + 1 = 0 by omega)]
    by_cases h46 : byt s i = 46
    · rw [if_pos h46, if_neg hz, if_pos h46]; rfl
    · rw [if_neg h46, if_neg h46, if_pos (by omega)]
theorem octS_eq (t : ByteArray) : octS t = if octBad t (octFrom t 0 3 0).1 (octFrom t 0 3 0).2 then (0, 0) else octFrom t 0 3 0 := rfl
theorem oct_steps (s : ByteArray) (k m : Nat) (hm : m = s.size - k) (x : Int) (parts : Nat) (hp : parts ≤ 3) :
    rA s m k x parts 0 0 = if (octS (s.extract k s.size)).2 = 0 then none else
      if m = (octS (s.extract k s.size)).2 then (if parts = 3 then some (x * 256 + (octS (s.extract k s.size)).1) else none)
      else if byt s (k + (octS (s.extract k s.size)).2) = 46 then rA s (m - (octS (s.extract k s.size)).2 - 1) (k + (octS (s.extract k s.size)).2 + 1) (x * 256 + (octS (s.extract k s.size)).1) (parts + 1) 0 0 else none := by
  obtain ⟨t, ht⟩ : ∃ t, t = s.extract k s.size := ⟨_, rfl⟩
  have hts : t.size = m := by rw [ht, ext_size]; omega
  have hb : ∀ i, i < m → byt t i = byt s (k + i) := fun i hi => by rw [ht]; exact byt_ext s k i (by omega)
  rw [← ht]
  clear ht
  have dv : ∀ i, digB (byt s (k + i)) = true → 0 ≤ dg s (k + i) ∧ dg s (k + i) ≤ 9 := fun i h => by have := (digB_iff _).1 h; unfold dg; omega
  -- no digit
  by_cases d0 : 0 < m ∧ digB (byt s k) = true
  rotate_left
  · have e : octFrom t 0 3 0 = (0, 0) := by
      rw [octFrom, if_neg]
      rintro ⟨h1, h2⟩
      rw [hts] at h1
      rw [hb 0 h1] at h2
      exact d0 ⟨h1, h2⟩
    have eo : octS t = (0, 0) := by rw [octS_eq, e]; simp
    rw [eo]
    dsimp only
    rw [if_pos rfl]
    cases m with
    | zero => simp [rA]
    | succ m =>
      have hd : digB (byt s k) = false := by
        cases hx : digB (byt s k)
        · rfl
        · exact absurd ⟨by omega, hx⟩ d0
      have hd' : ¬ (48 ≤ byt s k ∧ byt s k ≤ 57) := by rw [← digB_iff, hd]; decide
      rw [rA]
      by_cases h46 : byt s k = 46
      · rw [if_pos h46, if_pos rfl]
      · rw [if_neg h46, if_pos (by omega)]
  obtain ⟨m0, d0⟩ := d0
  have v0 := dv 0 d0
  rw [Nat.add_zero] at v0
  have b0 : byt t 0 = byt s k := hb 0 m0
  have s0 : octFrom t 0 3 0 = octFrom t 1 2 (0 * 10 + (byt t 0 - 48)) := by rw [octFrom, if_pos ⟨by omega, by rw [b0]; exact d0⟩]
  have r0 : rA s m k x parts 0 0 = rA s (m - 1) (k + 1) x parts (dg s k) 1 := by
    obtain ⟨m', rfl⟩ : ∃ m', m = m' + 1 := ⟨m - 1, by omega⟩
    rw [rA_digit d0 (by omega) (by omega) (by omega) hp]
    simp
  have e0 : (0 : Int) * 10 + (byt t 0 - 48) = dg s k := by rw [b0]; unfold dg; omega
  rw [e0] at s0
  -- one digit
  by_cases d1 : 1 < m ∧ digB (byt s (k + 1)) = true
  rotate_left
  · have e : octFrom t 0 3 0 = (dg s k, 1) := by
      rw [s0, octFrom, if_neg]
      rintro ⟨h1, h2⟩
      rw [hts] at h1
      rw [hb 1 h1] at h2
      exact d1 ⟨h1, h2⟩
    have hbad : octBad t (dg s k) 1 = false := by unfold octBad; simp; omega
    have eo : octS t = (dg s k, 1) := by rw [octS_eq, e, hbad]; rfl
    rw [eo]
    dsimp only
    rw [if_neg (show ¬ (1 : Nat) = 0 by omega), r0]
    have hstop := rA_stop (s := s) (m := m - 1) (i := k + 1) (x := x) (parts := parts) (n := dg s k) (size := 1) (by omega) hp (by
      by_cases h1 : 1 < m
      · right
        cases hx : digB (byt s (k + 1))
        · rfl
        · exact absurd ⟨h1, hx⟩ d1
      · left; omega)
    rw [hstop]
    by_cases hm1 : m = 1
    · rw [if_pos (show m - 1 = 0 by omega), if_pos hm1]
    · rw [if_neg (show ¬ m - 1 = 0 by omega), if_neg hm1]
  obtain ⟨m1, d1⟩ := d1
  have v1 := dv 1 d1
  have b1 : byt t 1 = byt s (k + 1) := hb 1 m1
  have s1 : octFrom t 0 3 0 = octFrom t 2 1 (dg s k * 10 + dg s (k + 1)) := by
    rw [s0, octFrom, if_pos ⟨by omega, by rw [b1]; exact d1⟩, b1]; rfl
  by_cases z0 : dg s k = 0
  · -- a nought ahead
    have hone : ∃ v z, octFrom t 0 3 0 = (v, z) ∧ 1 < z := by
      rw [s1]
      rw [octFrom]
      split
      · rw [octFrom]; exact ⟨_, 3, rfl, by omega⟩
      · exact ⟨_, 2, rfl, by omega⟩
    obtain ⟨v, z, ev, hz⟩ := hone
    have hbad : octBad t v z = true := by
      unfold octBad
      have : byt t 0 = 48 := by rw [b0]; unfold dg at z0; omega
      simp [this, hz]
    have eo : octS t = (0, 0) := by rw [octS_eq, ev, hbad]; rfl
    rw [eo]
    dsimp only
    rw [if_pos rfl, r0]
    obtain ⟨m', hm'⟩ : ∃ m', m - 1 = m' + 1 := ⟨m - 2, by omega⟩
    rw [hm', rA_bad d1 (.inl ⟨by omega, z0⟩)]
  have r1 : rA s m k x parts 0 0 = rA s (m - 2) (k + 2) x parts (dg s k * 10 + dg s (k + 1)) 2 := by
    rw [r0]
    obtain ⟨m', hm'⟩ : ∃ m', m - 1 = m' + 1 := ⟨m - 2, by omega⟩
    rw [hm', rA_digit d1 (by omega) (by omega) (by omega) hp, show m - 2 = m' by omega, show 10 * dg s k + dg s (k + 1) = dg s k * 10 + dg s (k + 1) by omega]
  have hz0 : ¬ byt t 0 = 48 := by rw [b0]; unfold dg at z0; omega
  -- two digits
  by_cases d2 : 2 < m ∧ digB (byt s (k + 2)) = true
  rotate_left
  · have e : octFrom t 0 3 0 = (dg s k * 10 + dg s (k + 1), 2) := by
      rw [s1, octFrom, if_neg]
      rintro ⟨h1, h2⟩
      rw [hts] at h1
      rw [hb 2 h1] at h2
      exact d2 ⟨h1, h2⟩
    have hbad : octBad t (dg s k * 10 + dg s (k + 1)) 2 = false := by unfold octBad; simp [hz0]; omega
    have eo : octS t = (dg s k * 10 + dg s (k + 1), 2) := by rw [octS_eq, e, hbad]; rfl
    rw [eo]
    dsimp only
    rw [if_neg (show ¬ (2 : Nat) = 0 by omega), r1]
    have hstop := rA_stop (s := s) (m := m - 2) (i := k + 2) (x := x) (parts := parts) (n := dg s k * 10 + dg s (k + 1)) (size := 2) (by omega) hp (by
      by_cases h1 : 2 < m
      · right
        cases hx : digB (byt s (k + 2))
        · rfl
        · exact absurd ⟨h1, hx⟩ d2
      · left; omega)
    rw [hstop]
    by_cases hm1 : m = 2
    · rw [if_pos (show m - 2 = 0 by omega), if_pos hm1]
    · rw [if_neg (show ¬ m - 2 = 0 by omega), if_neg hm1]
  obtain ⟨m2, d2⟩ := d2
  have v2 := dv 2 d2
  have b2 : byt t 2 = byt s (k + 2) := hb 2 m2
  have s2 : octFrom t 0 3 0 = ((dg s k * 10 + dg s (k + 1)) * 10 + dg s (k + 2), 3) := by
    rw [s1, octFrom, if_pos ⟨by omega, by rw [b2]; exact d2⟩, b2, octFrom]; rfl
  obtain ⟨V, hV⟩ : ∃ V, V = (dg s k * 10 + dg s (k + 1)) * 10 + dg s (k + 2) := ⟨_, rfl⟩
  rw [← hV] at s2
  obtain ⟨m', hm'⟩ : ∃ m', m - 2 = m' + 1 := ⟨m - 3, by omega⟩
  by_cases hbig : 255 < V
  · have hbad : octBad t V 3 = true := by unfold octBad; simp [hbig]
    have eo : octS t = (0, 0) := by rw [octS_eq, s2, hbad]; rfl
    rw [eo]
    dsimp only
    rw [if_pos rfl, r1, hm', rA_bad d2 (.inr (.inr (by omega)))]
  · have hbad : octBad t V 3 = false := by unfold octBad; simp [hz0]; omega
    have eo : octS t = (V, 3) := by rw [octS_eq, s2, hbad]; rfl
    rw [eo]
    dsimp only
    rw [if_neg (show ¬ (3 : Nat) = 0 by omega), r1, hm', rA_digit d2 (by omega) (by omega) (by omega) hp, show 10 * (dg s k * 10 + dg s (k + 1)) + dg s (k + 2) = V by omega]
    by_cases h3 : m = 3
    · rw [rA_stop (by omega) hp (.inl (by omega)), if_pos (show m' = 0 by omega), if_pos h3]
    · rw [if_neg h3]
      by_cases d3 : digB (byt s (k + 3)) = true
      · have hd' := (digB_iff _).1 d3
        obtain ⟨m'', hm''⟩ : ∃ m'', m' = m'' + 1 := ⟨m' - 1, by omega⟩
        have d3' : digB (byt s (k + 2 + 1)) = true := d3
        rw [hm'', rA_bad d3' (.inr (.inl (by omega))), if_neg (show ¬ byt s (k + 3) = 46 by omega)]
      · have d3' : digB (byt s (k + 2 + 1)) = false := by simpa using d3
        rw [rA_stop (by omega) hp (.inr d3'), if_neg (show ¬ m' = 0 by omega), show m' - 1 = m - 3 - 1 by omega]
/-- The document's way is the program's. -/
theorem rA_addr (s : ByteArray) : ∀ (n k : Nat) (x : Int), n ≤ 4 → k ≤ s.size → rA s (s.size - k) k x (4 - n) 0 0 = addrFrom s k n x
  | 0, k, x, _, _ => by rw [rA_four s _ _ _ _ (by omega)]; rfl
  | n + 1, k, x, hn, _hk => by
    rw [oct_steps s k (s.size - k) rfl x (4 - (n + 1)) (by omega), addrFrom]
    by_cases h0 : (octS (s.extract k s.size)).2 = 0
    · rw [if_pos h0, if_pos h0]
    · rw [if_neg h0, if_neg h0]
      have hb := octS_b (s.extract k s.size)
      rw [ext_size] at hb
      generalize (octS (s.extract k s.size)).2 = z at *
      generalize (octS (s.extract k s.size)).1 = v at *
      by_cases hz : s.size - k = z
      · rw [if_pos hz]
        by_cases hn0 : n = 0
        · rw [if_pos (show 4 - (n + 1) = 3 by omega), if_pos hn0, if_pos (show k + z = s.size by omega)]
        · rw [if_neg (show ¬ 4 - (n + 1) = 3 by omega), if_neg hn0, if_pos (show k + z = s.size by omega)]
      · rw [if_neg hz]
        by_cases hn0 : n = 0
        · rw [if_pos hn0, if_neg (show ¬ k + z = s.size by omega)]
          split
          · exact rA_four s _ _ _ _ (by omega)
          · rfl
        · rw [if_neg hn0, if_neg (show ¬ k + z = s.size by omega)]
          split
          · rw [show s.size - k - z - 1 = s.size - (k + z + 1) by omega, show 4 - (n + 1) + 1 = 4 - n by omega]
            exact rA_addr s n (k + z + 1) _ (by omega) (by omega)
          · rfl
theorem rA_spec (s : ByteArray) : rA s s.size 0 0 0 0 0 = addrSpec s := by
  have := rA_addr s 4 0 0 (by omega) (by omega)
  simpa [addrSpec] using this
end Go.Proofs.YtkianiglibkbhaaDoor
