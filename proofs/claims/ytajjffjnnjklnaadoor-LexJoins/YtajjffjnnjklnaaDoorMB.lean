/- A token's own bytes are read as that token, alone or ahead of a byte that ends it; what is read are such bytes (plain facts). Conditions: none. -/
import Derived.Test.YtajjffjnnjklnaaDoorMA
namespace Go.Proofs.YtajjffjnnjklnaaDoor
open Go.Shelf Go.RowKit
/-- Bytes that are a token by themselves. -/
def Own (c : ByteArray) (x : Tk) : Prop :=
  (0 < c.size ∧ digB (byt c 0) = false ∧ byt c 0 ≠ 46 ∧ (∀ j, j < c.size → nameB (byt c j) = true) ∧ x = ⟨1, c, 0, 0⟩) ∨
  (0 < c.size ∧ (∀ j, j < c.size → digB (byt c j) = true) ∧ ¬ (1 < c.size ∧ byt c 0 = 48) ∧ ∃ v : Nat, decN c.data.toList = some v ∧ x = ⟨2, c, (v : Int), 0⟩) ∨
  (3 ≤ c.size ∧ c.size ≤ 18 ∧ byt c 0 = 48 ∧ byt c 1 = 120 ∧ (∀ j, 2 ≤ j → j < c.size → hexB (byt c j) = true) ∧ x = ⟨2, c, ((hexN 0 (c.extract 2 c.size).data.toList : Nat) : Int), 0⟩) ∨
  (∃ v, macSpec c = some v ∧ x = ⟨3, c, v, 0⟩) ∨
  (7 ≤ c.size ∧ c.size ≤ 15 ∧ ∃ v, addrSpec c = some v ∧ x = ⟨4, c, v, 0⟩) ∨
  (opB c = true ∧ x = ⟨5, c, 0, 0⟩) ∨
  (2 ≤ c.size ∧ c.size ≤ 66 ∧ byt c 0 = 34 ∧ byt c (c.size - 1) = 34 ∧ (∀ j, 1 ≤ j → j < c.size - 1 → textB (byt c j) = true) ∧ x = ⟨6, c.extract 1 (c.size - 1), 0, 0⟩)
/-- What may stand behind a token. -/
def EndB (k b : Int) : Prop := (k = 5 ∧ b ≠ 38 ∧ b ≠ 124 ∧ b ≠ 61 ∧ b ≠ 46) ∨ b = 32 ∨ b = 47 ∨ b = 44
def Ends (k : Int) (w : ByteArray) : Prop := w.size = 0 ∨ EndB k (byt w 0)
theorem long_1 {u : ByteArray} {x : Tk} {m : Nat} (h0 : 0 < m) (h1 : tkName u = (x, m)) (h2 : (tkNum u).2 < m) (h3 : (tkMac u).2 < m) (h4 : (tkAddr u).2 < m) (h5 : (tkOp u).2 < m) (h6 : (tkText u).2 < m) : longS u = (x, m) := by
  rw [longS_eq, h1, best_pick h0 (Nat.zero_le _), best_keep h2, best_keep h3, best_keep h4, best_keep h5, best_keep h6]
theorem long_2 {u : ByteArray} {x : Tk} {m : Nat} (h0 : 0 < m) (h1 : (tkName u).2 ≤ m) (h2 : tkNum u = (x, m)) (h3 : (tkMac u).2 < m) (h4 : (tkAddr u).2 < m) (h5 : (tkOp u).2 < m) (h6 : (tkText u).2 < m) : longS u = (x, m) := by
  rw [longS_eq, h2, best_pick h0 (best_le (Nat.zero_le _) h1), best_keep h3, best_keep h4, best_keep h5, best_keep h6]
theorem long_3 {u : ByteArray} {x : Tk} {m : Nat} (h0 : 0 < m) (h1 : (tkName u).2 ≤ m) (h2 : (tkNum u).2 ≤ m) (h3 : tkMac u = (x, m)) (h4 : (tkAddr u).2 < m) (h5 : (tkOp u).2 < m) (h6 : (tkText u).2 < m) : longS u = (x, m) := by
  rw [longS_eq, h3, best_pick h0 (best_le (best_le (Nat.zero_le _) h1) h2), best_keep h4, best_keep h5, best_keep h6]
theorem long_4 {u : ByteArray} {x : Tk} {m : Nat} (h0 : 0 < m) (h1 : (tkName u).2 ≤ m) (h2 : (tkNum u).2 ≤ m) (h3 : (tkMac u).2 ≤ m) (h4 : tkAddr u = (x, m)) (h5 : (tkOp u).2 < m) (h6 : (tkText u).2 < m) : longS u = (x, m) := by
  rw [longS_eq, h4, best_pick h0 (best_le (best_le (best_le (Nat.zero_le _) h1) h2) h3), best_keep h5, best_keep h6]
theorem long_5 {u : ByteArray} {x : Tk} {m : Nat} (h0 : 0 < m) (h1 : (tkName u).2 ≤ m) (h2 : (tkNum u).2 ≤ m) (h3 : (tkMac u).2 ≤ m) (h4 : (tkAddr u).2 ≤ m) (h5 : tkOp u = (x, m)) (h6 : (tkText u).2 < m) : longS u = (x, m) := by
  rw [longS_eq, h5, best_pick h0 (best_le (best_le (best_le (best_le (Nat.zero_le _) h1) h2) h3) h4), best_keep h6]
theorem long_6 {u : ByteArray} {x : Tk} {m : Nat} (h0 : 0 < m) (h1 : (tkName u).2 ≤ m) (h2 : (tkNum u).2 ≤ m) (h3 : (tkMac u).2 ≤ m) (h4 : (tkAddr u).2 ≤ m) (h5 : (tkOp u).2 ≤ m) (h6 : tkText u = (x, m)) : longS u = (x, m) := by
  rw [longS_eq, h6, best_pick h0 (best_le (best_le (best_le (best_le (best_le (Nat.zero_le _) h1) h2) h3) h4) h5)]
theorem mac_lt {u : ByteArray} {m : Nat} (h0 : 0 < m) (h : hexB (byt u 0) = true → hexB (byt u 1) = true → byt u 2 = 58 → False) : (tkMac u).2 < m := by
  by_cases h1 : (tkMac u).2 = 0
  · omega
  · obtain ⟨_, _, a, b, c⟩ := mac_ne h1
    exact absurd (h a b c) id
theorem addr_lt {u : ByteArray} {m : Nat} (h0 : 0 < m) (h : ∀ n, 7 ≤ n → n ≤ u.size → digB (byt u 0) = true → (∀ j, j < n → digB (byt u j) = true ∨ byt u j = 46) → (∃ j, j < n ∧ j ≤ 3 ∧ byt u j = 46) → False) : (tkAddr u).2 < m := by
  by_cases h1 : (tkAddr u).2 = 0
  · omega
  · obtain ⟨a, _, b, c, d, e⟩ := addr_ne h1
    exact absurd (h _ a b c d e) id
theorem eq0_lt {n m : Nat} (h0 : 0 < m) (h : n = 0) : n < m := by omega
theorem runS_at {s : ByteArray} {B : Int → Bool} {j : Nat} (h : B (byt s j) = false) : runS s B ≤ j := by
  rcases Nat.lt_or_ge j (runS s B) with h1 | h1
  · rw [runS_all h1] at h; cases h
  · exact h1
theorem digB_iff {c : Int} : digB c = true ↔ 48 ≤ c ∧ c ≤ 57 := by simp [digB]
theorem digB_not {c : Int} (h : ¬ (48 ≤ c ∧ c ≤ 57)) : digB c = false := by
  cases hc : digB c
  · rfl
  · exact absurd (digB_iff.1 hc) h
theorem hexB_iff {c : Int} : hexB c = true ↔ (48 ≤ c ∧ c ≤ 57) ∨ (97 ≤ c ∧ c ≤ 102) := by simp [hexB, digB]
theorem nameB_iff {c : Int} : nameB c = true ↔ (97 ≤ c ∧ c ≤ 122) ∨ (65 ≤ c ∧ c ≤ 90) ∨ (48 ≤ c ∧ c ≤ 57) ∨ c = 95 ∨ c = 46 := by
  simp only [nameB, wordB, letB, digB, Bool.or_eq_true, Bool.and_eq_true, decide_eq_true_eq, beq_iff_eq]; omega
theorem wordB_iff {c : Int} : wordB c = true ↔ (97 ≤ c ∧ c ≤ 122) ∨ (65 ≤ c ∧ c ≤ 90) ∨ (48 ≤ c ∧ c ≤ 57) ∨ c = 95 := by
  simp only [wordB, letB, digB, Bool.or_eq_true, Bool.and_eq_true, decide_eq_true_eq, beq_iff_eq]; omega
theorem not_of {b : Bool} (h : ¬ b = true) : b = false := by simpa using h
/-- The byte behind a token that is no operator. -/
theorem end_byte {c w : ByteArray} {k : Int} (hk : k ≠ 5) (h : Ends k w) : byt (c ++ w) c.size = 0 ∨ byt (c ++ w) c.size = 32 ∨ byt (c ++ w) c.size = 47 ∨ byt (c ++ w) c.size = 44 := by
  have e : byt (c ++ w) c.size = byt w 0 := byt_r c w 0
  rw [e]
  rcases h with h | h | h
  · exact .inl (byt_out (by omega))
  · exact absurd h.1 hk
  · exact .inr h
theorem own_name {c w : ByteArray} (h0 : 0 < c.size) (h1 : digB (byt c 0) = false) (h2 : byt c 0 ≠ 46) (h3 : ∀ j, j < c.size → nameB (byt c j) = true) (he : Ends 1 w) : longS (c ++ w) = (⟨1, c, 0, 0⟩, c.size) := by
  have hz := end_byte (c := c) (by decide) he
  have hb : ∀ j, j < c.size → byt (c ++ w) j = byt c j := fun j hj => byt_l hj
  have hs := size_app c w
  have hl := ext_l c w
  generalize c ++ w = u at *
  generalize hm : c.size = m at *
  have e0 := hb 0 h0
  have n0 := nameB_iff.1 (h3 0 h0)
  have hr : runS u nameB = m := runS_is (by omega) (fun j hj => by rw [hb j hj]; exact h3 j hj) (.inr (not_of fun q => by have := nameB_iff.1 q; omega))
  have d0 : ¬ (48 ≤ byt c 0 ∧ byt c 0 ≤ 57) := fun q => by rw [digB_iff.2 q] at h1; cases h1
  refine long_1 h0 ?_ (eq0_lt h0 (num_0 (by rw [e0]; exact h1))) (mac_lt h0 fun a b d => ?_) (addr_lt h0 fun n _ _ q => by rw [e0, h1] at q; cases q) (eq0_lt h0 (op_0 (.inl ⟨by rw [e0]; exact h3 0 h0, by rw [e0]; exact h2⟩))) (eq0_lt h0 (text_0 (by rw [e0]; omega)))
  · unfold tkName
    rw [hr, hl, if_neg]
    rw [e0, h1]
    simp [h2]
  · have b' := hexB_iff.1 b
    by_cases m1 : m = 1
    · subst m1; omega
    · by_cases m2 : m = 2
      · subst m2; omega
      · have := nameB_iff.1 (h3 2 (by omega))
        rw [← hb 2 (by omega)] at this
        omega
theorem own_num {c w : ByteArray} {v : Nat} (h0 : 0 < c.size) (h1 : ∀ j, j < c.size → digB (byt c j) = true) (h2 : ¬ (1 < c.size ∧ byt c 0 = 48)) (h3 : decN c.data.toList = some v) (he : Ends 2 w) : longS (c ++ w) = (⟨2, c, (v : Int), 0⟩, c.size) := by
  have hz := end_byte (c := c) (by decide) he
  have hb : ∀ j, j < c.size → byt (c ++ w) j = byt c j := fun j hj => byt_l hj
  have hs := size_app c w
  have hl := ext_l c w
  generalize c ++ w = u at *
  generalize hm : c.size = m at *
  have e0 := hb 0 h0
  have n0 := digB_iff.1 (h1 0 h0)
  have hr : runS u digB = m := runS_is (by omega) (fun j hj => by rw [hb j hj]; exact h1 j hj) (.inr (not_of fun q => by have := digB_iff.1 q; omega))
  have hnx : isX u = false := not_of fun q => by
    obtain ⟨_, _, q2⟩ := isX_byt q
    by_cases m1 : m = 1
    · subst m1; omega
    · have := digB_iff.1 (h1 1 (by omega))
      rw [← hb 1 (by omega)] at this
      omega
  refine long_2 h0 (by rw [name_0 (.inr (.inl (by rw [e0]; exact h1 0 h0)))]; exact Nat.zero_le _) ?_ (mac_lt h0 fun a b d => ?_) (addr_lt h0 fun n n7 _ _ q1 ⟨j, j1, j2, j3⟩ => ?_) (eq0_lt h0 (op_0 (.inl ⟨by rw [e0]; exact nameB_iff.2 (by omega), by omega⟩))) (eq0_lt h0 (text_0 (by omega)))
  · unfold tkNum numP
    rw [hr, hnx, if_neg (by rw [e0]; exact h2), if_neg Bool.false_ne_true, hl, h3]
    show fin9 u (some (m, v)) = _
    unfold fin9
    show (if m < u.size ∧ wordB (byt u m) = true then (tz, 0) else ((⟨2, u.extract 0 m, (v : Int), 0⟩ : Tk), m)) = _
    rw [if_neg (fun q => by have := wordB_iff.1 q.2; omega), hl]
  · have b' := hexB_iff.1 b
    by_cases m1 : m = 1
    · subst m1; omega
    · by_cases m2 : m = 2
      · subst m2; omega
      · have := digB_iff.1 (h1 2 (by omega))
        rw [← hb 2 (by omega)] at this
        omega
  · rcases Nat.lt_trichotomy j m with g | g | g
    · have := digB_iff.1 (h1 j g)
      rw [← hb j g] at this
      omega
    · subst g; omega
    · rcases q1 m (by omega) with q | q
      · have := digB_iff.1 q; omega
      · omega
theorem own_hex {c w : ByteArray} (h0 : 3 ≤ c.size) (h18 : c.size ≤ 18) (h1 : byt c 0 = 48) (h2 : byt c 1 = 120) (h3 : ∀ j, 2 ≤ j → j < c.size → hexB (byt c j) = true) (he : Ends 2 w) : longS (c ++ w) = (⟨2, c, ((hexN 0 (c.extract 2 c.size).data.toList : Nat) : Int), 0⟩, c.size) := by
  have hz := end_byte (c := c) (by decide) he
  have hb : ∀ j, j < c.size → byt (c ++ w) j = byt c j := fun j hj => byt_l hj
  have hs := size_app c w
  have hl := ext_l c w
  have hx : (c ++ w).extract 2 c.size = c.extract 2 c.size := by
    apply ext_bytes
    · rw [ByteArray.size_extract, ByteArray.size_extract]; omega
    · intro i hi
      rw [ByteArray.size_extract] at hi
      rw [byt_x (by omega), byt_x (by omega), byt_l (by omega)]
  have hsx : (c.extract 2 c.size).size = c.size - 2 := by rw [ByteArray.size_extract]; omega
  generalize c ++ w = u at *
  generalize hm : c.size = m at *
  have e0 := hb 0 (by omega)
  have e1 := hb 1 (by omega)
  have hr : runS u digB = 1 := runS_is (by omega) (fun j hj => by rw [show j = 0 by omega, e0, h1]; decide) (.inr (by rw [e1, h2]; decide))
  have hX : isX u = true := isX_of (by omega) (by rw [e0, h1]) (by rw [e1, h2])
  have hxr : runS (u.extract 2 u.size) hexB = m - 2 := by
    refine runS_is (by rw [ByteArray.size_extract]; omega) (fun j hj => ?_) ?_
    · rw [byt_x (by omega), hb _ (by omega)]
      exact h3 (2 + j) (by omega) (by omega)
    · by_cases hu : u.size = m
      · exact .inl (by rw [ByteArray.size_extract]; omega)
      · refine .inr ?_
        rw [byt_x (by omega), show 2 + (m - 2) = m by omega]
        exact not_of fun q => by have := hexB_iff.1 q; omega
  have hhr : hexRun u = m - 2 := by unfold hexRun; rw [hxr]; omega
  have hm0 : 0 < m := by omega
  refine long_2 hm0 (by rw [name_0 (.inr (.inl (by rw [e0, h1]; decide)))]; exact Nat.zero_le _) ?_ (mac_lt hm0 fun a b d => by rw [e1, h2] at b; exact absurd b (by decide)) (addr_lt hm0 fun n n7 _ _ q1 _ => ?_) (eq0_lt hm0 (op_0 (.inl ⟨by rw [e0, h1]; decide, by rw [e0, h1]; decide⟩))) (eq0_lt hm0 (text_0 (by rw [e0, h1]; decide)))
  · unfold tkNum numP
    rw [hr, hX, if_neg (fun q => by omega), if_pos rfl, hhr, show 2 + (m - 2) = m by omega, hx]
    unfold hexP
    rw [hsx, if_neg (by omega)]
    show fin9 u (some (m, _)) = _
    unfold fin9
    show (if m < u.size ∧ wordB (byt u m) = true then (tz, 0) else ((⟨2, u.extract 0 m, _, 0⟩ : Tk), m)) = _
    rw [if_neg (fun q => by have := wordB_iff.1 q.2; omega), hl]
  · rcases q1 1 (by omega) with q | q
    · rw [e1, h2] at q; exact absurd q (by decide)
    · rw [e1, h2] at q; exact absurd q (by decide)
theorem own_mac {c w : ByteArray} {v : Int} (h : macSpec c = some v) : longS (c ++ w) = (⟨3, c, v, 0⟩, c.size) := by
  obtain ⟨hc, ha⟩ := macSpec_all h
  have hb : ∀ j, j < c.size → byt (c ++ w) j = byt c j := fun j hj => byt_l hj
  have hs := size_app c w
  have hl := ext_l c w
  generalize c ++ w = u at *
  have a0 := ha 0 (by omega)
  have a1 := ha 1 (by omega)
  have a2 := ha 2 (by omega)
  simp only [Nat.reduceMod, Nat.reduceEqDiff, if_true, if_false] at a0 a1 a2
  rw [← hb 0 (by omega)] at a0
  rw [← hb 1 (by omega)] at a1
  rw [← hb 2 (by omega)] at a2
  rw [hc] at hl ⊢
  have x0 := hexB_iff.1 a0
  have x1 := hexB_iff.1 a1
  refine long_3 (by decide) ?_ ?_ ?_ (addr_lt (by decide) fun n n7 _ _ q1 _ => ?_) (by have := op_le u; omega) (eq0_lt (by decide) (text_0 (by omega)))
  · unfold tkName
    split
    · exact Nat.zero_le _
    · have := runS_at (s := u) (B := nameB) (j := 2) (by rw [a2]; decide)
      show runS u nameB ≤ 17
      omega
  · have h1 := num_le (u := u) (fun q => by omega)
    have := runS_at (s := u) (B := digB) (j := 2) (by rw [a2]; decide)
    omega
  · unfold tkMac
    rw [show min u.size 17 = 17 by omega, hl, h]
    unfold fin3
    show ((⟨3, u.extract 0 (min u.size 17), v, 0⟩ : Tk), 17) = _
    rw [show min u.size 17 = 17 by omega, hl]
  · rcases q1 2 (by omega) with q | q
    · rw [a2] at q; exact absurd q (by decide)
    · rw [a2] at q; exact absurd q (by decide)
theorem own_addr {c w : ByteArray} {v : Int} (h7 : 7 ≤ c.size) (h15 : c.size ≤ 15) (h : addrSpec c = some v) (he : Ends 4 w) : longS (c ++ w) = (⟨4, c, v, 0⟩, c.size) := by
  obtain ⟨g1, g2, g3, j, g4, g5, g6⟩ := addrSpec_all h
  have hz := end_byte (c := c) (by decide) he
  have hb : ∀ j, j < c.size → byt (c ++ w) j = byt c j := fun j hj => byt_l hj
  have hs := size_app c w
  have hl := ext_l c w
  generalize c ++ w = u at *
  generalize hm : c.size = m at *
  have e0 := hb 0 (by omega)
  have d0 := digB_iff.1 g2
  have f1 := g3 1 (by omega)
  have f2 := g3 2 (by omega)
  rw [← hb 1 (by omega)] at f1
  rw [← hb 2 (by omega)] at f2
  refine long_4 (by omega) (by rw [name_0 (.inr (.inl (by rw [e0]; exact g2)))]; exact Nat.zero_le _) ?_ (Nat.le_of_lt (mac_lt (by omega) fun a b d => ?_)) ?_ (by have := op_le u; omega) (eq0_lt (by omega) (text_0 (by omega)))
  · have h1 := num_le (u := u) (fun q => by
      rcases f1 with f1 | f1
      · have := digB_iff.1 f1; omega
      · omega)
    have := runS_at (s := u) (B := digB) (j := j) (by rw [hb j g4, g6]; decide)
    omega
  · rcases f2 with f2 | f2
    · have := digB_iff.1 f2; omega
    · omega
  · unfold tkAddr
    rw [adFrom_is (m := m) (r := v) h7 (by rw [hl]; exact h) (by omega) (fun i hi1 hi2 => ?_)]
    · unfold fin4
      show ((⟨4, u.extract 0 m, v, 0⟩ : Tk), m) = _
      rw [hl]
    · cases ho : addrSpec (u.extract 0 i) with
      | none => rfl
      | some r =>
        obtain ⟨_, _, p3, _⟩ := addrSpec_all ho
        have := p3 m (by rw [ByteArray.size_extract]; omega)
        rw [byt_x (by omega), Nat.zero_add] at this
        rcases this with q | q
        · have := digB_iff.1 q; omega
        · omega
theorem own_op {c w : ByteArray} (h : opB c = true) (he : Ends 5 w) : longS (c ++ w) = (⟨5, c, 0, 0⟩, c.size) := by
  obtain ⟨h1, h2, h3⟩ := opB_first h
  have ez : byt (c ++ w) c.size = byt w 0 := byt_r c w 0
  have hb : ∀ j, j < c.size → byt (c ++ w) j = byt c j := fun j hj => byt_l hj
  have hs := size_app c w
  have hl := ext_l c w
  generalize c ++ w = u at *
  have e0 := hb 0 (by omega)
  have h0 : 0 < c.size := by omega
  refine long_5 h0 (by rw [name_0]; exact Nat.zero_le _; by_cases q : byt u 0 = 46; exact .inr (.inr q); exact .inl (not_of fun z => by have := nameB_iff.1 z; omega)) (by rw [num_0 (digB_not (by omega))]; exact Nat.zero_le _) (Nat.le_of_lt (mac_lt h0 fun a _ _ => by have := hexB_iff.1 a; omega)) (Nat.le_of_lt (addr_lt h0 fun _ _ _ q _ _ => by have := digB_iff.1 q; omega)) ?_ (eq0_lt h0 (text_0 (by omega)))
  unfold tkOp
  rcases h1 with h1 | h1
  · rw [h1] at hl ez
    rw [if_neg, if_pos ⟨by omega, by rw [hl]; exact h⟩, hl, h1]
    rintro ⟨q1, q2⟩
    have := (opB_first q2).2.2 (by rw [ByteArray.size_extract]; omega)
    rw [byt_x (by omega), show 0 + 1 = 1 from rfl, ez] at this
    rcases he with he | he | he
    · omega
    · omega
    · omega
  · rw [h1] at hl
    rw [if_pos ⟨by omega, by rw [hl]; exact h⟩, hl, h1]
theorem own_text {c w : ByteArray} (h2 : 2 ≤ c.size) (h66 : c.size ≤ 66) (h0 : byt c 0 = 34) (h1 : byt c (c.size - 1) = 34) (h3 : ∀ j, 1 ≤ j → j < c.size - 1 → textB (byt c j) = true) : longS (c ++ w) = (⟨6, c.extract 1 (c.size - 1), 0, 0⟩, c.size) := by
  have hb : ∀ j, j < c.size → byt (c ++ w) j = byt c j := fun j hj => byt_l hj
  have hs := size_app c w
  have hx : (c ++ w).extract 1 (c.size - 1) = c.extract 1 (c.size - 1) := by
    apply ext_bytes
    · rw [ByteArray.size_extract, ByteArray.size_extract]; omega
    · intro i hi
      rw [ByteArray.size_extract] at hi
      rw [byt_x (by omega), byt_x (by omega), byt_l (by omega)]
  generalize c ++ w = u at *
  generalize hm : c.size = m at *
  have e0 := hb 0 (by omega)
  have hr : runS (u.extract 1 u.size) textB = m - 2 := by
    refine runS_is (by rw [ByteArray.size_extract]; omega) (fun j hj => ?_) (.inr ?_)
    · rw [byt_x (by omega), hb _ (by omega)]
      exact h3 (1 + j) (by omega) (by omega)
    · rw [byt_x (by omega), hb _ (by omega), show 1 + (m - 2) = m - 1 by omega, h1]
      decide
  have h0' : 0 < m := by omega
  refine long_6 h0' (by rw [name_0 (.inl (by rw [e0, h0]; decide))]; exact Nat.zero_le _) (by rw [num_0 (by rw [e0, h0]; decide)]; exact Nat.zero_le _) (Nat.le_of_lt (mac_lt h0' fun a _ _ => by rw [e0, h0] at a; exact absurd a (by decide))) (Nat.le_of_lt (addr_lt h0' fun _ _ _ q _ _ => by rw [e0, h0] at q; exact absurd q (by decide))) (by rw [op_0 (.inr (by rw [e0, h0]))]; exact Nat.zero_le _) ?_
  unfold tkText
  rw [hr, show 1 + (m - 2) = m - 1 by omega, if_pos ⟨by rw [e0, h0], by omega, by omega, by rw [hb _ (by omega), h1]⟩, hx, show m - 1 + 1 = m by omega]
/-- A token's own bytes are read as that token. -/
theorem own_long {c w : ByteArray} {x : Tk} (h : Own c x) (he : Ends x.k w) : longS (c ++ w) = (x, c.size) := by
  rcases h with ⟨a, b, d, e, rfl⟩ | ⟨a, b, d, v, e, rfl⟩ | ⟨a, b, d, e, f, rfl⟩ | ⟨v, a, rfl⟩ | ⟨a, b, v, d, rfl⟩ | ⟨a, rfl⟩ | ⟨a, b, d, e, f, rfl⟩
  · exact own_name a b d e he
  · exact own_num a b d e he
  · exact own_hex a b d e f he
  · exact own_mac a
  · exact own_addr a b d he
  · exact own_op a he
  · exact own_text a b d e f
end Go.Proofs.YtajjffjnnjklnaaDoor
