/- Tokens that stand alone, or ahead of a byte that ends them (plain facts about texts). Conditions: none. -/
import Derived.Test.YtajjffjnnjklnaaDoorLR
namespace Go.Proofs.YtajjffjnnjklnaaDoor
open Go.Shelf Go.RowKit
theorem byt_out {s : ByteArray} {i : Nat} (h : s.size ≤ i) : byt s i = 0 := by
  unfold byt
  rw [Array.getD_eq_getD_getElem?, Array.getElem?_eq_none (show s.data.size ≤ i from h)]
  rfl
theorem byt_get (s : ByteArray) (i : Nat) : byt s i = ((s.data[i]?.getD 0).toNat : Int) := by
  unfold byt; rw [Array.getD_eq_getD_getElem?]
theorem data_app (c w : ByteArray) : (c ++ w).data = c.data ++ w.data := ByteArray.data_append
theorem byt_l {c w : ByteArray} {i : Nat} (h : i < c.size) : byt (c ++ w) i = byt c i := by
  rw [byt_get, byt_get, data_app, Array.getElem?_append_left (show i < c.data.size from h)]
theorem byt_r (c w : ByteArray) (i : Nat) : byt (c ++ w) (c.size + i) = byt w i := by
  rw [byt_get, byt_get, data_app, Array.getElem?_append_right (show c.data.size ≤ c.size + i from Nat.le_add_right _ _), show c.size + i - c.data.size = i from Nat.add_sub_cancel_left ..]
theorem size_app (c w : ByteArray) : (c ++ w).size = c.size + w.size := ByteArray.size_append
theorem data_ext (s : ByteArray) (i j : Nat) : (s.extract i j).data = s.data.extract i j := ByteArray.data_extract
theorem byt_x {s : ByteArray} {i j k : Nat} (h : i + k < j) : byt (s.extract i j) k = byt s (i + k) := by
  rw [byt_get, byt_get, data_ext, Array.getElem?_extract]
  by_cases hs : i + k < s.data.size
  · rw [if_pos (by omega)]
  · rw [if_neg (by omega), Array.getElem?_eq_none (by omega)]
theorem ext_bytes {s t : ByteArray} (hs : s.size = t.size) (h : ∀ i, i < s.size → byt s i = byt t i) : s = t := by
  apply ByteArray.ext
  apply Array.ext
  · exact hs
  · intro i h1 h2
    have := h i h1
    rw [byt_get, byt_get, Array.getElem?_eq_getElem h1, Array.getElem?_eq_getElem h2] at this
    apply UInt8.toNat_inj.1
    exact Int.ofNat_inj.1 (by simpa using this)
theorem ext_pre {c w : ByteArray} {k : Nat} (h : k ≤ c.size) : (c ++ w).extract 0 k = c.extract 0 k := by
  apply ext_bytes
  · rw [ByteArray.size_extract, ByteArray.size_extract, size_app]; omega
  · intro i hi
    rw [ByteArray.size_extract, size_app] at hi
    rw [byt_x (by omega), byt_x (by omega), Nat.zero_add, byt_l (by omega)]
theorem ext_all (c : ByteArray) : c.extract 0 c.size = c := ByteArray.extract_zero_size
theorem ext_l (c w : ByteArray) : (c ++ w).extract 0 c.size = c := by rw [ext_pre (Nat.le_refl _), ext_all]
theorem ext_r {c w : ByteArray} {k n : Nat} (hk : k = c.size) (hn : n = (c ++ w).size) : (c ++ w).extract k n = w := by
  subst hk hn
  apply ext_bytes
  · rw [ByteArray.size_extract, size_app]; omega
  · intro i hi
    rw [ByteArray.size_extract, size_app] at hi
    rw [byt_x (by rw [size_app]; omega), byt_r]
theorem ext_r1 {c w : ByteArray} {k n : Nat} (hk : k ≤ c.size) (hn : n = (c ++ w).size) : (c ++ w).extract k n = c.extract k c.size ++ w := by
  subst hn
  apply ext_bytes
  · rw [ByteArray.size_extract, size_app, size_app, ByteArray.size_extract]; omega
  · intro i hi
    rw [ByteArray.size_extract, size_app] at hi
    rw [byt_x (by rw [size_app]; omega)]
    have hs : (c.extract k c.size).size = c.size - k := by rw [ByteArray.size_extract]; omega
    by_cases h : i < c.size - k
    · rw [byt_l (by omega), byt_l (by omega), byt_x (by omega)]
    · rw [show k + i = c.size + (i - (c.size - k)) by omega, byt_r, show i = (c.extract k c.size).size + (i - (c.size - k)) by omega, byt_r]
      congr 1
      omega
/- Runs. -/
theorem runFrom_is {s : ByteArray} {B : Int → Bool} : ∀ (n k m : Nat), k ≤ m → m ≤ k + n → (∀ j, k ≤ j → j < m → B (byt s j) = true) → (m = k + n ∨ B (byt s m) = false) → runFrom s B k n = m
  | 0, k, m, h1, h2, _, _ => by unfold runFrom; omega
  | n + 1, k, m, h1, h2, h3, h4 => by
    unfold runFrom
    by_cases hk : k = m
    · subst hk
      rcases h4 with h4 | h4
      · omega
      · rw [if_neg (by rw [h4]; exact Bool.false_ne_true)]
    · rw [if_pos (h3 k (Nat.le_refl _) (by omega))]
      exact runFrom_is n (k + 1) m (by omega) (by omega) (fun j a b => h3 j (by omega) b) (by rcases h4 with h4 | h4; exact .inl (by omega); exact .inr h4)
theorem runS_is {s : ByteArray} {B : Int → Bool} {m : Nat} (hm : m ≤ s.size) (h1 : ∀ j, j < m → B (byt s j) = true) (h2 : m = s.size ∨ B (byt s m) = false) : runS s B = m :=
  runFrom_is s.size 0 m (Nat.zero_le _) (by omega) (fun j _ b => h1 j b) (by rcases h2 with h | h; exact .inl (by omega); exact .inr h)
theorem runFrom_stop {s : ByteArray} {B : Int → Bool} : ∀ (n k : Nat), runFrom s B k n < k + n → B (byt s (runFrom s B k n)) = false
  | 0, k, h => by unfold runFrom at h; omega
  | n + 1, k, h => by
    unfold runFrom at h ⊢
    split at h
    · rename_i hB
      rw [if_pos hB]
      exact runFrom_stop n (k + 1) (by omega)
    · rename_i hB
      rw [if_neg hB]
      simpa using hB
theorem runS_stop {s : ByteArray} {B : Int → Bool} (h : runS s B < s.size) : B (byt s (runS s B)) = false := runFrom_stop s.size 0 (by unfold runS at h; omega)
theorem runS_zero {s : ByteArray} {B : Int → Bool} (h : B (byt s 0) = false) : runS s B = 0 := runS_is (Nat.zero_le _) (fun _ hj => absurd hj (Nat.not_lt_zero _)) (.inr h)
/- Addresses. -/
theorem macFrom_all {s : ByteArray} : ∀ (n k : Nat) (acc m : Int), macFrom s k n acc = some m → ∀ j, k ≤ j → j < k + n → if j % 3 = 2 then byt s j = 58 else hexB (byt s j) = true
  | 0, k, acc, m, _, j, h1, h2 => by omega
  | n + 1, k, acc, m, h, j, h1, h2 => by
    unfold macFrom at h
    by_cases hj : j = k
    · subst hj
      split at h
      · rename_i h3
        rw [if_pos h3]
        split at h
        · assumption
        · cases h
      · rename_i h3
        rw [if_neg h3]
        split at h
        · assumption
        · cases h
    · split at h
      · split at h
        · exact macFrom_all n (k + 1) _ m h j (by omega) (by omega)
        · cases h
      · split at h
        · exact macFrom_all n (k + 1) _ m h j (by omega) (by omega)
        · cases h
theorem macSpec_all {s : ByteArray} {m : Int} (h : macSpec s = some m) : s.size = 17 ∧ ∀ j, j < 17 → if j % 3 = 2 then byt s j = 58 else hexB (byt s j) = true := by
  have hs := macSpec_size h
  unfold macSpec at h
  rw [if_pos hs] at h
  exact ⟨hs, fun j hj => macFrom_all 17 0 0 m h j (Nat.zero_le _) (by omega)⟩
theorem octFrom_digs {s : ByteArray} : ∀ (n k : Nat) (v : Int), k ≤ (octFrom s k n v).2 ∧ (octFrom s k n v).2 ≤ k + n ∧ ∀ j, k ≤ j → j < (octFrom s k n v).2 → digB (byt s j) = true
  | 0, k, v => by unfold octFrom; exact ⟨Nat.le_refl _, Nat.le_refl _, fun j h1 h2 => by omega⟩
  | n + 1, k, v => by
    unfold octFrom
    split
    · rename_i hc
      obtain ⟨h1, h2, h3⟩ := octFrom_digs (s := s) n (k + 1) (v * 10 + (byt s k - 48))
      exact ⟨by omega, by omega, fun j a b => by
        by_cases hj : j = k
        · subst hj; exact hc.2
        · exact h3 j (by omega) b⟩
    · exact ⟨Nat.le_refl _, by omega, fun j h1 h2 => by have h2 : j < k := h2; omega⟩
theorem octS_digs (s : ByteArray) : (octS s).2 ≤ 3 ∧ ∀ j, j < (octS s).2 → digB (byt s j) = true := by
  have h := octFrom_digs (s := s) 3 0 0
  unfold octS
  split
  · exact ⟨by show 0 ≤ 3; omega, fun j hj => absurd hj (Nat.not_lt_zero _)⟩
  · exact ⟨by have := h.2.1; omega, fun j hj => h.2.2 j (Nat.zero_le _) hj⟩
theorem addrFrom_all {s : ByteArray} : ∀ (n k : Nat) (ip r : Int), k ≤ s.size → addrFrom s k n ip = some r → k < s.size ∧ digB (byt s k) = true ∧ (∀ j, k ≤ j → j < s.size → digB (byt s j) = true ∨ byt s j = 46) ∧ (1 < n → ∃ j, k ≤ j ∧ j < s.size ∧ j ≤ k + 3 ∧ byt s j = 46)
  | 0, k, ip, r, _, h => by unfold addrFrom at h; cases h
  | n + 1, k, ip, r, hk, h => by
    have hb := octS_b (s.extract k s.size)
    have hd := octS_digs (s.extract k s.size)
    have hsz : (s.extract k s.size).size = s.size - k := by rw [ByteArray.size_extract]; omega
    rw [hsz] at hb
    unfold addrFrom at h
    generalize (octS (s.extract k s.size)).2 = m at *
    have hdig : ∀ j, k ≤ j → j < k + m → digB (byt s j) = true := fun j a b => by
      have := hd.2 (j - k) (by omega)
      rw [byt_x (by omega), show k + (j - k) = j by omega] at this
      exact this
    split at h
    · cases h
    rename_i hm0
    have h0 : k < s.size := by omega
    refine ⟨h0, hdig k (Nat.le_refl _) (by omega), ?_⟩
    split at h
    · rename_i hn
      subst hn
      split at h
      · rename_i he
        exact ⟨fun j a b => .inl (hdig j a (by omega)), fun q => by omega⟩
      · cases h
    · rename_i hn
      split at h
      · cases h
      rename_i hne
      split at h
      · rename_i hdot
        obtain ⟨q1, q2, q3, q4⟩ := addrFrom_all n (k + m + 1) _ r (by omega) h
        refine ⟨fun j a b => ?_, fun _ => ⟨k + m, by omega, by omega, by omega, hdot⟩⟩
        rcases Nat.lt_trichotomy j (k + m) with h5 | h5 | h5
        · exact .inl (hdig j a h5)
        · subst h5; exact .inr hdot
        · exact q3 j (by omega) b
      · cases h
theorem addrSpec_all {s : ByteArray} {r : Int} (h : addrSpec s = some r) : 0 < s.size ∧ digB (byt s 0) = true ∧ (∀ j, j < s.size → digB (byt s j) = true ∨ byt s j = 46) ∧ ∃ j, j < s.size ∧ j ≤ 3 ∧ byt s j = 46 := by
  obtain ⟨h1, h2, h3, h4⟩ := addrFrom_all 4 0 0 r (Nat.zero_le _) h
  obtain ⟨j, _, a, b, c⟩ := h4 (by decide)
  exact ⟨h1, h2, fun i hi => h3 i (Nat.zero_le _) hi, j, a, by omega, c⟩
theorem adFrom_some {s : ByteArray} : ∀ {k : Nat} {r : Nat × Int}, adFrom s k = some r → 7 ≤ r.1 ∧ r.1 ≤ k ∧ addrSpec (s.extract 0 r.1) = some r.2
  | 0, r, h => by unfold adFrom at h; cases h
  | k + 1, r, h => by
    unfold adFrom at h
    split at h
    · cases h
    · rename_i h7
      unfold pick9 at h
      split at h
      · rename_i ip hip
        cases h
        exact ⟨by show 7 ≤ k + 1; omega, Nat.le_refl _, hip⟩
      · obtain ⟨a, b, c⟩ := adFrom_some h
        exact ⟨a, by omega, c⟩
theorem adFrom_no {s : ByteArray} : ∀ {k : Nat}, (∀ j, 7 ≤ j → j ≤ k → addrSpec (s.extract 0 j) = none) → adFrom s k = none
  | 0, _ => rfl
  | k + 1, h => by
    unfold adFrom
    split
    · rfl
    · rw [h (k + 1) (by omega) (Nat.le_refl _)]
      exact adFrom_no (fun j a b => h j a (by omega))
theorem adFrom_is {s : ByteArray} {m : Nat} {r : Int} (hm : 7 ≤ m) (h : addrSpec (s.extract 0 m) = some r) : ∀ {k : Nat}, m ≤ k → (∀ j, m < j → j ≤ k → addrSpec (s.extract 0 j) = none) → adFrom s k = some (m, r)
  | 0, h1, _ => by omega
  | k + 1, h1, h2 => by
    unfold adFrom
    rw [if_neg (by omega)]
    by_cases hk : k + 1 = m
    · rw [hk, h]; rfl
    · rw [h2 (k + 1) (by omega) (Nat.le_refl _)]
      exact adFrom_is hm h (by omega) (fun j a b => h2 j a (by omega))
/- What each reader's answer says of the bytes. -/
theorem mac_ne {u : ByteArray} (h : (tkMac u).2 ≠ 0) : 17 ≤ u.size ∧ (tkMac u).2 = 17 ∧ hexB (byt u 0) = true ∧ hexB (byt u 1) = true ∧ byt u 2 = 58 := by
  unfold tkMac fin3 at h ⊢
  cases hm : macSpec (u.extract 0 (min u.size 17)) with
  | none => rw [hm] at h; exact absurd rfl h
  | some m =>
    obtain ⟨h1, h2⟩ := macSpec_all hm
    rw [ByteArray.size_extract] at h1
    have a0 := h2 0 (by omega)
    have a1 := h2 1 (by omega)
    have a2 := h2 2 (by omega)
    rw [byt_x (by omega)] at a0 a1 a2
    exact ⟨by omega, rfl, a0, a1, a2⟩
theorem addr_ne {u : ByteArray} (h : (tkAddr u).2 ≠ 0) : 7 ≤ (tkAddr u).2 ∧ (tkAddr u).2 ≤ 15 ∧ (tkAddr u).2 ≤ u.size ∧ digB (byt u 0) = true ∧ (∀ j, j < (tkAddr u).2 → digB (byt u j) = true ∨ byt u j = 46) ∧ ∃ j, j < (tkAddr u).2 ∧ j ≤ 3 ∧ byt u j = 46 := by
  unfold tkAddr fin4 at h ⊢
  cases hm : adFrom u (min u.size 15) with
  | none => rw [hm] at h; exact absurd rfl h
  | some r =>
    obtain ⟨h1, h2, h3⟩ := adFrom_some hm
    obtain ⟨g1, g2, g3, j, g4, g5, g6⟩ := addrSpec_all h3
    have hsz : (u.extract 0 r.1).size = r.1 := by rw [ByteArray.size_extract]; omega
    rw [hsz] at g1 g3 g4
    show 7 ≤ r.1 ∧ r.1 ≤ 15 ∧ r.1 ≤ u.size ∧ digB (byt u 0) = true ∧ (∀ j, j < r.1 → digB (byt u j) = true ∨ byt u j = 46) ∧ ∃ j, j < r.1 ∧ j ≤ 3 ∧ byt u j = 46
    rw [byt_x (by omega)] at g2 g6
    rw [Nat.zero_add] at g2 g6
    exact ⟨h1, by omega, by omega, g2, fun j hj => by have := g3 j hj; rw [byt_x (by omega), Nat.zero_add] at this; exact this, j, g4, g5, g6⟩
theorem name_0 {u : ByteArray} (h : nameB (byt u 0) = false ∨ digB (byt u 0) = true ∨ byt u 0 = 46) : (tkName u).2 = 0 := by
  unfold tkName
  split
  · rfl
  · rename_i hc
    rcases h with h | h | h
    · exact runS_zero h
    · rw [h] at hc; simp at hc
    · rw [h] at hc; simp at hc
theorem isX_byt {u : ByteArray} (h : isX u = true) : 2 ≤ u.size ∧ byt u 0 = 48 ∧ byt u 1 = 120 := by
  unfold isX Lib.hasPrefix at h
  obtain ⟨r, hr⟩ := List.isPrefixOf_iff_prefix.1 h
  have hs : 2 ≤ u.size := by
    have := congrArg List.length hr
    simp at this
    have e : u.data.size = u.size := rfl
    omega
  have e0 : u.data.toList[0]? = some 48 := by rw [← hr]; rfl
  have e1 : u.data.toList[1]? = some 120 := by rw [← hr]; rfl
  rw [Array.getElem?_toList] at e0 e1
  exact ⟨hs, by rw [byt_get, e0]; rfl, by rw [byt_get, e1]; rfl⟩
theorem isX_of {u : ByteArray} (hs : 2 ≤ u.size) (h0 : byt u 0 = 48) (h1 : byt u 1 = 120) : isX u = true := by
  unfold isX Lib.hasPrefix
  rw [List.isPrefixOf_iff_prefix]
  have hl : 2 ≤ u.data.toList.length := by simpa using hs
  match hL : u.data.toList, hl with
  | a :: b :: r, _ =>
    have e0 : u.data[0]? = some a := by rw [← Array.getElem?_toList, hL]; rfl
    have e1 : u.data[1]? = some b := by rw [← Array.getElem?_toList, hL]; rfl
    rw [byt_get, e0] at h0
    rw [byt_get, e1] at h1
    have ha : a = 48 := UInt8.toNat_inj.1 (Int.ofNat_inj.1 (show ((a.toNat : Nat) : Int) = ((48 : Nat) : Int) from h0))
    have hb : b = 120 := UInt8.toNat_inj.1 (Int.ofNat_inj.1 (show ((b.toNat : Nat) : Int) = ((120 : Nat) : Int) from h1))
    exact ⟨r, by rw [ha, hb]; rfl⟩
theorem decN_nil : decN [] = none := by unfold decN Lib.parseUintB; rw [if_pos rfl]
theorem ext_00 (u : ByteArray) : (u.extract 0 0).data.toList = [] := by
  have : (u.extract 0 0).size = 0 := by rw [ByteArray.size_extract]; omega
  have h : (u.extract 0 0).data.toList.length = 0 := by rw [Array.length_toList]; exact this
  exact List.length_eq_zero_iff.1 h
theorem fin9_le {u : ByteArray} {o : Option (Nat × Nat)} {m : Nat} (h : ∀ r, o = some r → r.1 ≤ m) : (fin9 u o).2 ≤ m := by
  unfold fin9
  split
  · exact Nat.zero_le _
  · split
    · exact Nat.zero_le _
    · exact h _ rfl
theorem num_le {u : ByteArray} (h : ¬ (byt u 0 = 48 ∧ byt u 1 = 120)) : (tkNum u).2 ≤ runS u digB := by
  unfold tkNum
  apply fin9_le
  intro r hr
  unfold numP at hr
  split at hr
  · cases hr
  · split at hr
    · rename_i hX
      have := isX_byt hX
      exact absurd this.2 h
    · unfold with9 at hr
      split at hr
      · cases hr; exact Nat.le_refl _
      · cases hr
theorem num_0 {u : ByteArray} (h : digB (byt u 0) = false) : (tkNum u).2 = 0 := by
  have h1 := num_le (u := u) (fun q => by rw [q.1] at h; exact absurd h (by decide))
  rw [runS_zero h] at h1
  omega
theorem opB_first {t : ByteArray} (h : opB t = true) : (t.size = 1 ∨ t.size = 2) ∧ (byt t 0 = 38 ∨ byt t 0 = 124 ∨ byt t 0 = 61 ∨ byt t 0 = 33 ∨ byt t 0 = 60 ∨ byt t 0 = 62 ∨ byt t 0 = 40 ∨ byt t 0 = 41 ∨ byt t 0 = 123 ∨ byt t 0 = 125 ∨ byt t 0 = 44 ∨ byt t 0 = 47 ∨ byt t 0 = 46) ∧ (t.size = 2 → byt t 1 = 38 ∨ byt t 1 = 124 ∨ byt t 1 = 61 ∨ byt t 1 = 46) := by
  unfold opB at h
  simp only [Bool.or_eq_true, beq_iff_eq] at h
  have key : ∀ l : List UInt8, t.toList = l → t.size = l.length ∧ byt t 0 = ((l[0]?.getD 0).toNat : Int) ∧ byt t 1 = ((l[1]?.getD 0).toNat : Int) := by
    intro l hl
    have hd : t.data.toList = l := by rw [← hl]; exact (Lib.toList_data t).symm
    refine ⟨by rw [← hd]; exact (Array.length_toList).symm, ?_, ?_⟩
    · rw [byt_get, ← Array.getElem?_toList, hd]
    · rw [byt_get, ← Array.getElem?_toList, hd]
  rcases h with h | h | h | h | h | h | h | h | h | h | h | h | h | h | h | h <;>
  · obtain ⟨k1, k2, k3⟩ := key _ h
    simp at k1 k2 k3
    exact ⟨by omega, by omega, fun _ => by omega⟩
theorem op_le (u : ByteArray) : (tkOp u).2 ≤ 2 := by
  unfold tkOp
  split
  · exact Nat.le_refl _
  · split
    · show 1 ≤ 2; omega
    · show 0 ≤ 2; omega
theorem op_0 {u : ByteArray} (h : nameB (byt u 0) = true ∧ byt u 0 ≠ 46 ∨ byt u 0 = 34) : (tkOp u).2 = 0 := by
  have hno : ∀ k, 1 ≤ k → opB (u.extract 0 k) = true → False := by
    intro k hk ho
    have := (opB_first ho).2.1
    rw [byt_x (by omega), Nat.zero_add] at this
    rcases h with ⟨h, h2⟩ | h
    · unfold nameB wordB letB digB at h
      simp only [Bool.or_eq_true, Bool.and_eq_true, decide_eq_true_eq, beq_iff_eq] at h
      omega
    · omega
  unfold tkOp
  rw [if_neg (fun q => hno 2 (by omega) q.2), if_neg (fun q => hno 1 (by omega) q.2)]
theorem text_0 {u : ByteArray} (h : byt u 0 ≠ 34) : (tkText u).2 = 0 := by
  unfold tkText
  rw [if_neg (fun q => h q.1)]
/- The longest of all. -/
theorem best_le {a b : Tk × Nat} {m : Nat} (ha : a.2 ≤ m) (hb : b.2 ≤ m) : (best a b).2 ≤ m := by unfold best; split <;> assumption
theorem best_pick {a : Tk × Nat} {x : Tk} {m : Nat} (h0 : 0 < m) (ha : a.2 ≤ m) : best a (x, m) = (x, m) := by unfold best; rw [if_pos ⟨h0, ha⟩]
theorem best_keep {b : Tk × Nat} {x : Tk} {m : Nat} (hb : b.2 < m) : best (x, m) b = (x, m) := by unfold best; rw [if_neg (fun q => by have : m ≤ b.2 := q.2; omega)]
end Go.Proofs.YtajjffjnnjklnaaDoor
