/- Numbers as digits, and the tokens of such texts (plain facts). Conditions: as said. -/
import Derived.Test.YtajjffjnnjklnaaDoorNA
namespace Go.Proofs.YtajjffjnnjklnaaDoor
open Go.Shelf Go.RowKit
/-- A number's decimal digits. -/
def decT (x : Nat) : List Int := if x < 10 then [48 + ((x : Nat) : Int)] else decT (x / 10) ++ [48 + ((x % 10 : Nat) : Int)]
termination_by x
decreasing_by omega
/-- A number's hexadecimal digits. -/
def hexT (x : Nat) : List Int := if x < 16 then [hx ((x : Nat) : Int)] else hexT (x / 16) ++ [hx ((x % 16 : Nat) : Int)]
termination_by x
decreasing_by omega
theorem decT_lt {x : Nat} (h : x < 10) : decT x = [48 + ((x : Nat) : Int)] := by rw [decT, if_pos h]
theorem decT_ge {x : Nat} (h : ¬ x < 10) : decT x = decT (x / 10) ++ [48 + ((x % 10 : Nat) : Int)] := by rw [decT, if_neg h]
theorem hexT_lt {x : Nat} (h : x < 16) : hexT x = [hx ((x : Nat) : Int)] := by rw [hexT, if_pos h]
theorem hexT_ge {x : Nat} (h : ¬ x < 16) : hexT x = hexT (x / 16) ++ [hx ((x % 16 : Nat) : Int)] := by rw [hexT, if_neg h]
theorem decT_all (x : Nat) : ∀ z ∈ decT x, 48 ≤ z ∧ z ≤ 57 := by
  induction x using Nat.strongRecOn with
  | _ x ih =>
    by_cases h : x < 10
    · rw [decT_lt h]; intro z hz; simp at hz; omega
    · rw [decT_ge h]; intro z hz
      rcases List.mem_append.1 hz with hz | hz
      · exact ih (x / 10) (by omega) z hz
      · simp at hz; omega
theorem hexT_all (x : Nat) : ∀ z ∈ hexT x, ∃ k : Nat, k < 16 ∧ z = hx (k : Int) := by
  induction x using Nat.strongRecOn with
  | _ x ih =>
    by_cases h : x < 16
    · rw [hexT_lt h]; intro z hz; simp at hz; exact ⟨x, h, hz⟩
    · rw [hexT_ge h]; intro z hz
      rcases List.mem_append.1 hz with hz | hz
      · exact ih (x / 16) (by omega) z hz
      · exact ⟨x % 16, by omega, by simpa using hz⟩
theorem decT_pos (x : Nat) : 0 < (decT x).length := by
  by_cases h : x < 10
  · rw [decT_lt h]; simp
  · rw [decT_ge h]; simp
theorem hexT_pos (x : Nat) : 0 < (hexT x).length := by
  by_cases h : x < 16
  · rw [hexT_lt h]; simp
  · rw [hexT_ge h]; simp
theorem decT_first (x : Nat) : 10 ≤ x → ∃ z r, decT x = z :: r ∧ z ≠ 48 := by
  induction x using Nat.strongRecOn with
  | _ x ih =>
    intro hx
    rw [decT_ge (by omega)]
    by_cases h : x / 10 < 10
    · rw [decT_lt h]; exact ⟨_, _, rfl, by omega⟩
    · obtain ⟨z, r, h1, h2⟩ := ih (x / 10) (by omega) (by omega)
      rw [h1]; exact ⟨z, _, rfl, h2⟩
theorem hexT_len (x : Nat) : ∀ k, x < 16 ^ (k + 1) → (hexT x).length ≤ k + 1 := by
  induction x using Nat.strongRecOn with
  | _ x ih =>
    intro k hk
    by_cases h : x < 16
    · rw [hexT_lt h]; simp
    · rw [hexT_ge h, List.length_append]
      cases k with
      | zero => simp at hk; omega
      | succ k =>
        have := ih (x / 16) (by omega) k (by rw [Nat.pow_succ] at hk; omega)
        simp; omega
def u8 (z : Int) : UInt8 := UInt8.ofNat z.toNat
theorem u8_nat {z : Int} (h0 : 0 ≤ z) (h1 : z ≤ 255) : (u8 z).toNat = z.toNat := by
  unfold u8
  rw [UInt8.toNat_ofNat']
  omega
theorem str_list (l : List Int) : (strOfNums l).data.toList = l.map u8 := rfl
theorem pm_digit (acc : Nat) (z : Int) (h0 : 48 ≤ z) (h1 : z ≤ 57) (hb : acc * 10 + (z.toNat - 48) ≤ 18446744073709551615) (r : List UInt8) : Lib.parseUintM 18446744073709551615 acc (u8 z :: r) = Lib.parseUintM 18446744073709551615 (acc * 10 + (z.toNat - 48)) r := by
  have e := u8_nat (z := z) (by omega) (by omega)
  rw [Lib.parseUintM, e, if_pos (by omega), if_neg (by omega), if_neg (by omega)]
theorem pm_dec (x : Nat) : ∀ (acc : Nat) (r : List UInt8), acc * 10 ^ (decT x).length + x ≤ 18446744073709551615 → Lib.parseUintM 18446744073709551615 acc ((decT x).map u8 ++ r) = Lib.parseUintM 18446744073709551615 (acc * 10 ^ (decT x).length + x) r := by
  induction x using Nat.strongRecOn with
  | _ x ih =>
    intro acc r hb
    by_cases h : x < 10
    · rw [decT_lt h] at hb ⊢
      simp only [List.length_singleton, Nat.pow_one] at hb ⊢
      show Lib.parseUintM 18446744073709551615 acc (u8 (48 + (x : Int)) :: r) = _
      rw [pm_digit acc _ (by omega) (by omega) (by omega), show (48 + (x : Int)).toNat - 48 = x by omega]
    · rw [decT_ge h] at hb ⊢
      rw [List.length_append, List.length_singleton, Nat.pow_succ, ← Nat.mul_assoc] at hb ⊢
      rw [List.map_append, List.append_assoc, ih (x / 10) (by omega) acc _ (by omega)]
      show Lib.parseUintM 18446744073709551615 _ (u8 (48 + ((x % 10 : Nat) : Int)) :: r) = _
      rw [pm_digit _ _ (by omega) (by omega) (by omega), show (48 + ((x % 10 : Nat) : Int)).toNat - 48 = x % 10 by omega]
      congr 1
      omega
theorem decN_dec {n : Nat} (hn : n ≤ 18446744073709551615) : decN (strOfNums (decT n)).data.toList = some n := by
  rw [str_list]
  unfold decN Lib.parseUintB
  have h := pm_dec n 0 [] (by omega)
  rw [List.append_nil, Nat.zero_mul, Nat.zero_add] at h
  rw [if_neg (by intro q; have := decT_pos n; rw [List.map_eq_nil_iff.1 q] at this; exact Nat.lt_irrefl 0 this), show (2 : Nat) ^ 64 - 1 = 18446744073709551615 by decide, h]
  rfl
theorem hx_bd16 {k : Nat} (h : k < 16) : 48 ≤ hx (k : Int) ∧ hx (k : Int) ≤ 102 ∧ hexD (u8 (hx (k : Int))) = k := by
  have hb := hexB_hx (k : Int) (by omega) (by omega)
  have hv := hexV_hx (k : Int) (by omega) (by omega)
  have h2 := hexB_iff.1 hb
  refine ⟨by omega, by omega, ?_⟩
  unfold hexD
  rw [u8_nat (by omega) (by omega)]
  unfold hexV at hv
  split at hv
  · rw [if_pos (by omega)]; omega
  · rw [if_neg (by omega)]; omega
theorem hn_hex (x : Nat) : ∀ (acc : Nat) (r : List UInt8), hexN acc ((hexT x).map u8 ++ r) = hexN (acc * 16 ^ (hexT x).length + x) r := by
  induction x using Nat.strongRecOn with
  | _ x ih =>
    intro acc r
    by_cases h : x < 16
    · rw [hexT_lt h]
      simp only [List.length_singleton, Nat.pow_one]
      show hexN (acc * 16 + hexD (u8 (hx (x : Int)))) r = _
      rw [(hx_bd16 h).2.2]
    · rw [hexT_ge h]
      rw [List.length_append, List.length_singleton, Nat.pow_succ, ← Nat.mul_assoc, List.map_append, List.append_assoc, ih (x / 16) (by omega)]
      show hexN (_ * 16 + hexD (u8 (hx ((x % 16 : Nat) : Int)))) r = _
      rw [(hx_bd16 (show x % 16 < 16 by omega)).2.2]
      congr 1
      omega
theorem byt_dec {l : List Int} (h : ∀ z ∈ l, 0 ≤ z ∧ z ≤ 255) {i : Nat} (hi : i < l.length) : byt (strOfNums l) i = l[i] ∧ l[i] ∈ l := by
  have e : l.getD i 0 = l[i] := by rw [List.getD_eq_getElem?_getD, List.getElem?_eq_getElem hi]; rfl
  have hm : l[i] ∈ l := List.getElem_mem _
  rw [byt_str l i (by rw [e]; exact h _ hm), e]
  exact ⟨rfl, hm⟩
theorem own_dec {n : Nat} (hn : n ≤ 18446744073709551615) : Own (strOfNums (decT n)) ⟨2, strOfNums (decT n), (n : Int), 0⟩ := by
  have hs : (strOfNums (decT n)).size = (decT n).length := strOfNums_size _
  have hall : ∀ z ∈ decT n, 0 ≤ z ∧ z ≤ 255 := fun z hz => by have := decT_all n z hz; omega
  refine .inr (.inl ⟨by rw [hs]; exact decT_pos n, fun j hj => ?_, ?_, n, decN_dec hn, rfl⟩)
  · rw [hs] at hj
    obtain ⟨h1, h2⟩ := byt_dec hall hj
    rw [h1]
    exact digB_iff.2 (decT_all n _ h2)
  · rintro ⟨h1, h2⟩
    rw [hs] at h1
    by_cases h10 : n < 10
    · rw [decT_lt h10] at h1; simp at h1
    · obtain ⟨z, r, h3, h4⟩ := decT_first n (by omega)
      have := (byt_dec hall (i := 0) (by omega)).1
      rw [h2] at this
      simp only [h3, List.getElem_cons_zero] at this
      exact h4 this.symm
def ox : ByteArray := ⟨#[48, 120]⟩
theorem own_hexT {n : Nat} (hn : n ≤ 18446744073709551615) : Own (ox ++ strOfNums (hexT n)) ⟨2, ox ++ strOfNums (hexT n), (n : Int), 0⟩ := by
  have hs : (strOfNums (hexT n)).size = (hexT n).length := strOfNums_size _
  have hl := hexT_len n 15 (by rw [show (16 : Nat) ^ (15 + 1) = 18446744073709551616 by decide]; omega)
  have hp := hexT_pos n
  have hso : (ox ++ strOfNums (hexT n)).size = 2 + (hexT n).length := by rw [size_app, hs]; rfl
  have hall : ∀ z ∈ hexT n, 0 ≤ z ∧ z ≤ 255 := fun z hz => by
    obtain ⟨k, hk, rfl⟩ := hexT_all n z hz
    have := hx_bd16 hk; omega
  have hx2 : (ox ++ strOfNums (hexT n)).extract 2 (ox ++ strOfNums (hexT n)).size = strOfNums (hexT n) := ext_r rfl rfl
  have hv : hexN 0 (strOfNums (hexT n)).data.toList = n := by
    rw [str_list]
    have h := hn_hex n 0 []
    rw [List.append_nil, Nat.zero_mul, Nat.zero_add] at h
    exact h
  refine .inr (.inr (.inl ⟨by omega, by omega, ?_, ?_, fun j j2 hj => ?_, ?_⟩))
  · rw [byt_l (by decide)]; decide
  · rw [byt_l (by decide)]; decide
  · have e : byt (ox ++ strOfNums (hexT n)) j = byt (strOfNums (hexT n)) (j - 2) := by
      have := byt_r ox (strOfNums (hexT n)) (j - 2)
      rw [show ox.size + (j - 2) = j by show 2 + (j - 2) = j; omega] at this
      exact this
    obtain ⟨h1, h2⟩ := byt_dec hall (i := j - 2) (by omega)
    obtain ⟨k, hk, h3⟩ := hexT_all n _ h2
    rw [e, h1, h3]
    exact hexB_hx (k : Int) (by omega) (by omega)
  · rw [hx2, hv]
theorem decs_len1 (v : Int) : 1 ≤ (decs v).length := decs_pos v
theorem own_addrT {ip : Int} (hip : 0 ≤ ip ∧ ip ≤ 4294967295) : Own (strOfNums (addrText ip)) ⟨4, strOfNums (addrText ip), ip, 0⟩ := by
  have hs : (strOfNums (addrText ip)).size = (addrText ip).length := strOfNums_size _
  have h1 := fun v => decs_len v
  have h2 := fun v => decs_len1 v
  have hl : 7 ≤ (addrText ip).length ∧ (addrText ip).length ≤ 15 := by
    have a := h1 (ip / 16777216 % 256); have b := h1 (ip / 65536 % 256); have c := h1 (ip / 256 % 256); have d := h1 (ip / 1 % 256)
    have a' := h2 (ip / 16777216 % 256); have b' := h2 (ip / 65536 % 256); have c' := h2 (ip / 256 % 256); have d' := h2 (ip / 1 % 256)
    unfold addrText
    simp only [List.length_append, List.length_singleton]
    omega
  exact .inr (.inr (.inr (.inr (.inl ⟨by omega, by omega, ip, addr_back ip hip, rfl⟩))))
theorem own_macT (mac : Int) : Own (strOfNums (macText mac)) ⟨3, strOfNums (macText mac), mac % 281474976710656, 0⟩ :=
  .inr (.inr (.inr (.inl ⟨_, mac_back mac, rfl⟩)))
def sla : ByteArray := ⟨#[47]⟩
def com : ByteArray := ⟨#[44]⟩
theorem own_sla : Own sla ⟨5, sla, 0, 0⟩ := .inr (.inr (.inr (.inr (.inr (.inl ⟨by kernel_rfl, rfl⟩)))))
theorem own_com : Own com ⟨5, com, 0, 0⟩ := .inr (.inr (.inr (.inr (.inr (.inl ⟨by kernel_rfl, rfl⟩)))))
theorem app_assoc (a b c : ByteArray) : (a ++ b) ++ c = a ++ (b ++ c) := by
  apply ByteArray.ext
  rw [data_app, data_app, data_app, data_app, Array.append_assoc]
theorem end_of {J : ByteArray} {p : Nat} (h : p ≤ J.size) (hr : J.extract p J.size = non) : p = J.size := by
  have := congrArg ByteArray.size hr
  rw [ByteArray.size_extract] at this
  have e : non.size = 0 := rfl
  omega
theorem tokF_step0 {J c w : ByteArray} {x : Tk} {k f : Nat} {acc : List Tk} (hk : k ≤ J.size) (hJ : J.extract k J.size = c ++ w) (ho : Own c x) (he : Ends x.k w) :
    tokF J (f + 1) k acc = tokF J f (k + c.size) (acc ++ [{ x with a := ((k : Nat) : Int) }]) ∧ k + c.size ≤ J.size ∧ J.extract (k + c.size) J.size = w :=
  tokF_step (sp := non) hk (by rw [hJ, nil_app]) (.inl rfl) ho he
theorem tokF_stepL {J c : ByteArray} {x : Tk} {k f : Nat} {acc : List Tk} (hk : k ≤ J.size) (hJ : J.extract k J.size = c) (ho : Own c x) :
    tokF J (f + 1) k acc = tokF J f (k + c.size) (acc ++ [{ x with a := ((k : Nat) : Int) }]) ∧ k + c.size ≤ J.size ∧ J.extract (k + c.size) J.size = non :=
  tokF_step (sp := non) hk (by rw [hJ, nil_app, app_nil]) (.inl rfl) ho (.inl rfl)
theorem knz {k k' n n' a a' : Int} {t t' : ByteArray} (h : k ≠ k') : ¬ (⟨k, t, n, a⟩ : Tk).k = (⟨k', t', n', a'⟩ : Tk).k := h
/-- The tokens of the law's text. -/
theorem toks_six {D X A M : ByteArray} {d x a m : Int} (hD : Own D ⟨2, D, d, 0⟩) (hX : Own X ⟨2, X, x, 0⟩) (hA : Own A ⟨4, A, a, 0⟩) (hM : Own M ⟨3, M, m, 0⟩) :
    ∃ a0 a1 a2 a3 a4 a5 a6 : Int, tokS (D ++ (spc ++ (X ++ (sla ++ (A ++ (com ++ M)))))) = (some [⟨2, D, d, a0⟩, ⟨2, X, x, a1⟩, ⟨5, sla, 0, a2⟩, ⟨4, A, a, a3⟩, ⟨5, com, 0, a4⟩, ⟨3, M, m, a5⟩, ⟨7, ⟨#[]⟩, 0, a6⟩], 0) := by
  generalize hJ : D ++ (spc ++ (X ++ (sla ++ (A ++ (com ++ M))))) = J
  have hA0 := own_first hA
  have hA1 : byt A 0 ≠ 38 ∧ byt A 0 ≠ 124 ∧ byt A 0 ≠ 61 ∧ byt A 0 ≠ 46 := by
    rcases hA with ⟨_, _, _, _, q⟩ | ⟨_, _, _, _, _, q⟩ | ⟨_, _, _, _, _, q⟩ | ⟨_, _, q⟩ | ⟨_, _, v, h, q⟩ | ⟨_, q⟩ | ⟨_, _, _, _, _, q⟩
    · exact absurd (congrArg Tk.k q) (knz (by decide))
    · exact absurd (congrArg Tk.k q) (knz (by decide))
    · exact absurd (congrArg Tk.k q) (knz (by decide))
    · exact absurd (congrArg Tk.k q) (knz (by decide))
    · have := digB_iff.1 (addrSpec_all h).2.1; omega
    · exact absurd (congrArg Tk.k q) (knz (by decide))
    · exact absurd (congrArg Tk.k q) (knz (by decide))
  have hM1 : byt M 0 ≠ 38 ∧ byt M 0 ≠ 124 ∧ byt M 0 ≠ 61 ∧ byt M 0 ≠ 46 := by
    rcases hM with ⟨_, _, _, _, q⟩ | ⟨_, _, _, _, _, q⟩ | ⟨_, _, _, _, _, q⟩ | ⟨_, h, q⟩ | ⟨_, _, v, h, q⟩ | ⟨_, q⟩ | ⟨_, _, _, _, _, q⟩
    · exact absurd (congrArg Tk.k q) (knz (by decide))
    · exact absurd (congrArg Tk.k q) (knz (by decide))
    · exact absurd (congrArg Tk.k q) (knz (by decide))
    · have h0 := (macSpec_all h).2 0 (by omega)
      simp only [Nat.reduceMod, Nat.reduceEqDiff, if_false] at h0
      have := hexB_iff.1 h0; omega
    · exact absurd (congrArg Tk.k q) (knz (by decide))
    · exact absurd (congrArg Tk.k q) (knz (by decide))
    · exact absurd (congrArg Tk.k q) (knz (by decide))
  have hM0 := own_first hM
  have hsz : 7 ≤ J.size := by
    rw [← hJ]
    have h1 := (own_first hD).1
    have h2 := (own_first hX).1
    have e1 : spc.size = 1 := rfl
    have e2 : sla.size = 1 := rfl
    have e3 : com.size = 1 := rfl
    simp only [size_app]
    omega
  unfold tokS
  rw [show J.size + 1 = (J.size - 5) + 1 + 1 + 1 + 1 + 1 + 1 by omega]
  have e0 : J.extract 0 J.size = D ++ (spc ++ (X ++ (sla ++ (A ++ (com ++ M))))) := by rw [ext_all, hJ]
  have hAn : byt (A ++ (com ++ M)) 0 = byt A 0 := byt_l hA0.1
  obtain ⟨s1, k1, r1⟩ := tokF_step0 (f := (J.size - 5) + 1 + 1 + 1 + 1 + 1) (acc := []) (Nat.zero_le _) e0 hD (.inr (.inr (.inl (by rw [byt_l (by decide)]; decide))))
  obtain ⟨s2, k2, r2⟩ := tokF_step (f := (J.size - 5) + 1 + 1 + 1 + 1) (acc := [] ++ [_]) k1 r1 (.inr rfl) hX (.inr (.inr (.inr (.inl (by rw [byt_l (by decide)]; decide)))))
  obtain ⟨s3, k3, r3⟩ := tokF_step0 (f := (J.size - 5) + 1 + 1 + 1) (acc := [] ++ [_] ++ [_]) k2 r2 own_sla (.inr (.inl (by rw [hAn]; exact ⟨rfl, hA1.1, hA1.2.1, hA1.2.2.1, hA1.2.2.2⟩)))
  obtain ⟨s4, k4, r4⟩ := tokF_step0 (f := (J.size - 5) + 1 + 1) (acc := [] ++ [_] ++ [_] ++ [_]) k3 r3 hA (.inr (.inr (.inr (.inr (by rw [byt_l (by decide)]; decide)))))
  obtain ⟨s5, k5, r5⟩ := tokF_step0 (f := (J.size - 5) + 1) (acc := [] ++ [_] ++ [_] ++ [_] ++ [_]) k4 r4 own_com (.inr (.inl ⟨rfl, hM1.1, hM1.2.1, hM1.2.2.1, hM1.2.2.2⟩))
  obtain ⟨s6, k6, r6⟩ := tokF_stepL (f := J.size - 5) (acc := [] ++ [_] ++ [_] ++ [_] ++ [_] ++ [_]) k5 r5 hM
  rw [s1, s2, s3, s4, s5, s6]
  rw [end_of k6 r6, show J.size - 5 = (J.size - 6) + 1 by omega, tokF_end]
  exact ⟨_, _, _, _, _, _, _, rfl⟩
end Go.Proofs.YtajjffjnnjklnaaDoor
