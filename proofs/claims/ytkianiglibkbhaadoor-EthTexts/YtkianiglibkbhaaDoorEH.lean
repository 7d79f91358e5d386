/- An address's text reads as the address. No condition. -/
import Derived.Test.YtkianiglibkbhaaDoorEG
import Derived.Test.YtkianiglibkbhaaDoorLD
namespace Go.Proofs.YtkianiglibkbhaaDoor
open Go.RowKit
theorem byt_str (l : List Int) (i : Nat) (h : 0 ≤ l.getD i 0 ∧ l.getD i 0 ≤ 255) : byt (strOfNums l) i = l.getD i 0 := by
  unfold byt strOfNums
  rw [Array.getD_eq_getD_getElem?, List.getElem?_toArray, List.getElem?_map]
  rw [List.getD_eq_getElem?_getD] at *
  cases e : l[i]? with
  | none => rfl
  | some x =>
    rw [e] at h
    simp only [Option.getD_some, Option.map_some] at h ⊢
    rw [UInt8.toNat_ofNat']
    omega
theorem hexB_hx (k : Int) (h0 : 0 ≤ k) (h1 : k ≤ 15) : hexB (hx k) = true := by
  unfold hexB digB hx
  split
  · simp; omega
  · simp; omega
theorem hexV_hx (k : Int) (h0 : 0 ≤ k) (h1 : k ≤ 15) : hexV (hx k) = k := by
  unfold hexV hx
  split
  · rw [if_pos (by omega)]; omega
  · rw [if_neg (by omega)]; omega
theorem hexG (s : ByteArray) (k n : Nat) (acc x : Int) (hk : k % 3 ≠ 2) (h0 : 0 ≤ x) (h1 : x ≤ 15) (hb : byt s k = hx x) : macFrom s k (n + 1) acc = macFrom s (k + 1) n (acc * 16 + x) := by
  rw [macFrom, if_neg hk, hb, if_pos (hexB_hx x h0 h1), hexV_hx x h0 h1]
theorem colG (s : ByteArray) (k n : Nat) (acc : Int) (hk : k % 3 = 2) (hb : byt s k = 58) : macFrom s k (n + 1) acc = macFrom s (k + 1) n acc := by
  rw [macFrom, if_pos hk, if_pos hb]
theorem mac_back (mac : Int) : macSpec (strOfNums (macText mac)) = some (mac % 281474976710656) := by
  have hlen : (strOfNums (macText mac)).size = 17 := by rw [str_size, text_len]
  have hb : ∀ i, byt (strOfNums (macText mac)) i = (macText mac).getD i 0 := fun i => byt_str _ _ (text_bd mac i)
  unfold macSpec
  rw [if_pos hlen]
  rw [hexG _ 0 16 _ ((mac / 1099511627776 % 256) / 16) (by decide) (by omega) (by omega) ((hb 0).trans rfl)]
  rw [hexG _ 1 15 _ ((mac / 1099511627776 % 256) % 16) (by decide) (by omega) (by omega) ((hb 1).trans rfl)]
  rw [colG _ 2 14 _ (by decide) ((hb 2).trans rfl)]
  rw [hexG _ 3 13 _ ((mac / 2 ^ (8 * 4) % 256) / 16) (by decide) (by omega) (by omega) ((hb 3).trans rfl)]
  rw [hexG _ 4 12 _ ((mac / 2 ^ (8 * 4) % 256) % 16) (by decide) (by omega) (by omega) ((hb 4).trans rfl)]
  rw [colG _ 5 11 _ (by decide) ((hb 5).trans rfl)]
  rw [hexG _ 6 10 _ ((mac / 2 ^ (8 * 3) % 256) / 16) (by decide) (by omega) (by omega) ((hb 6).trans rfl)]
  rw [hexG _ 7 9 _ ((mac / 2 ^ (8 * 3) % 256) % 16) (by decide) (by omega) (by omega) ((hb 7).trans rfl)]
  rw [colG _ 8 8 _ (by decide) ((hb 8).trans rfl)]
  rw [hexG _ 9 7 _ ((mac / 2 ^ (8 * 2) % 256) / 16) (by decide) (by omega) (by omega) ((hb 9).trans rfl)]
  rw [hexG _ 10 6 _ ((mac / 2 ^ (8 * 2) % 256) % 16) (by decide) (by omega) (by omega) ((hb 10).trans rfl)]
  rw [colG _ 11 5 _ (by decide) ((hb 11).trans rfl)]
  rw [hexG _ 12 4 _ ((mac / 2 ^ (8 * 1) % 256) / 16) (by decide) (by omega) (by omega) ((hb 12).trans rfl)]
  rw [hexG _ 13 3 _ ((mac / 2 ^ (8 * 1) % 256) % 16) (by decide) (by omega) (by omega) ((hb 13).trans rfl)]
  rw [colG _ 14 2 _ (by decide) ((hb 14).trans rfl)]
  rw [hexG _ 15 1 _ ((mac / 2 ^ (8 * 0) % 256) / 16) (by decide) (by omega) (by omega) ((hb 15).trans rfl)]
  rw [hexG _ 16 0 _ ((mac / 2 ^ (8 * 0) % 256) % 16) (by decide) (by omega) (by omega) ((hb 16).trans rfl)]
  rw [macFrom]
  congr 1
  omega
end Go.Proofs.YtkianiglibkbhaaDoor
