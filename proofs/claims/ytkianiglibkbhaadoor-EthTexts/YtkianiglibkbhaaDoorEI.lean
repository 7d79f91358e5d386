/- An IPv4 address's text reads as the address. Condition: an address of 32 bits. -/
import Derived.Test.YtkianiglibkbhaaDoorEH
namespace Go.Proofs.YtkianiglibkbhaaDoor
open Go.RowKit
theorem digB_d (x : Int) (h0 : 0 ≤ x) (h1 : x ≤ 9) : digB (48 + x) = true := by unfold digB; simp; omega
theorem octStep (s : ByteArray) (k n : Nat) (v x : Int) (hk : k < s.size) (h0 : 0 ≤ x) (h1 : x ≤ 9) (hb : byt s k = 48 + x) : octFrom s k (n + 1) v = octFrom s (k + 1) n (v * 10 + x) := by
  rw [octFrom, if_pos ⟨hk, by rw [hb]; exact digB_d x h0 h1⟩, hb]
  congr 1; omega
theorem octStop (s : ByteArray) (k n : Nat) (v : Int) (h : ¬ k < s.size ∨ byt s k = 46) : octFrom s k (n + 1) v = (v, k) := by
  rw [octFrom, if_neg]
  rintro ⟨h1, h2⟩
  rcases h with h | h
  · exact h h1
  · rw [h] at h2; revert h2; decide
theorem rest_at (l r : List Int) (hr : r = [] ∨ ∃ t, r = 46 :: t) : ¬ l.length < (strOfNums (l ++ r)).size ∨ byt (strOfNums (l ++ r)) l.length = 46 := by
  rcases hr with rfl | ⟨t, rfl⟩
  · left; rw [str_size]; simp
  · right
    have e : (l ++ 46 :: t).getD l.length 0 = 46 := by simp
    rw [byt_str _ _ (by rw [e]; omega), e]
theorem octS_decs (v : Int) (h0 : 0 ≤ v) (h1 : v ≤ 255) (r : List Int) (hr : r = [] ∨ ∃ t, r = 46 :: t) : octS (strOfNums (decs v ++ r)) = (v, (decs v).length) := by
  have hstop := rest_at (decs v) r hr
  have hsz : (decs v).length ≤ (strOfNums (decs v ++ r)).size := by rw [str_size]; simp
  rcases (by omega : v ≤ 9 ∨ (10 ≤ v ∧ v ≤ 99) ∨ 100 ≤ v) with h | h | h
  · have hd : decs v = [48 + v] := if_pos h
    rw [hd] at hstop hsz ⊢
    replace hsz : 1 ≤ (strOfNums ([48 + v] ++ r)).size := hsz
    replace hstop : ¬ 1 < (strOfNums ([48 + v] ++ r)).size ∨ byt (strOfNums ([48 + v] ++ r)) 1 = 46 := hstop
    have b0 : byt (strOfNums ([48 + v] ++ r)) 0 = 48 + v := by rw [byt_str _ _ (by simp; omega)]; simp
    have e : octFrom (strOfNums ([48 + v] ++ r)) 0 3 0 = (v, 1) := by
      rw [octStep _ 0 2 0 v (by omega) h0 h b0, octStop _ 1 1 _ hstop]; simp
    unfold octS
    rw [e, if_neg (by unfold octBad; simp; omega)]
    rfl
  · have hd : decs v = [48 + v / 10, 48 + v % 10] := by unfold decs; rw [if_neg (by omega), if_pos (by omega)]
    rw [hd] at hstop hsz ⊢
    replace hsz : 2 ≤ (strOfNums ([48 + v / 10, 48 + v % 10] ++ r)).size := hsz
    replace hstop : ¬ 2 < (strOfNums ([48 + v / 10, 48 + v % 10] ++ r)).size ∨ byt (strOfNums ([48 + v / 10, 48 + v % 10] ++ r)) 2 = 46 := hstop
    have b0 : byt (strOfNums ([48 + v / 10, 48 + v % 10] ++ r)) 0 = 48 + v / 10 := by rw [byt_str _ _ (by simp; omega)]; simp
    have b1 : byt (strOfNums ([48 + v / 10, 48 + v % 10] ++ r)) 1 = 48 + v % 10 := by rw [byt_str _ _ (by simp; omega)]; simp
    have e : octFrom (strOfNums ([48 + v / 10, 48 + v % 10] ++ r)) 0 3 0 = (v, 2) := by
      rw [octStep _ 0 2 0 (v / 10) (by omega) (by omega) (by omega) b0, octStep _ 1 1 _ (v % 10) (by omega) (by omega) (by omega) b1, octStop _ 2 0 _ hstop]
      congr 1; omega
    unfold octS
    rw [e, if_neg (by unfold octBad; rw [b0]; simp; omega)]
    rfl
  · have hd : decs v = [48 + v / 100, 48 + v / 10 % 10, 48 + v % 10] := by unfold decs; rw [if_neg (by omega), if_neg (by omega)]
    rw [hd] at hsz ⊢
    clear hstop
    replace hsz : 3 ≤ (strOfNums ([48 + v / 100, 48 + v / 10 % 10, 48 + v % 10] ++ r)).size := hsz
    have b0 : byt (strOfNums ([48 + v / 100, 48 + v / 10 % 10, 48 + v % 10] ++ r)) 0 = 48 + v / 100 := by rw [byt_str _ _ (by simp; omega)]; simp
    have b1 : byt (strOfNums ([48 + v / 100, 48 + v / 10 % 10, 48 + v % 10] ++ r)) 1 = 48 + v / 10 % 10 := by rw [byt_str _ _ (by simp; omega)]; simp
    have b2 : byt (strOfNums ([48 + v / 100, 48 + v / 10 % 10, 48 + v % 10] ++ r)) 2 = 48 + v % 10 := by rw [byt_str _ _ (by simp; omega)]; simp
    have e : octFrom (strOfNums ([48 + v / 100, 48 + v / 10 % 10, 48 + v % 10] ++ r)) 0 3 0 = (v, 3) := by
      rw [octStep _ 0 2 0 (v / 100) (by omega) (by omega) (by omega) b0, octStep _ 1 1 _ (v / 10 % 10) (by omega) (by omega) (by omega) b1, octStep _ 2 0 _ (v % 10) (by omega) (by omega) (by omega) b2, octFrom]
      congr 1; omega
    unfold octS
    rw [e, if_neg (by unfold octBad; rw [b0]; simp; omega)]
    rfl
theorem str_extract (l m : List Int) : (strOfNums (l ++ m)).extract l.length (strOfNums (l ++ m)).size = strOfNums m := by
  apply ByteArray.ext
  rw [str_size]
  simp [strOfNums, ByteArray.data_extract]
  exact List.take_of_length_le (by simp)
theorem decs_pos (v : Int) : 0 < (decs v).length := by
  unfold decs; split
  · simp
  · split <;> simp
theorem addr_step (p : List Int) (v : Int) (h0 : 0 ≤ v) (h1 : v ≤ 255) (t : List Int) (n : Nat) (ip : Int) :
    addrFrom (strOfNums (p ++ (decs v ++ 46 :: t))) p.length (n + 2) ip = addrFrom (strOfNums (p ++ (decs v ++ 46 :: t))) (p.length + (decs v).length + 1) (n + 1) (ip * 256 + v) := by
  have hp := decs_pos v
  have hz : (strOfNums (p ++ (decs v ++ 46 :: t))).size = p.length + ((decs v).length + (t.length + 1)) := by rw [str_size]; simp
  have e : (p ++ (decs v ++ 46 :: t)).getD (p.length + (decs v).length) 0 = 46 := by
    rw [← List.append_assoc, ← List.length_append]; simp
  rw [addrFrom, str_extract, octS_decs v h0 h1 _ (Or.inr ⟨t, rfl⟩)]
  simp only []
  rw [if_neg (by omega), if_neg (by omega), if_neg (by omega), byt_str _ _ (by rw [e]; omega), e, if_pos rfl]
theorem addr_last (p : List Int) (v : Int) (h0 : 0 ≤ v) (h1 : v ≤ 255) (ip : Int) :
    addrFrom (strOfNums (p ++ (decs v ++ []))) p.length 1 ip = some (ip * 256 + v) := by
  have hp := decs_pos v
  have hz : (strOfNums (p ++ (decs v ++ []))).size = p.length + (decs v).length := by rw [str_size]; simp
  rw [addrFrom, str_extract, octS_decs v h0 h1 _ (Or.inl rfl)]
  simp only []
  rw [if_neg (by omega), if_pos trivial, if_pos (by omega)]
theorem addr_back (ip : Int) (hip : 0 ≤ ip ∧ ip ≤ 4294967295) : addrSpec (strOfNums (addrText ip)) = some ip := by
  obtain ⟨a, ha⟩ : ∃ a, ip / 16777216 % 256 = a := ⟨_, rfl⟩
  obtain ⟨b, hb⟩ : ∃ b, ip / 65536 % 256 = b := ⟨_, rfl⟩
  obtain ⟨c, hc⟩ : ∃ c, ip / 256 % 256 = c := ⟨_, rfl⟩
  obtain ⟨d, hd⟩ : ∃ d, ip / 1 % 256 = d := ⟨_, rfl⟩
  have hk : (((0 * 256 + a) * 256 + b) * 256 + c) * 256 + d = ip := by omega
  have e0 : addrText ip = [] ++ (decs a ++ 46 :: (decs b ++ 46 :: (decs c ++ 46 :: (decs d ++ [])))) := by
    unfold addrText; rw [ha, hb, hc, hd]; simp
  have e1 : [] ++ (decs a ++ 46 :: (decs b ++ 46 :: (decs c ++ 46 :: (decs d ++ [])))) = (decs a ++ [46]) ++ (decs b ++ 46 :: (decs c ++ 46 :: (decs d ++ []))) := by simp
  have e2 : (decs a ++ [46]) ++ (decs b ++ 46 :: (decs c ++ 46 :: (decs d ++ []))) = (decs a ++ [46] ++ decs b ++ [46]) ++ (decs c ++ 46 :: (decs d ++ [])) := by simp
  have e3 : (decs a ++ [46] ++ decs b ++ [46]) ++ (decs c ++ 46 :: (decs d ++ [])) = (decs a ++ [46] ++ decs b ++ [46] ++ decs c ++ [46]) ++ (decs d ++ []) := by simp
  unfold addrSpec
  rw [e0]
  have s1 := addr_step [] a (by omega) (by omega) (decs b ++ 46 :: (decs c ++ 46 :: (decs d ++ []))) 2 0
  have s2 := addr_step (decs a ++ [46]) b (by omega) (by omega) (decs c ++ 46 :: (decs d ++ [])) 1 (0 * 256 + a)
  have s3 := addr_step (decs a ++ [46] ++ decs b ++ [46]) c (by omega) (by omega) (decs d ++ []) 0 ((0 * 256 + a) * 256 + b)
  have s4 := addr_last (decs a ++ [46] ++ decs b ++ [46] ++ decs c ++ [46]) d (by omega) (by omega) (((0 * 256 + a) * 256 + b) * 256 + c)
  refine s1.trans ?_
  rw [e1]
  have n1 : ([] : List Int).length + (decs a).length + 1 = (decs a ++ [46]).length := by simp
  rw [n1]
  refine s2.trans ?_
  rw [e2]
  have n2 : (decs a ++ [46]).length + (decs b).length + 1 = (decs a ++ [46] ++ decs b ++ [46]).length := by simp; omega
  rw [n2]
  refine s3.trans ?_
  rw [e3]
  have n3 : (decs a ++ [46] ++ decs b ++ [46]).length + (decs c).length + 1 = (decs a ++ [46] ++ decs b ++ [46] ++ decs c ++ [46]).length := by simp; omega
  rw [n3]
  refine s4.trans ?_
  rw [hk]
end Go.Proofs.YtkianiglibkbhaaDoor
