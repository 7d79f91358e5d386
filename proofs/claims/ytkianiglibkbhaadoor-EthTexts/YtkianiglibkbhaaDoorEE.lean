/- The decimal text of a number below 256; a part of AddrText of package eth. Condition: the library's table lies as laid. -/
import Derived.Test.YtkianiglibkbhaaDoorED
import Derived.Test.YtkianiglibkbhaaDoorShelf
namespace Go.Proofs.YtkianiglibkbhaaDoor
open Go.RowKit
/-- The decimal digits of a number below 1000. -/
def decs (n : Int) : List Int := if n ≤ 9 then [48 + n] else if n ≤ 99 then [48 + n / 10, 48 + n % 10] else [48 + n / 100, 48 + n / 10 % 10, 48 + n % 10]
theorem itoa_decs (n : Int) (h0 : 0 ≤ n) (h1 : n ≤ 255) : (⟨(Lib.itoa n).toArray⟩ : ByteArray) = strOfNums (decs n) := by
  unfold Lib.itoa
  rw [if_neg (by omega)]
  unfold strOfNums decs
  congr 2
  rcases (by omega : n ≤ 9 ∨ (10 ≤ n ∧ n ≤ 99) ∨ 100 ≤ n) with h | h | h
  · rw [if_pos h, Lib.decDigits, dif_pos (by omega)]
    simp only [List.map_cons, List.map_nil]
    rw [show (48 + n).toNat = 48 + n.toNat by omega]
  · rw [if_neg (by omega), if_pos (by omega), Lib.decDigits, dif_neg (by omega), Lib.decDigits, dif_pos (by omega)]
    simp only [List.map_cons, List.map_nil, List.cons_append, List.nil_append]
    rw [show (48 + n / 10).toNat = 48 + n.toNat / 10 by omega, show (48 + n % 10).toNat = 48 + n.toNat % 10 by omega]
  · rw [if_neg (by omega), if_neg (by omega), Lib.decDigits, dif_neg (by omega), Lib.decDigits, dif_neg (by omega), Lib.decDigits, dif_pos (by omega)]
    simp only [List.map_cons, List.map_nil, List.cons_append, List.nil_append]
    rw [show (48 + n / 100).toNat = 48 + n.toNat / 10 / 10 by omega, show (48 + n / 10 % 10).toNat = 48 + n.toNat / 10 % 10 by omega, show (48 + n % 10).toNat = 48 + n.toNat % 10 by omega]
/-- The library's table of powers of ten lies in this world as the program lays it. -/
def Tab10 (w : World) : Prop := Lib.TabIs Tryd.prog w "internal/strconv.uint64pow10" .u64 Lib.pow10Tab
theorem gTab : Tryd.prog.globalNamed "internal/strconv.uint64pow10" = some 0 := by kernel_rfl
theorem Tab10.below {w w' : World} (h : Tab10 w) (hb : Below w.heap.size w w') : Tab10 w' := by
  unfold Tab10 Lib.TabIs World.var? at *
  rw [gTab] at *
  simp only [Option.bind_some] at *
  have hlt : 0 < w.heap.size := by
    rcases Nat.lt_or_ge 0 w.heap.size with h' | h'
    · exact h'
    · rw [Array.getElem?_eq_none h'] at h; cases h
  rw [hb.block _ hlt]
  exact h
theorem below_grown1 (w : World) (q : Nat) (os : Array Obj) : Below w.heap.size w (Sort.grow (w.drewN q) os) :=
  ⟨rfl, rfl, rfl, by simp [Sort.grow], fun i hi => by
    show ((w.drewN q).heap ++ os)[i]? = _
    rw [Array.getElem?_append_left (by show i < w.heap.size; omega)]
    rfl⟩
set_option maxHeartbeats 1000000 in
theorem part_any (ip : Int) (hip : 0 ≤ ip ∧ ip ≤ 4294967295) (p : Nat) (sh d : Int) (hs : (sh = 0 ∧ d = 1) ∨ (sh = 8 ∧ d = 256) ∨ (sh = 16 ∧ d = 65536) ∨ (sh = 24 ∧ d = 16777216)) (w : World) (hc : w.cell? ⟨p, 0, none⟩ = some (.int .u32 ip)) (ht : Tab10 w) :
    Calls Tryd.prog 19 #[.int .i64 sh, .pointer (some ⟨p, 0, none⟩)] w fun e w' => e = .returned (.string (strOfNums (decs (ip / d % 256)))) ∧ Below w.heap.size w w' := by
  have hm : ∀ x : Int, 0 ≤ x → x ≤ 4294967295 → bits .and .u32 x 255 = x % 256 := by
    intro x h0 h1
    obtain ⟨n, rfl⟩ := Int.eq_ofNat_of_zero_le h0
    rw [show (255 : Int) = ((255 : Nat) : Int) from rfl, u32_and_nat n 255 (by omega) (by omega)]
    have := Nat.and_two_pow_sub_one_eq_mod n 8
    simp only [show 2 ^ 8 - 1 = 255 from rfl, show 2 ^ 8 = 256 from rfl] at this
    rw [this]; omega
  have fin : ∀ n : Int, 0 ≤ n → n ≤ 255 → Calls Tryd.prog 20 #[.int .i64 n] w fun e w' => e = .returned (.string (strOfNums (decs n))) ∧ Below w.heap.size w w' := by
    intro n h0 h1
    refine (Tryd.strconv_Itoa n (by omega) (by omega) w ht).mono ?_
    rintro e w' ⟨rfl, k, os, rfl⟩
    exact ⟨by rw [itoa_decs n h0 h1], below_grown1 _ _ _⟩
  rcases hs with ⟨rfl, rfl⟩ | ⟨rfl, rfl⟩ | ⟨rfl, rfl⟩ | ⟨rfl, rfl⟩
  · have hq := hm ip (by omega) (by omega)
    have hw : wrap64 (ip % 256) = ip % 256 := by unfold wrap64; omega
    go_enter Tryd.func19, Tryd.ntmps19
    go_wp2_with fail
    refine (fin _ (by omega) (by omega)).mono ?_
    rintro e w1 ⟨rfl, hb⟩
    go_wp2
    go_ret
    exact ⟨by simp, hb⟩
  · have hq := hm (ip / 256) (by omega) (by omega)
    have hw : wrap64 ((ip / 256) % 256) = (ip / 256) % 256 := by unfold wrap64; omega
    go_enter Tryd.func19, Tryd.ntmps19
    go_wp2_with fail
    refine (fin _ (by omega) (by omega)).mono ?_
    rintro e w1 ⟨rfl, hb⟩
    go_wp2
    go_ret
    exact ⟨by simp, hb⟩
  · have hq := hm (ip / 65536) (by omega) (by omega)
    have hw : wrap64 ((ip / 65536) % 256) = (ip / 65536) % 256 := by unfold wrap64; omega
    go_enter Tryd.func19, Tryd.ntmps19
    go_wp2_with fail
    refine (fin _ (by omega) (by omega)).mono ?_
    rintro e w1 ⟨rfl, hb⟩
    go_wp2
    go_ret
    exact ⟨by simp, hb⟩
  · have hq := hm (ip / 16777216) (by omega) (by omega)
    have hw : wrap64 ((ip / 16777216) % 256) = (ip / 16777216) % 256 := by unfold wrap64; omega
    go_enter Tryd.func19, Tryd.ntmps19
    go_wp2_with fail
    refine (fin _ (by omega) (by omega)).mono ?_
    rintro e w1 ⟨rfl, hb⟩
    go_wp2
    go_ret
    exact ⟨by simp, hb⟩
end Go.Proofs.YtkianiglibkbhaaDoor
