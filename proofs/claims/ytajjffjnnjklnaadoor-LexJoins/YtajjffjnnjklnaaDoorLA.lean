/- Bytes of their kinds; hexadecimal digits. Conditions: none. -/
import Derived.Test.YtajjffjnnjklnaaDoorRows
import Derived.Test.YtajjffjnnjklnaaDoorKit
namespace Go.Proofs.YtajjffjnnjklnaaDoor
open Go.RowKit
def digB (c : Int) : Bool := decide (48 ≤ c) && decide (c ≤ 57)
def hexB (c : Int) : Bool := digB c || (decide (97 ≤ c) && decide (c ≤ 102))
def letB (c : Int) : Bool := (decide (97 ≤ c) && decide (c ≤ 122)) || (decide (65 ≤ c) && decide (c ≤ 90))
def wordB (c : Int) : Bool := letB c || (digB c || (c == 95))
def nameB (c : Int) : Bool := wordB c || (c == 46)
def textB (c : Int) : Bool := decide (32 ≤ c) && (decide (c ≤ 126) && (decide (c ≠ 34) && decide (c ≠ 92)))
set_option maxHeartbeats 400000 in
theorem isDigit_any (c : Int) (w : World) : Calls Tryd.prog 30 #[.int .u8 c] w fun e w' => e = .returned (.bool (digB c)) ∧ w' = w := by
  unfold digB
  by_cases h1 : 48 ≤ c <;> by_cases h2 : c ≤ 57 <;>
  · go_enter Tryd.func30, Tryd.ntmps30
    go_wp2
    go_ret
    exact ⟨by simp [h1, h2], rfl⟩
set_option maxHeartbeats 400000 in
theorem isLetter_any (c : Int) (w : World) : Calls Tryd.prog 47 #[.int .u8 c] w fun e w' => e = .returned (.bool (letB c)) ∧ w' = w := by
  unfold letB
  by_cases h1 : 97 ≤ c <;> by_cases h2 : c ≤ 122 <;> by_cases h3 : 65 ≤ c <;> by_cases h4 : c ≤ 90 <;>
  · go_enter Tryd.func47, Tryd.ntmps47
    go_wp2
    go_ret
    exact ⟨by simp [h1, h2, h3, h4], rfl⟩
set_option maxHeartbeats 400000 in
theorem isInText_any (c : Int) (w : World) : Calls Tryd.prog 40 #[.int .u8 c] w fun e w' => e = .returned (.bool (textB c)) ∧ w' = w := by
  unfold textB
  by_cases h1 : 32 ≤ c <;> by_cases h2 : c ≤ 126 <;> by_cases h3 : c = 34 <;> by_cases h4 : c = 92 <;>
  · go_enter Tryd.func40, Tryd.ntmps40
    go_wp2
    go_ret
    exact ⟨by simp [h1, h2, h3, h4], rfl⟩
set_option maxHeartbeats 400000 in
theorem isHexDigit_any (c : Int) (w : World) : Calls Tryd.prog 34 #[.int .u8 c] w fun e w' => e = .returned (.bool (hexB c)) ∧ w' = w := by
  have HD : Hid (∀ W, Calls Tryd.prog 30 #[.int .u8 c] W fun e w' => e = .returned (.bool (digB c)) ∧ w' = W) := fun W => isDigit_any c W
  unfold hexB
  obtain ⟨d, hd⟩ : ∃ d, digB c = d := ⟨_, rfl⟩
  rw [hd] at HD ⊢
  clear hd
  cases d
  · by_cases h1 : 97 ≤ c <;> by_cases h2 : c ≤ 102 <;> first | (exfalso; omega) |
    · go_enter Tryd.func34, Tryd.ntmps34
      go_wp2_with fail
      refine (HD.out _).mono ?_
      rintro e W ⟨rfl, hw⟩
      rw [hw]
      clear hw
      go_wp2
      go_ret
      exact ⟨by simp [h1, h2], rfl⟩
  · go_enter Tryd.func34, Tryd.ntmps34
    go_wp2_with fail
    refine (HD.out _).mono ?_
    rintro e W ⟨rfl, hw⟩
    rw [hw]
    clear hw
    go_wp2
    go_ret
    refine ⟨?_, rfl⟩
    simp
set_option maxHeartbeats 400000 in
theorem isWord_any (c : Int) (w : World) : Calls Tryd.prog 36 #[.int .u8 c] w fun e w' => e = .returned (.bool (wordB c)) ∧ w' = w := by
  have HD : Hid (∀ W, Calls Tryd.prog 30 #[.int .u8 c] W fun e w' => e = .returned (.bool (digB c)) ∧ w' = W) := fun W => isDigit_any c W
  have HL : Hid (∀ W, Calls Tryd.prog 47 #[.int .u8 c] W fun e w' => e = .returned (.bool (letB c)) ∧ w' = W) := fun W => isLetter_any c W
  unfold wordB
  obtain ⟨d, hd⟩ : ∃ d, digB c = d := ⟨_, rfl⟩
  obtain ⟨l, hl⟩ : ∃ l, letB c = l := ⟨_, rfl⟩
  rw [hd] at HD ⊢
  rw [hl] at HL ⊢
  clear hd hl
  cases l
  · cases d
    · cases h1 : (c == 95)
      · go_enter Tryd.func36, Tryd.ntmps36
        go_wp2_with fail
        refine (HL.out _).mono ?_
        rintro e W ⟨rfl, hw⟩
        rw [hw]
        clear hw
        go_wp2_with fail
        refine (HD.out _).mono ?_
        rintro e W ⟨rfl, hw⟩
        rw [hw]
        clear hw
        go_wp2
        go_ret
        exact ⟨rfl, rfl⟩
      · go_enter Tryd.func36, Tryd.ntmps36
        go_wp2_with fail
        refine (HL.out _).mono ?_
        rintro e W ⟨rfl, hw⟩
        rw [hw]
        clear hw
        go_wp2_with fail
        refine (HD.out _).mono ?_
        rintro e W ⟨rfl, hw⟩
        rw [hw]
        clear hw
        go_wp2
        go_ret
        exact ⟨rfl, rfl⟩
    · go_enter Tryd.func36, Tryd.ntmps36
      go_wp2_with fail
      refine (HL.out _).mono ?_
      rintro e W ⟨rfl, hw⟩
      rw [hw]
      clear hw
      go_wp2_with fail
      refine (HD.out _).mono ?_
      rintro e W ⟨rfl, hw⟩
      rw [hw]
      clear hw
      go_wp2
      go_ret
      refine ⟨?_, rfl⟩
      simp
  · go_enter Tryd.func36, Tryd.ntmps36
    go_wp2_with fail
    refine (HL.out _).mono ?_
    rintro e W ⟨rfl, hw⟩
    rw [hw]
    clear hw
    go_wp2
    go_ret
    refine ⟨?_, rfl⟩
    simp
set_option maxHeartbeats 400000 in
theorem isInName_any (c : Int) (w : World) : Calls Tryd.prog 32 #[.int .u8 c] w fun e w' => e = .returned (.bool (nameB c)) ∧ w' = w := by
  have HL : Hid (∀ W, Calls Tryd.prog 36 #[.int .u8 c] W fun e w' => e = .returned (.bool (wordB c)) ∧ w' = W) := fun W => isWord_any c W
  unfold nameB
  obtain ⟨l, hl⟩ : ∃ l, wordB c = l := ⟨_, rfl⟩
  rw [hl] at HL ⊢
  clear hl
  cases l <;> cases h1 : (c == 46) <;>
  · go_enter Tryd.func32, Tryd.ntmps32
    go_wp2_with fail
    refine (HL.out _).mono ?_
    rintro e W ⟨rfl, hw⟩
    rw [hw]
    clear hw
    go_wp2
    go_ret
    exact ⟨rfl, rfl⟩
/-- The value of a hexadecimal digit. -/
def hexV (c : Int) : Int := if c ≤ 57 then c - 48 else c - 87
set_option maxHeartbeats 400000 in
theorem hexDigit_any (c : Int) (h0 : 0 ≤ c) (h9 : c ≤ 255) (w : World) : Calls Tryd.prog 48 #[.int .u8 c] w fun e w' => e = .returned (.tuple #[.int .u64 (if hexB c then hexV c else 0), .bool (hexB c)]) ∧ w' = w := by
  unfold hexB digB hexV
  by_cases h1 : 48 ≤ c <;> by_cases h2 : c ≤ 57 <;> by_cases h3 : 97 ≤ c <;> by_cases h4 : c ≤ 102 <;> first | (exfalso; omega) |
  · go_enter Tryd.func48, Tryd.ntmps48
    go_wp2
    go_ret2
    exact ⟨by simp [h1, h2, h3, h4] <;> omega, rfl⟩
end Go.Proofs.YtajjffjnnjklnaaDoor
