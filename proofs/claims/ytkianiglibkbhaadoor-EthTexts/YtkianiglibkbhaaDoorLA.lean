/- Bytes of their kinds; hexadecimal digits. Conditions: none. -/
import Derived.Test.YtkianiglibkbhaaDoorRows
import Derived.Test.YtkianiglibkbhaaDoorKit
namespace Go.Proofs.YtkianiglibkbhaaDoor
open Go.RowKit
def digB (c : Int) : Bool := decide (48 ≤ c) && decide (c ≤ 57)
def hexB (c : Int) : Bool := digB c || (decide (97 ≤ c) && decide (c ≤ 102))
def letB (c : Int) : Bool := (decide (97 ≤ c) && decide (c ≤ 122)) || (decide (65 ≤ c) && decide (c ≤ 90))
def wordB (c : Int) : Bool := letB c || (digB c || (c == 95))
def nameB (c : Int) : Bool := wordB c || (c == 46)
def textB (c : Int) : Bool := decide (32 ≤ c) && (decide (c ≤ 126) && (decide (c ≠ 34) && decide (c ≠ 92)))
/-- The value of a hexadecimal digit. -/
def hexV (c : Int) : Int := if c ≤ 57 then c - 48 else c - 87
set_option maxHeartbeats 400000 in
theorem hexDigit_any (c : Int) (h0 : 0 ≤ c) (h9 : c ≤ 255) (w : World) : Calls Tryd.prog 15 #[.int .u8 c] w fun e w' => e = .returned (.tuple #[.int .u64 (if hexB c then hexV c else 0), .bool (hexB c)]) ∧ w' = w := by
  unfold hexB digB hexV
  by_cases h1 : 48 ≤ c <;> by_cases h2 : c ≤ 57 <;> by_cases h3 : 97 ≤ c <;> by_cases h4 : c ≤ 102 <;> first | (exfalso; omega) |
  · go_enter Tryd.func15, Tryd.ntmps15
    go_wp2
    go_ret2
    exact ⟨by simp [h1, h2, h3, h4] <;> omega, rfl⟩
end Go.Proofs.YtkianiglibkbhaaDoor
