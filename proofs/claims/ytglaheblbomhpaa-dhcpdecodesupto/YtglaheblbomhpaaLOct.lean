/- What Word, SetWord and Fits of package octets do. Conditions: the bytes can be read; 8, 12 or 16 bits. -/
import Derived.Test.YtglaheblbomhpaaLNum

namespace Go.Proofs.Ytglaheblbomhpaa
open Go.RowKit

def fit8 (v : Int) : Bool := decide (0 ≤ v ∧ v ≤ 255)
def fit16 (v : Int) : Bool := decide (0 ≤ v ∧ v ≤ 65535)
def fit12 (v : Int) : Bool := decide (0 ≤ v ∧ v ≤ 4095)

theorem fits8_any (v : Int) (w : World) : Calls Try.prog 36 #[.int .i64 v, .int .u64 8] w fun e w' => e = .returned (.bool (fit8 v)) ∧ w' = w := by
  have e : (v / 256 == 0) = fit8 v := by
    unfold fit8; rw [Bool.eq_iff_iff]; simp; omega
  go_enter Try.func36, Try.ntmps36
  go_wp2
  go_ret
  exact ⟨rfl, rfl⟩
theorem fits12_any (v : Int) (w : World) : Calls Try.prog 36 #[.int .i64 v, .int .u64 12] w fun e w' => e = .returned (.bool (fit12 v)) ∧ w' = w := by
  have e : (v / 4096 == 0) = fit12 v := by
    unfold fit12; rw [Bool.eq_iff_iff]; simp; omega
  go_enter Try.func36, Try.ntmps36
  go_wp2
  go_ret
  exact ⟨rfl, rfl⟩
theorem fits16_any (v : Int) (w : World) : Calls Try.prog 36 #[.int .i64 v, .int .u64 16] w fun e w' => e = .returned (.bool (fit16 v)) ∧ w' = w := by
  have e : (v / 65536 == 0) = fit16 v := by
    unfold fit16; rw [Bool.eq_iff_iff]; simp; omega
  go_enter Try.func36, Try.ntmps36
  go_wp2
  go_ret
  exact ⟨rfl, rfl⟩

/-- Fits of 8, 12 or 16 bits. -/
def fitN (b v : Int) : Bool := if b = 8 then fit8 v else if b = 12 then fit12 v else fit16 v
theorem fitN_any (v b : Int) (hb : b = 8 ∨ b = 12 ∨ b = 16) (w : World) : Calls Try.prog 36 #[.int .i64 v, .int .u64 b] w fun e w' => e = .returned (.bool (fitN b v)) ∧ w' = w := by
  rcases hb with rfl | rfl | rfl
  · exact fits8_any v w
  · exact fits12_any v w
  · exact fits16_any v w

end Go.Proofs.Ytglaheblbomhpaa
