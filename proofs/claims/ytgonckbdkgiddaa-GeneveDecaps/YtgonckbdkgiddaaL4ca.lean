/- The document's bound of a number. No condition. -/
import Derived.Test.YtgonckbdkgiddaaL4x
import Derived.Deep.RegionHeld3
namespace Go.Proofs.Ytgonckbdkgiddaa
open Go.RowKit
/-- May the numbers and lengths be? -/
def rOk (t0 t1 t2 t3 t4 t5 t6 : Bool) (on dn : Nat) (size : Int) : Bool := t0 && (t1 && (t2 && (t3 && (t4 && (t5 && (t6 && (!decide (40 < on) && (((on : Int) % 4 == 0) && !decide (65515 - size < (dn : Int))))))))))
def toB (v m : Int) : Bool := decide (0 ≤ v ∧ v ≤ m)
theorem to_any (v m : Int) (w : World) : Calls Try.prog 70 #[.int .i64 v, .int .i64 m] w fun e w' => e = .returned (.bool (toB v m)) ∧ w' = w := by
  unfold toB
  by_cases h1 : 0 ≤ v
  · by_cases h2 : v ≤ m
    · rw [decide_eq_true ⟨h1, h2⟩]
      go_enter Try.func70, Try.ntmps70
      go_wp2
      go_ret
      exact ⟨rfl, rfl⟩
    · rw [decide_eq_false (fun h => h2 h.2)]
      go_enter Try.func70, Try.ntmps70
      go_wp2
      go_ret
      exact ⟨rfl, rfl⟩
  · rw [decide_eq_false (fun h => h1 h.1)]
    go_enter Try.func70, Try.ntmps70
    go_wp2
    go_ret
    exact ⟨rfl, rfl⟩
end Go.Proofs.Ytgonckbdkgiddaa
