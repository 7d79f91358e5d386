/- CtTuples: the walk. Conditions: as said. -/
import Derived.Test.YtjjehncnjcepkaaCY
namespace Go.Proofs.Ytjjehncnjcepkaa
open Go.RowKit
theorem eql_tup (a b : Tup) (W : World) : (binOp .eql 44 (tv a) (tv b)).run Try.prog W = .ok (.bool (decide (a = b))) W := by
  obtain ⟨a0, a1, a2, a3, a4⟩ := a
  obtain ⟨b0, b1, b2, b3, b4⟩ := b
  unfold tv tupC
  by_cases h0 : a0 = b0
  · by_cases h1 : a1 = b1
    · by_cases h2 : a2 = b2
      · by_cases h3 : a3 = b3
        · by_cases h4 : a4 = b4
          · subst h0 h1 h2 h3 h4; simp [go_sem]
          · subst h0 h1 h2 h3; simp [go_sem, h4]
        · subst h0 h1 h2; simp [go_sem, h3]
      · subst h0 h1; simp [go_sem, h2]
    · subst h0; simp [go_sem, h1]
  · simp [go_sem, h0]
theorem guard_eql (x y : Operand) (a b : Tup) (W : World) : (eqGuard .eql 44 x y (tv a) (tv b)).run Try.prog W = .ok () W := by
  obtain ⟨a0, a1, a2, a3, a4⟩ := a
  obtain ⟨b0, b1, b2, b3, b4⟩ := b
  first | kernel_rfl | (unfold tv tupC; simp [go_sem])
/-- A packet's tuple, or noughts. -/
def tupOf (ip : Bool) (fr pr src dst k ty co re sp dp : Int) : Tup := if hasT ip fr k ty co then (pr, src, dst, portT k re sp, portT k re dp) else (0, 0, 0, 0, 0)
theorem of_any {ps : Array Value} {ip : Bool} {fr pr src dst k ty co re sp dp : Int} (h : Pk ps ip fr pr src dst k ty co re sp dp) (w : World) :
    Calls Try.prog 20 #[.agg ps] w fun e w' => e = .returned (.tuple #[tv (tupOf ip fr pr src dst k ty co re sp dp), .bool (hasT ip fr k ty co)]) ∧ Below w.heap.size w w' := by
  unfold tupOf
  cases hh : hasT ip fr k ty co
  · exact of_no h hh w
  · exact of_yes h hh w
theorem eql_bool (b : Bool) (W : World) : (binOp .eql 4 (.bool b) (.bool b)).run Try.prog W = .ok (.bool true) W := by
  cases b <;> simp [go_sem]
end Go.Proofs.Ytjjehncnjcepkaa
