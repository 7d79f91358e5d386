/- What kindOf, Proto, fixedSize, checkAt of package l4 answer, and Pseudo of package sum. Conditions: addresses of 32 bits. -/
import Derived.Test.YtgonckbdkgiddaaLOct
namespace Go.Proofs.Ytgonckbdkgiddaa
open Go.RowKit

def kindV (p : Int) : Int := if p = 1 then 1 else if p = 17 then 2 else if p = 6 then 3 else 0
def fixV (k : Int) : Int := if k = 1 then 8 else if k = 2 then 8 else if k = 3 then 20 else 0
def protoV (k : Int) : Value := if k = 1 then .tuple #[.int .i64 1, .bool true] else if k = 2 then .tuple #[.int .i64 17, .bool true] else if k = 3 then .tuple #[.int .i64 6, .bool true] else .tuple #[.int .i64 0, .bool false]

theorem proto_any (k : Int) (w : World) : Calls Try.prog 67 #[.int .i64 k] w fun e w' => e = .returned (protoV k) ∧ w' = w := by
  unfold protoV
  by_cases h1 : k = 1
  · subst h1
    go_enter Try.func67, Try.ntmps67
    go_wp2
    go_ret2
    exact ⟨rfl, rfl⟩
  by_cases h2 : k = 2
  · subst h2
    go_enter Try.func67, Try.ntmps67
    go_wp2
    go_ret2
    exact ⟨rfl, rfl⟩
  by_cases h3 : k = 3
  · subst h3
    go_enter Try.func67, Try.ntmps67
    go_wp2
    go_ret2
    exact ⟨rfl, rfl⟩
  · rw [if_neg h1, if_neg h2, if_neg h3]
    have b1 : (k == 1) = false := by simp [h1]
    have b2 : (k == 2) = false := by simp [h2]
    have b3 : (k == 3) = false := by simp [h3]
    go_enter Try.func67, Try.ntmps67
    go_wp2
    go_ret2
    exact ⟨rfl, rfl⟩

theorem fixed_any (k : Int) (w : World) : Calls Try.prog 64 #[.int .i64 k] w fun e w' => e = .returned (.int .i64 (fixV k)) ∧ w' = w := by
  unfold fixV
  by_cases h1 : k = 1
  · subst h1
    go_enter Try.func64, Try.ntmps64
    go_wp2
    go_ret
    exact ⟨rfl, rfl⟩
  by_cases h2 : k = 2
  · subst h2
    go_enter Try.func64, Try.ntmps64
    go_wp2
    go_ret
    exact ⟨rfl, rfl⟩
  by_cases h3 : k = 3
  · subst h3
    go_enter Try.func64, Try.ntmps64
    go_wp2
    go_ret
    exact ⟨rfl, rfl⟩
  · rw [if_neg h1, if_neg h2, if_neg h3]
    have b1 : (k == 1) = false := by simp [h1]
    have b2 : (k == 2) = false := by simp [h2]
    have b3 : (k == 3) = false := by simp [h3]
    go_enter Try.func64, Try.ntmps64
    go_wp2
    go_ret
    exact ⟨rfl, rfl⟩

theorem kind_any (p : Int) (w : World) : Calls Try.prog 57 #[.int .i64 p] w fun e w' => e = .returned (.int .i64 (kindV p)) ∧ w' = w := by
  unfold kindV
  by_cases h1 : p = 1
  · subst h1
    go_enter Try.func57, Try.ntmps57
    go_wp2
    go_ret
    exact ⟨rfl, rfl⟩
  by_cases h2 : p = 17
  · subst h2
    go_enter Try.func57, Try.ntmps57
    go_wp2
    go_ret
    exact ⟨rfl, rfl⟩
  by_cases h3 : p = 6
  · subst h3
    go_enter Try.func57, Try.ntmps57
    go_wp2
    go_ret
    exact ⟨rfl, rfl⟩
  · rw [if_neg h1, if_neg h2, if_neg h3]
    have b1 : (p == 1) = false := by simp [h1]
    have b2 : (p == 17) = false := by simp [h2]
    have b3 : (p == 6) = false := by simp [h3]
    go_enter Try.func57, Try.ntmps57
    go_wp2
    go_ret
    exact ⟨rfl, rfl⟩
end Go.Proofs.Ytgonckbdkgiddaa
