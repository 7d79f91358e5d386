/- What Encode of the reference of dhcp answers: the bytes of any message that fits, or an error. Conditions: numbers of their kinds, options that can be read. -/
import Derived.Test.YtglaheblbomhpaaDK
import Derived.Deep.RegionHeld3
import Derived.Deep.RegionWith
import Derived.Deep.DrawnRows
import Derived.Deep.RegionLaw
namespace Go.Proofs.Ytglaheblbomhpaa
open Go.RowKit
attribute [local go_sem ↓] Go.wp_at_zero Go.wp_at_succ

/-- The reference's first test. -/
def rfixB (op secs flags ch : Int) (n : Nat) : Bool := (op == 1 || op == 2) && (decide (0 ≤ secs ∧ secs ≤ 65535) && (decide (0 ≤ flags ∧ flags ≤ 65535) && (decide (ch < 281474976710656) && decide (n ≤ 64))))

set_option maxHeartbeats 2000000 in
theorem rencode_no1 (op xid secs flags ci yi si gi ch : Int) (a : Option Addr) (n cap : Nat) (w : World) (hy : rfixB op secs flags ch n = false) :
    Calls Try.prog 12 #[dhcpV op xid secs flags ci yi si gi ch (.slice a n cap)] w fun e w' => e = .returned (.tuple #[.slice none 0 0, .int .i64 1]) ∧ Below w.heap.size w w' := by
  unfold rfixB at hy
  unfold dhcpV
  by_cases h1 : op = 1
  · subst h1
    have q1 : ((1 : Int) != 1) = false := by decide
    by_cases c2 : secs < 0
    · clear hy
      go_enter Try.func12, Try.ntmps12
      go_wp2
      go_ret2
      exact ⟨rfl, below1 w _⟩
    by_cases c3 : 65535 < secs
    · clear hy
      go_enter Try.func12, Try.ntmps12
      go_wp2
      go_ret2
      exact ⟨rfl, below1 w _⟩
    by_cases c4 : flags < 0
    · clear hy
      go_enter Try.func12, Try.ntmps12
      go_wp2
      go_ret2
      exact ⟨rfl, below1 w _⟩
    by_cases c5 : 65535 < flags
    · clear hy
      go_enter Try.func12, Try.ntmps12
      go_wp2
      go_ret2
      exact ⟨rfl, below1 w _⟩
    by_cases c6 : 281474976710656 ≤ ch
    · clear hy
      go_enter Try.func12, Try.ntmps12
      go_wp2
      go_ret2
      exact ⟨rfl, below1 w _⟩
    have c7 : (64 : Int) < n := by simp at hy; omega
    clear hy
    go_enter Try.func12, Try.ntmps12
    go_wp2
    go_ret2
    exact ⟨rfl, below1 w _⟩
  have q1 : (op != 1) = true := by simp [h1]
  by_cases h2 : op = 2
  · subst h2
    by_cases c2 : secs < 0
    · clear hy
      go_enter Try.func12, Try.ntmps12
      go_wp2
      go_ret2
      exact ⟨rfl, below1 w _⟩
    by_cases c3 : 65535 < secs
    · clear hy
      go_enter Try.func12, Try.ntmps12
      go_wp2
      go_ret2
      exact ⟨rfl, below1 w _⟩
    by_cases c4 : flags < 0
    · clear hy
      go_enter Try.func12, Try.ntmps12
      go_wp2
      go_ret2
      exact ⟨rfl, below1 w _⟩
    by_cases c5 : 65535 < flags
    · clear hy
      go_enter Try.func12, Try.ntmps12
      go_wp2
      go_ret2
      exact ⟨rfl, below1 w _⟩
    by_cases c6 : 281474976710656 ≤ ch
    · clear hy
      go_enter Try.func12, Try.ntmps12
      go_wp2
      go_ret2
      exact ⟨rfl, below1 w _⟩
    have c7 : (64 : Int) < n := by simp at hy; omega
    clear hy
    go_enter Try.func12, Try.ntmps12
    go_wp2
    go_ret2
    exact ⟨rfl, below1 w _⟩
  · have q2 : (op != 2) = true := by simp [h2]
    clear hy
    go_enter Try.func12, Try.ntmps12
    go_wp2
    go_ret2
    exact ⟨rfl, below1 w _⟩
end Go.Proofs.Ytglaheblbomhpaa
