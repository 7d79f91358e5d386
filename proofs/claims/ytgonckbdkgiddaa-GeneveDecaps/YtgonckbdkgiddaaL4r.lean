/- What read of package l4 answers of opaque packets and of TCP. Condition: a slice of at most 2^47 bytes. -/
import Derived.Test.YtgonckbdkgiddaaL4i
namespace Go.Proofs.Ytgonckbdkgiddaa
open Go.RowKit
set_option maxHeartbeats 2000000 in
theorem read_opaque (w : World) (a : Option Addr) (n cap : Nat) (zs : List Int) (h : BS w a n zs) (hcap : n ≤ cap) (ha : ∀ x, a = some x → ∃ b off, x = ⟨b, off, none⟩) (h0 : a = none → cap = 0) :
    Calls Try.prog 60 #[.int .i64 0, .slice a n cap] w fun e w' => e = .returned (.agg #[.int .i64 0, .int .i64 0, .int .i64 0, .int .u32 0, .int .i64 0, .int .i64 0, .bool false, .int .u32 0, .int .u32 0, .int .i64 0, .int .i64 0, .int .i64 0, .string ⟨#[]⟩, .string (strOfNums zs)]) ∧ ∃ A B C D, w' = (((w.alloc A).alloc B).alloc C).alloc D := by
  have hnc : (n : Int) ≤ cap := by omega
  have cv : ∀ (hh : Array Value) (t : Int), (convert 26 9 (.slice a n cap)).run Try.prog ((((w.alloc (.cells #[.slice a n cap] 26)).alloc (.cells #[.int .i64 0, .int .i64 0, .int .i64 0, .int .u32 0, .int .i64 0, .int .i64 0, .bool false, .int .u32 0, .int .u32 0, .int .i64 0, .int .i64 0, .int .i64 0, .string ⟨#[]⟩, .string ⟨#[]⟩] 48)).alloc (.cells hh 48)).alloc (.cells #[.int .i64 t] 3)) = .ok (.string (strOfNums zs)) ((((w.alloc (.cells #[.slice a n cap] 26)).alloc (.cells #[.int .i64 0, .int .i64 0, .int .i64 0, .int .u32 0, .int .i64 0, .int .i64 0, .bool false, .int .u32 0, .int .u32 0, .int .i64 0, .int .i64 0, .int .i64 0, .string ⟨#[]⟩, .string ⟨#[]⟩] 48)).alloc (.cells hh 48)).alloc (.cells #[.int .i64 t] 3)) := fun hh t =>
    run_conv_bs _ (h.below (below4 _ _ _ _ _)) 26 9 5 Try.underlying26 Try.underlying5 Try.underlying9
  have hl := h.len
  clear h
  rcases a with _ | x
  · obtain rfl := h0 rfl
    obtain rfl : n = 0 := by omega
    go_enter Try.func60, Try.ntmps60
    go_wp2
    refine bodyPost_ret (v := .agg #[.int .i64 0, .int .i64 0, .int .i64 0, .int .u32 0, .int .i64 0, .int .i64 0, .bool false, .int .u32 0, .int .u32 0, .int .i64 0, .int .i64 0, .int .i64 0, .string ⟨#[]⟩, .string (strOfNums zs)]) ?_ rfl ⟨rfl, ?_⟩
    · simp [results, Try.results60, go_sem]
    · exact ⟨_, _, _, _, rfl⟩
  · obtain ⟨b, off, rfl⟩ := ha _ rfl
    rcases (by omega : ¬ cap = 0 ∨ cap = 0) with hc | rfl
    · go_enter Try.func60, Try.ntmps60
      go_wp2
      refine bodyPost_ret (v := .agg #[.int .i64 0, .int .i64 0, .int .i64 0, .int .u32 0, .int .i64 0, .int .i64 0, .bool false, .int .u32 0, .int .u32 0, .int .i64 0, .int .i64 0, .int .i64 0, .string ⟨#[]⟩, .string (strOfNums zs)]) ?_ rfl ⟨rfl, ?_⟩
      · simp [results, Try.results60, go_sem]
      · exact ⟨_, _, _, _, rfl⟩
    · obtain rfl : n = 0 := by omega
      go_enter Try.func60, Try.ntmps60
      go_wp2
      refine bodyPost_ret (v := .agg #[.int .i64 0, .int .i64 0, .int .i64 0, .int .u32 0, .int .i64 0, .int .i64 0, .bool false, .int .u32 0, .int .u32 0, .int .i64 0, .int .i64 0, .int .i64 0, .string ⟨#[]⟩, .string (strOfNums zs)]) ?_ rfl ⟨rfl, ?_⟩
      · simp [results, Try.results60, go_sem]
      · exact ⟨_, _, _, _, rfl⟩
end Go.Proofs.Ytgonckbdkgiddaa
