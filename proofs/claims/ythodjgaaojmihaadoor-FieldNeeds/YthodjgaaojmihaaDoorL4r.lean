/- What read of package l4 answers of opaque packets and of TCP. Condition: a slice of at most 2^47 bytes. -/
import Derived.Test.YthodjgaaojmihaaDoorL4i
namespace Go.Proofs.YthodjgaaojmihaaDoor
open Go.RowKit
set_option maxHeartbeats 2000000 in
theorem read_opaque (w : World) (a : Option Addr) (n cap : Nat) (zs : List Int) (h : BS w a n zs) (hcap : n ≤ cap) (ha : ∀ x, a = some x → ∃ b off, x = ⟨b, off, none⟩) (h0 : a = none → cap = 0) :
    Calls Tryd.prog 31 #[.int .i64 0, .slice a n cap] w fun e w' => e = .returned (.agg #[.int .i64 0, .int .i64 0, .int .i64 0, .int .u32 0, .int .i64 0, .int .i64 0, .bool false, .int .u32 0, .int .u32 0, .int .i64 0, .int .i64 0, .int .i64 0, .string ⟨#[]⟩, .string (strOfNums zs)]) ∧ ∃ A B C D, w' = (((w.alloc A).alloc B).alloc C).alloc D := by
  have hnc : (n : Int) ≤ cap := by omega
  have cv : ∀ (hh : Array Value) (t : Int), (convert 22 9 (.slice a n cap)).run Tryd.prog ((((w.alloc (.cells #[.slice a n cap] 22)).alloc (.cells #[.int .i64 0, .int .i64 0, .int .i64 0, .int .u32 0, .int .i64 0, .int .i64 0, .bool false, .int .u32 0, .int .u32 0, .int .i64 0, .int .i64 0, .int .i64 0, .string ⟨#[]⟩, .string ⟨#[]⟩] 32)).alloc (.cells hh 32)).alloc (.cells #[.int .i64 t] 3)) = .ok (.string (strOfNums zs)) ((((w.alloc (.cells #[.slice a n cap] 22)).alloc (.cells #[.int .i64 0, .int .i64 0, .int .i64 0, .int .u32 0, .int .i64 0, .int .i64 0, .bool false, .int .u32 0, .int .u32 0, .int .i64 0, .int .i64 0, .int .i64 0, .string ⟨#[]⟩, .string ⟨#[]⟩] 32)).alloc (.cells hh 32)).alloc (.cells #[.int .i64 t] 3)) := fun hh t =>
    run_conv_bs _ (h.below (below4 _ _ _ _ _)) 22 9 5 Tryd.underlying22 Tryd.underlying5 Tryd.underlying9
  have hl := h.len
  clear h
  rcases a with _ | x
  · obtain rfl := h0 rfl
    obtain rfl : n = 0 := by omega
    go_enter Tryd.func31, Tryd.ntmps31
    go_wp2
    refine bodyPost_ret (v := .agg #[.int .i64 0, .int .i64 0, .int .i64 0, .int .u32 0, .int .i64 0, .int .i64 0, .bool false, .int .u32 0, .int .u32 0, .int .i64 0, .int .i64 0, .int .i64 0, .string ⟨#[]⟩, .string (strOfNums zs)]) ?_ rfl ⟨rfl, ?_⟩
    · simp [results, Tryd.results31, go_sem]
    · exact ⟨_, _, _, _, rfl⟩
  · obtain ⟨b, off, rfl⟩ := ha _ rfl
    rcases (by omega : ¬ cap = 0 ∨ cap = 0) with hc | rfl
    · go_enter Tryd.func31, Tryd.ntmps31
      go_wp2
      refine bodyPost_ret (v := .agg #[.int .i64 0, .int .i64 0, .int .i64 0, .int .u32 0, .int .i64 0, .int .i64 0, .bool false, .int .u32 0, .int .u32 0, .int .i64 0, .int .i64 0, .int .i64 0, .string ⟨#[]⟩, .string (strOfNums zs)]) ?_ rfl ⟨rfl, ?_⟩
      · simp [results, Tryd.results31, go_sem]
      · exact ⟨_, _, _, _, rfl⟩
    · obtain rfl : n = 0 := by omega
      go_enter Tryd.func31, Tryd.ntmps31
      go_wp2
      refine bodyPost_ret (v := .agg #[.int .i64 0, .int .i64 0, .int .i64 0, .int .u32 0, .int .i64 0, .int .i64 0, .bool false, .int .u32 0, .int .u32 0, .int .i64 0, .int .i64 0, .int .i64 0, .string ⟨#[]⟩, .string (strOfNums zs)]) ?_ rfl ⟨rfl, ?_⟩
      · simp [results, Tryd.results31, go_sem]
      · exact ⟨_, _, _, _, rfl⟩
end Go.Proofs.YthodjgaaojmihaaDoor
