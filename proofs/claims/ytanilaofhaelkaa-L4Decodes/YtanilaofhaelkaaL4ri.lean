/- The document's Decode of opaque packets. Condition: a slice of at most 2^47 bytes. -/
import Derived.Test.YtanilaofhaelkaaL4ra
namespace Go.Proofs.Ytanilaofhaelkaa
open Go.RowKit
set_option maxHeartbeats 2000000 in
theorem rdec_opaque (src dst p : Int) (h1 : (p == 1) = false) (h2 : (p == 17) = false) (h3 : (p == 6) = false) (w : World) (a : Option Addr) (n cap : Nat) (zs : List Int) (h : BS w a n zs) :
    Calls Try.prog 8 #[.int .u32 src, .int .u32 dst, .int .i64 p, .slice a n cap] w fun e w' => e = .returned (.tuple #[.agg #[.int .i64 0, .int .i64 0, .int .i64 0, .int .u32 0, .int .i64 0, .int .i64 0, .bool false, .int .u32 0, .int .u32 0, .int .i64 0, .int .i64 0, .int .i64 0, .string ⟨#[]⟩, .string (strOfNums zs)], .int .i64 0]) ∧ Below w.heap.size w w' := by
  have hcv := run_conv_bs (P := Try.prog) cap (h.below (below1 w (.cells #[.int .i64 0, .int .i64 0, .int .i64 0, .int .u32 0, .int .i64 0, .int .i64 0, .bool false, .int .u32 0, .int .u32 0, .int .i64 0, .int .i64 0, .int .i64 0, .string ⟨#[]⟩, .string ⟨#[]⟩] 25))) 23 9 5 Try.underlying23 Try.underlying5 Try.underlying9
  clear h
  go_enter Try.func8, Try.ntmps8
  go_wp2
  refine bodyPost_ret (v := .tuple #[.agg #[.int .i64 0, .int .i64 0, .int .i64 0, .int .u32 0, .int .i64 0, .int .i64 0, .bool false, .int .u32 0, .int .u32 0, .int .i64 0, .int .i64 0, .int .i64 0, .string ⟨#[]⟩, .string (strOfNums zs)], .int .i64 0]) ?_ rfl ⟨rfl, ?_⟩
  · simp [results, Try.results8, go_sem]
  · exact below1 w _
end Go.Proofs.Ytanilaofhaelkaa
