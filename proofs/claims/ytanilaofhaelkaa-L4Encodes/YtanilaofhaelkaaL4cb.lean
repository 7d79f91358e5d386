/- The document's two; its Encode of opaque packets, by its Check. Conditions: as said. -/
import Derived.Test.YtanilaofhaelkaaL4n
namespace Go.Proofs.Ytanilaofhaelkaa
open Go.RowKit Go.Lib

/-- A number in two bytes, made by the document's two. -/
theorem two_any (x : Int) (hx : 0 ≤ x ∧ x ≤ 9223372036854775807) (w : World) :
    Calls Try.prog 32 #[.int .i64 x] w fun e w' => e = .returned (.slice (some ⟨w.heap.size, 0, none⟩) 2 2) ∧ w' = w.alloc (.cells ((be x 2).map (Value.int .u8)).toArray 5) := by
  have hu : IntKind.u64.wrap x = x := by simp [IntKind.wrap, IntKind.bits, IntKind.signed]; omega
  go_enter Try.func32, Try.ntmps32
  go_wp2_with fail
  refine (made2 x (by omega) _).mono ?_
  rintro e w' ⟨rfl, hw'⟩
  rw [hw']
  clear hw'
  go_wp2
  go_ret
  exact ⟨rfl, rfl⟩
end Go.Proofs.Ytanilaofhaelkaa
