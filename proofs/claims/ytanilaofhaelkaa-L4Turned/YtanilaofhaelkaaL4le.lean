/- The walk of L4Turned. Conditions: numbers of their kinds, texts of at most 2^47 bytes. -/
import Derived.Test.YtanilaofhaelkaaL4ld
namespace Go.Proofs.Ytanilaofhaelkaa
open Go.RowKit
theorem turned_any (src dst : Int) (hs : 0 ≤ src ∧ src ≤ 4294967295) (ht : 0 ≤ dst ∧ dst ≤ 4294967295) (x : L4R) (hf : x.Fine) (bit : Int) (w : World) :
    Calls Try.prog 6 #[.int .u32 src, .int .u32 dst, x.v, .int .i64 bit] w fun e w' => e = .returned (.bool true) ∧ Below w.heap.size w w' := by
  obtain ⟨k, ty, co, re, sp, dp, ns, sq, ak, fl, wi, ur, os, ds⟩ := x
  cases hok : (L4R.mk k ty co re sp dp ns sq ak fl wi ur os ds).ok
  · exact turned_no src dst k ty co re sp dp ns sq ak fl wi ur os ds hf hok bit w
  by_cases h0 : k = 0
  · subst h0
    exact turned_opaque src dst hs ht ty co re sp dp ns sq ak fl wi ur os ds hf hok bit w
  cases ns
  · rcases (L4R.okOf hok).kind with h | h | h | h
    · exact absurd h.1 h0
    · obtain rfl : k = 1 := h.1
      exact turned_1 src dst hs ht ty co re sp dp sq ak fl wi ur os ds hf hok bit w
    · obtain rfl : k = 2 := h.1
      exact turned_2 src dst hs ht ty co re sp dp sq ak fl wi ur os ds hf hok bit w
    · obtain rfl : k = 3 := h.1
      exact turned_3 src dst hs ht ty co re sp dp sq ak fl wi ur os ds hf hok bit w
  · exact turned_nosum src dst hs ht k ty co re sp dp sq ak fl wi ur os ds (by simp [h0]) hf hok bit w
end Go.Proofs.Ytanilaofhaelkaa
