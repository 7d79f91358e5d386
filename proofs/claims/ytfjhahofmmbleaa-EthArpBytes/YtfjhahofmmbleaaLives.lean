/- The function lives of the laws answers true. No condition. -/
import Derived.Test.YtfjhahofmmbleaaMac
import Derived.Test.YtfjhahofmmbleaaREnc

namespace Go.Proofs.Ytfjhahofmmbleaa
open Go.RowKit

theorem lives_head : headV [2, 0, 0, 0, 0, 1, 2, 0, 0, 0, 0, 2, 129, 0, 0, 7, 8, 0] = ethV 2199023255553 2199023255554 true 7 2048 18 0 := by kernel_rfl
theorem lives_text : strOfNums (macText 2199023255553) = { data := #[48, 50, 58, 48, 48, 58, 48, 48, 58, 48, 48, 58, 48, 48, 58, 48, 49] } := by kernel_rfl

set_option maxHeartbeats 1000000 in
theorem lives_any (w : World) : Calls Try.prog 10 #[] w fun e w' => e = .returned (.bool true) ∧ Below w.heap.size w w' := by
  go_enter Try.func10, Try.ntmps10
  go_wp2_with fail
  have hbs := bs_new 5 w #[.int .u8 2, .int .u8 0, .int .u8 0, .int .u8 0, .int .u8 0, .int .u8 1, .int .u8 2, .int .u8 0, .int .u8 0, .int .u8 0, .int .u8 0, .int .u8 2, .int .u8 129, .int .u8 0, .int .u8 0, .int .u8 7, .int .u8 8, .int .u8 0] [2, 0, 0, 0, 0, 1, 2, 0, 0, 0, 0, 2, 129, 0, 0, 7, 8, 0] 18 w.heap.size rfl rfl rfl rfl (by omega)
  refine (head_any 18 hbs (by omega) (by omega)).mono ?_
  clear hbs
  rintro e W1 ⟨rfl, hb1⟩
  rw [lives_head]
  unfold ethV
  have hb : Below w.heap.size w W1 := (below1 w _).trans (hb1.mono (by simp))
  clear hb1
  go_wp2_with fail
  refine (macText_any 2199023255553 (by omega) _).mono ?_
  rintro e W2 ⟨rfl, hb2⟩
  rw [lives_text]
  have hb' : Below w.heap.size w W2 := (hb.alloc hb.size _).trans (hb2.mono (by have := hb.size; simp; omega))
  clear hb hb2
  go_wp2
  go_ret
  exact ⟨rfl, hb'⟩

theorem lives_from {w W : World} (h : Below w.heap.size w W) : Calls Try.prog 10 #[] W fun e w' => e = .returned (.bool true) ∧ Below w.heap.size w w' :=
  (lives_any W).mono fun _ _ ⟨he, hb⟩ => ⟨he, h.trans (hb.mono h.size)⟩
end Go.Proofs.Ytfjhahofmmbleaa
