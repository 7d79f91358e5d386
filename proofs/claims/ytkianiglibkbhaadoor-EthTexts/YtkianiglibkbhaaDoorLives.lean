/- The function lives of the laws answers true. No condition. -/
import Derived.Test.YtkianiglibkbhaaDoorMac

namespace Go.Proofs.YtkianiglibkbhaaDoor
open Go.RowKit

theorem lives_text : strOfNums (macText 2199023255553) = { data := #[48, 50, 58, 48, 48, 58, 48, 48, 58, 48, 48, 58, 48, 48, 58, 48, 49] } := by kernel_rfl

def livesB : List Int := [2, 0, 0, 0, 0, 1, 2, 0, 0, 0, 0, 2, 129, 0, 0, 7, 8, 0]
theorem lives_head : ethV (num (livesB.take 6)) (num ((livesB.drop 6).take 6)) true (num ((livesB.drop 14).take 2)) (num ((livesB.drop 16).take 2)) 18 0 = ethV 2199023255553 2199023255554 true 7 2048 18 0 := by kernel_rfl

set_option maxHeartbeats 1000000 in
theorem lives_any (w : World) : Calls Tryd.prog 8 #[] w fun e w' => e = .returned (.bool true) ∧ Below w.heap.size w w' := by
  go_enter Tryd.func8, Tryd.ntmps8
  go_wp2_with fail
  have hbs := bs_new 5 w #[.int .u8 2, .int .u8 0, .int .u8 0, .int .u8 0, .int .u8 0, .int .u8 1, .int .u8 2, .int .u8 0, .int .u8 0, .int .u8 0, .int .u8 0, .int .u8 2, .int .u8 129, .int .u8 0, .int .u8 0, .int .u8 7, .int .u8 8, .int .u8 0] livesB 18 w.heap.size rfl rfl rfl rfl (by omega)
  refine (head_tagged _ _ 0 18 18 _ hbs (by omega) (by omega) (by omega) (by omega) (by decide) (by decide)).mono ?_
  clear hbs
  rintro e W1 ⟨rfl, hb1⟩
  rw [lives_head]
  unfold ethV
  have hb : Below w.heap.size w W1 := (below1 w _).trans (hb1.mono (by simp))
  clear hb1
  go_wp2_with fail
  refine (macText_any 2199023255553 (by omega) _).mono ?_
  rintro e W2 ⟨rfl, hb2⟩
  rw [lives_text]
  have hb' : Below w.heap.size w W2 := (hb.alloc hb.size _).trans (hb2.mono (by have := hb.size; simp; omega))
  clear hb hb2
  go_wp2
  go_ret
  exact ⟨rfl, hb'⟩

theorem lives_from {w W : World} (h : Below w.heap.size w W) : Calls Tryd.prog 8 #[] W fun e w' => e = .returned (.bool true) ∧ Below w.heap.size w w' :=
  (lives_any W).mono fun _ _ ⟨he, hb⟩ => ⟨he, h.trans (hb.mono h.size)⟩
end Go.Proofs.YtkianiglibkbhaaDoor
