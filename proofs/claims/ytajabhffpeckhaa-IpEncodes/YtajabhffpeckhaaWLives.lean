/- The function lives of the laws of ip answers true. No condition. -/
import Derived.Test.YtajabhffpeckhaaWHop
namespace Go.Proofs.Ytajabhffpeckhaa
open Go.RowKit

theorem lives_bytes : ipB 0 0 0 64 1 167772161 167772162 [] 8 = [69, 0, 0, 28, 0, 0, 0, 0, 64, 1, 102, 223, 10, 0, 0, 1, 10, 0, 0, 2] := by decide +kernel
theorem lives_hop : hopB [69, 0, 0, 28, 0, 0, 0, 0, 64, 1, 102, 223, 10, 0, 0, 1, 10, 0, 0, 2] = [69, 0, 0, 28, 0, 0, 0, 0, 63, 1, 103, 223, 10, 0, 0, 1, 10, 0, 0, 2] := by decide +kernel
theorem lives_sum : fld (wsum [69, 0, 0, 28, 0, 0, 0, 0, 63, 1, 103, 223, 10, 0, 0, 1, 10, 0, 0, 2]) = 65535 := by decide +kernel
theorem lives_ok : MOk [69, 0, 0, 28, 0, 0, 0, 0, 64, 1, 102, 223, 10, 0, 0, 1, 10, 0, 0, 2] 65535 20 := ⟨by decide, by decide, ⟨by decide +kernel, by decide, by decide⟩, by decide +kernel, by decide +kernel, by decide +kernel⟩

set_option maxHeartbeats 1000000 in
theorem lives_any (w : World) : Calls Try.prog 11 #[] w fun e w' => e = .returned (.bool true) ∧ Below w.heap.size w w' := by
  go_enter Try.func11, Try.ntmps11
  go_wp2_with fail
  refine (encode_yes 0 0 0 64 1 167772161 167772162 [] 8 w (by omega) (by omega) (fun i => by simp) (by decide +kernel)).mono ?_
  rintro e W1 ⟨a1, c1, rfl, ho1, hb1⟩
  rw [lives_bytes] at ho1
  obtain ⟨g, rfl, _, _⟩ := own_some ho1 (by omega)
  have hE : EncS w W1 g 20 c1 [69, 0, 0, 28, 0, 0, 0, 0, 64, 1, 102, 223, 10, 0, 0, 1, 10, 0, 0, 2] := ⟨ho1, hb1, by rw [← lives_bytes]; exact ipB_bd (encOk_yes (by decide +kernel)) (by omega) (by omega) (fun i => by simp), by omega⟩
  have hcc : 20 ≤ c1 := by obtain ⟨_, _, e, h⟩ := own_form ho1; cases e; exact h
  clear ho1 hb1
  go_wp2_with fail
  refine ((hop_any W1 _ 20 c1 _ hE.bs hcc).2 20 lives_ok (by decide +kernel)).mono ?_
  rintro e W2 ⟨g2, rfl, hE2⟩
  rw [lives_hop] at hE2
  have y8 := hE2.cell 8 (by omega)
  have x10 := (hE2.bel.cell (cell_lt (hE.cell 10 (by omega)))).trans (hE.cell 10 (by omega))
  have x11 := (hE2.bel.cell (cell_lt (hE.cell 11 (by omega)))).trans (hE.cell 11 (by omega))
  have hb2 : Below w.heap.size w W2 := hE.bel.trans (hE2.bel.mono hE.bel.size)
  have HE2 : Hid _ := hE2
  clear hE hE2
  go_wp2_with (go_at_call 20; refine (sum_any _ HE2.out.bs).mono ?_; rintro e w' ⟨rfl, nq, rfl⟩; rw [lives_sum])
  go_ret
  exact ⟨rfl, below_drewN hb2 _⟩

theorem lives_from {w W : World} (h : Below w.heap.size w W) : Calls Try.prog 11 #[] W fun e w' => e = .returned (.bool true) ∧ Below w.heap.size w w' :=
  (lives_any W).mono fun _ _ ⟨he, hb⟩ => ⟨he, h.trans (hb.mono h.size)⟩
end Go.Proofs.Ytajabhffpeckhaa
