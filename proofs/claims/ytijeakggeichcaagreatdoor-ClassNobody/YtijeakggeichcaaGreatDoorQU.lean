/- A nil classifier. No condition. -/
import Derived.Test.YtijeakggeichcaaGreatDoorQT
import Derived.Lib.Hide
namespace Go.Proofs.YtijeakggeichcaaGreatDoor
open Go.RowKit
set_option maxHeartbeats 1000000 in
theorem len_nil (w : World) : Calls Tryz.prog 12 #[.pointer none] w fun e w' => e = .returned (.int .i64 0) ∧ w' = w := by
  go_enter Tryz.func12, Tryz.ntmps12
  go_wp2_with (first
    | (go_at_call 17; refine (isMade_no _).mono ?_; rintro e w9 ⟨rfl, rfl⟩; skip)
    | fail)
  go_ret
  exact ⟨rfl, rfl⟩
set_option maxHeartbeats 1000000 in
theorem tuples_nil (w : World) : Calls Tryz.prog 16 #[.pointer none] w fun e w' => e = .returned (.int .i64 0) ∧ w' = w := by
  go_enter Tryz.func16, Tryz.ntmps16
  go_wp2_with (first
    | (go_at_call 17; refine (isMade_no _).mono ?_; rintro e w9 ⟨rfl, rfl⟩; skip)
    | fail)
  go_ret
  exact ⟨rfl, rfl⟩
set_option maxHeartbeats 1000000 in
theorem remove_nil (n : Int) (w : World) : Calls Tryz.prog 14 #[.pointer none, .int .i64 n] w fun e w' => e = .returned (.int .i64 6) ∧ w' = w := by
  go_enter Tryz.func14, Tryz.ntmps14
  go_wp2_with (first
    | (go_at_call 17; refine (isMade_no _).mono ?_; rintro e w9 ⟨rfl, rfl⟩; skip)
    | fail)
  go_ret
  exact ⟨rfl, rfl⟩
set_option maxHeartbeats 1000000 in
theorem shadowed_nil (w : World) : Calls Tryz.prog 13 #[.pointer none] w fun e w' => e = .returned (.slice none 0 0) ∧ w' = w := by
  go_enter Tryz.func13, Tryz.ntmps13
  go_wp2_with (first
    | (go_at_call 17; refine (isMade_no _).mono ?_; rintro e w9 ⟨rfl, rfl⟩; skip)
    | fail)
  go_ret
  exact ⟨rfl, rfl⟩
set_option maxHeartbeats 1000000 in
theorem add_nil (p id : Int) (s : Value) (w : World) : Calls Tryz.prog 9 #[.pointer none, .agg (ruC p s id)] w fun e w' => e = .returned (.int .i64 6) ∧ Below w.heap.size w w' := by
  go_enter Tryz.func9, Tryz.ntmps9
  go_wp2_with (first
    | (go_at_call 17; refine (isMade_no _).mono ?_; rintro e w9 ⟨rfl, rfl⟩; skip)
    | fail)
  go_ret
  exact ⟨rfl, below1 _ _⟩
set_option maxRecDepth 100000 in
set_option maxHeartbeats 2000000 in
theorem find_nil (cs : Array Value) (w : World) : Calls Tryz.prog 10 #[.pointer none, .agg cs] w fun e w' => e = .returned (.tuple #[.agg ruZ, .bool false]) ∧ Below w.heap.size w w' := by
  have Z0 : Hid _ := two_last w (.cells cs 50) (.cells ruZ 29)
  go_enter Tryz.func10, Tryz.ntmps10
  go_wp2_with (first
    | (go_at_call 17; refine (isMade_no _).mono ?_; rintro e w9 ⟨rfl, hw9⟩; rw [hw9]; clear hw9)
    | refine wpList_build_as rfl 29 _ rfl ruZ (by rw [List.map_toArray]; exact build_rule0) ?_
    | refine wpList_store_row rfl 29 _ _ rfl (w.heap.size + 1) ruZ ruZ 29 rfl rfl Z0.out size3r rfl (ru_one _ _ _ rfl) ?_
    | fail)
  intro W9 z1 z2 z3 z4
  go_wp2
  exact bodyPost_ret (results_rule (p := 4) (u := 5) rfl _ _ (w.heap.size + 1) ruZ rfl z1 rfl) rfl ⟨rfl, (below2 w _ _).trans (z4.mono (by omega))⟩
end Go.Proofs.YtijeakggeichcaaGreatDoor
