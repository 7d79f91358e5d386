/- A nil table: LpmNobody. Conditions: as said. -/
import Derived.Test.YtlopnagajhjmmaaLL
namespace Go.Proofs.Ytlopnagajhjmmaa
open Go.RowKit Tr
set_option maxHeartbeats 1000000 in
theorem len_nil (w : World) : Calls Try.prog 22 #[.pointer none] w fun e w' => e = .returned (.int .i64 0) ∧ w' = w := by
  go_enter Try.func22, Try.ntmps22
  go_wp2_with (first
    | (go_at_call 30; refine (isMade_nil _).mono ?_; rintro e w9 ⟨rfl, rfl⟩; skip)
    | fail)
  go_ret
  exact ⟨rfl, rfl⟩
set_option maxHeartbeats 1000000 in
theorem add_nil (p : BitVec 32) (n v : Int) (w : World) : Calls Try.prog 10 #[.pointer none, .int .u32 p.toNat, .int .i64 n, .int .i64 v] w fun e w' => e = .returned (.int .i64 6) ∧ w' = w := by
  go_enter Try.func10, Try.ntmps10
  go_wp2_with (first
    | (go_at_call 23; refine (check_nil _ _ _).mono ?_; rintro e w9 ⟨rfl, rfl⟩; skip)
    | fail)
  go_ret
  exact ⟨rfl, rfl⟩
set_option maxHeartbeats 1000000 in
theorem remove_nil (p : BitVec 32) (n : Int) (w : World) : Calls Try.prog 12 #[.pointer none, .int .u32 p.toNat, .int .i64 n] w fun e w' => e = .returned (.int .i64 6) ∧ w' = w := by
  go_enter Try.func12, Try.ntmps12
  go_wp2_with (first
    | (go_at_call 23; refine (check_nil _ _ _).mono ?_; rintro e w9 ⟨rfl, rfl⟩; skip)
    | fail)
  go_ret
  exact ⟨rfl, rfl⟩
set_option maxHeartbeats 1000000 in
theorem get_nil (p : BitVec 32) (n : Int) (w : World) : Calls Try.prog 16 #[.pointer none, .int .u32 p.toNat, .int .i64 n] w fun e w' => e = .returned (.tuple #[.int .i64 0, .bool false]) ∧ w' = w := by
  go_enter Try.func16, Try.ntmps16
  go_wp2_with (first
    | (go_at_call 23; refine (check_nil _ _ _).mono ?_; rintro e w9 ⟨rfl, rfl⟩; skip)
    | fail)
  go_ret2
  exact ⟨rfl, rfl⟩
set_option maxHeartbeats 1000000 in
theorem find_nil (p : BitVec 32) (w : World) : Calls Try.prog 14 #[.pointer none, .int .u32 p.toNat] w fun e w' => e = .returned (.tuple #[.agg #[.int .u32 0, .int .i64 0, .int .i64 0], .bool false]) ∧ Below w.heap.size w w' := by
  go_enter Try.func14, Try.ntmps14
  go_wp2_with fail
  refine scope_jumps 0 (fun _ _ => False) (fun _ _ => 0) rfl (fun _ _ h => h.elim) ?_
  intro _
  go_wp2_with (first
    | (go_at_call 30; refine (isMade_nil _).mono ?_; rintro e w9 ⟨rfl, rfl⟩; skip)
    | fail)
  simp only [Exit.jump]
  exact bodyPost_ret (results_route (p := 4) (u := 5) rfl _ _ w.heap.size _ rfl (heap_alloc_new _ _) rfl) rfl ⟨rfl, below1 _ _⟩
set_option maxHeartbeats 1000000 in
theorem routes_nil (w : World) : Calls Try.prog 32 #[.pointer none] w fun e w' => e = .returned (.slice none 0 0) ∧ w' = w := by
  go_enter Try.func32, Try.ntmps32
  go_wp2_with fail
  refine scope_jumps 0 (fun _ _ => False) (fun _ _ => 0) rfl (fun _ _ h => h.elim) ?_
  intro _
  go_wp2_with (first
    | (go_at_call 30; refine (isMade_nil _).mono ?_; rintro e w9 ⟨rfl, rfl⟩; skip)
    | fail)
  simp only [Exit.jump]
  go_ret
  exact ⟨rfl, rfl⟩
end Go.Proofs.Ytlopnagajhjmmaa
