/- Small functions of package act. No condition. -/
import Derived.Test.YtikbjckcnidimaaGreatDoorAA
namespace Go.Proofs.YtikbjckcnidimaaGreatDoor
open Go.RowKit
/-- An action by its cells. -/
abbrev actV (k f fr v m t p : Int) (acts ways : Value) (l0 l1 l2 l3 l4 l5 : Int) : Value := .agg #[.int .i64 k, .int .i64 f, .int .i64 fr, .int .u64 v, .int .u64 m, .int .i64 t, .int .i64 p, acts, ways, .int .u64 l0, .int .u32 l1, .int .u32 l2, .int .u32 l3, .int .u32 l4, .int .u32 l5]
theorem arow_lit (k : Nat) (hk : k < 15) (a b c : Value) (he : tabC.extract (k * 3) (k * 3 + 3) = #[a, b, c]) (w : World) : Calls Tryz.prog 25 #[.int .i64 k] w fun e w' => e = .returned (.agg #[a, b, c]) ∧ Below w.heap.size w w' := by
  rw [← he]; exact arow_in k hk w
theorem arow_0 (w : World) : Calls Tryz.prog 25 #[.int .i64 0] w fun e w' => e = .returned (.agg #[.nilFunc, .nilFunc, .nilFunc]) ∧ Below w.heap.size w w' := arow_lit 0 (by omega) _ _ _ (by kernel_rfl) w
theorem arow_3 (w : World) : Calls Tryz.prog 25 #[.int .i64 3] w fun e w' => e = .returned (.agg #[fnV 50, fnV 58, fnV 59]) ∧ Below w.heap.size w w' := arow_lit 3 (by omega) _ _ _ (by kernel_rfl) w
theorem arow_5 (w : World) : Calls Tryz.prog 25 #[.int .i64 5] w fun e w' => e = .returned (.agg #[fnV 62, fnV 58, .nilFunc]) ∧ Below w.heap.size w w' := arow_lit 5 (by omega) _ _ _ (by kernel_rfl) w
theorem arow_10 (w : World) : Calls Tryz.prog 25 #[.int .i64 10] w fun e w' => e = .returned (.agg #[fnV 64, fnV 65, fnV 66]) ∧ Below w.heap.size w w' := arow_lit 10 (by omega) _ _ _ (by kernel_rfl) w
theorem arow_11 (w : World) : Calls Tryz.prog 25 #[.int .i64 11] w fun e w' => e = .returned (.agg #[fnV 67, fnV 68, fnV 69]) ∧ Below w.heap.size w w' := arow_lit 11 (by omega) _ _ _ (by kernel_rfl) w
theorem neq_strip (f : Nat) (W : World) : (binOp .neq 69 (fnV f) .nilFunc).run Tryz.prog W = .ok (.bool true) W := by
  first | kernel_rfl | simp [binOp, go_sem]
theorem neq_strip0 (W : World) : (binOp .neq 69 .nilFunc .nilFunc).run Tryz.prog W = .ok (.bool false) W := by
  first | kernel_rfl | simp [binOp, go_sem]
theorem neq_step (f : Nat) (W : World) : (binOp .neq 52 (fnV f) .nilFunc).run Tryz.prog W = .ok (.bool true) W := by
  first | kernel_rfl | simp [binOp, go_sem]
theorem neq_step0 (W : World) : (binOp .neq 52 .nilFunc .nilFunc).run Tryz.prog W = .ok (.bool false) W := by
  first | kernel_rfl | simp [binOp, go_sem]
set_option maxRecDepth 20000 in
set_option maxHeartbeats 400000 in
theorem isKind_yes (f : Nat) (b c : Value) (w : World) : Calls Tryz.prog 43 #[.agg #[fnV f, b, c]] w fun e w' => e = .returned (.bool true) ∧ Below w.heap.size w w' := by
  have hne := neq_strip f
  go_enter Tryz.func43, Tryz.ntmps43
  go_wp2
  go_ret
  exact ⟨rfl, below1 _ _⟩
set_option maxRecDepth 20000 in
set_option maxHeartbeats 400000 in
theorem isKind_no (b c : Value) (w : World) : Calls Tryz.prog 43 #[.agg #[.nilFunc, b, c]] w fun e w' => e = .returned (.bool false) ∧ Below w.heap.size w w' := by
  have hne := neq_strip0
  go_enter Tryz.func43, Tryz.ntmps43
  go_wp2
  go_ret
  exact ⟨rfl, below1 _ _⟩
set_option maxHeartbeats 400000 in
theorem isAny_any (cs : Array Value) (w : World) : Calls Tryz.prog 58 #[.agg cs] w fun e w' => e = .returned (.bool true) ∧ Below w.heap.size w w' := by
  go_enter Tryz.func58, Tryz.ntmps58
  go_wp2
  go_ret
  exact ⟨rfl, below1 _ _⟩
set_option maxHeartbeats 400000 in
theorem isMac_any (k f fr v m t p : Int) (acts ways : Value) (l0 l1 l2 l3 l4 l5 : Int) (w : World) : Calls Tryz.prog 68 #[actV k f fr v m t p acts ways l0 l1 l2 l3 l4 l5] w fun e w' => e = .returned (.bool (decide (v ≤ 281474976710655))) ∧ Below w.heap.size w w' := by
  go_enter Tryz.func68, Tryz.ntmps68
  go_wp2
  go_ret
  exact ⟨rfl, below1 _ _⟩
set_option maxHeartbeats 400000 in
theorem strip_none (x : Value) (w : World) : Calls Tryz.prog 50 #[x] w fun e w' => e = .returned (.tuple #[]) ∧ w' = w := by
  go_enter Tryz.func50, Tryz.ntmps50
  go_wp2
  go_end0
  exact ⟨rfl, rfl⟩
set_option maxHeartbeats 400000 in
theorem strip_acts (b : Nat) (w : World) (x : Value) (h7 : w.cell? ⟨b, 7, none⟩ = some x) (hf : w.frozen? ⟨b, 7, none⟩ = false) : Calls Tryz.prog 62 #[.pointer (some ⟨b, 0, none⟩)] w fun e w' => e = .returned (.tuple #[]) ∧ w' = w.setCell ⟨b, 7, none⟩ (.slice none 0 0) := by
  go_enter Tryz.func62, Tryz.ntmps62
  go_wp2
  go_end0
  exact ⟨rfl, rfl⟩
set_option maxHeartbeats 400000 in
theorem strip_ways (b : Nat) (w : World) (x : Value) (h7 : w.cell? ⟨b, 8, none⟩ = some x) (hf : w.frozen? ⟨b, 8, none⟩ = false) : Calls Tryz.prog 64 #[.pointer (some ⟨b, 0, none⟩)] w fun e w' => e = .returned (.tuple #[]) ∧ w' = w.setCell ⟨b, 8, none⟩ (.slice none 0 0) := by
  go_enter Tryz.func64, Tryz.ntmps64
  go_wp2
  go_end0
  exact ⟨rfl, rfl⟩
set_option maxHeartbeats 400000 in
theorem strip_value (b : Nat) (w : World) (x : Value) (h7 : w.cell? ⟨b, 3, none⟩ = some x) (hf : w.frozen? ⟨b, 3, none⟩ = false) : Calls Tryz.prog 67 #[.pointer (some ⟨b, 0, none⟩)] w fun e w' => e = .returned (.tuple #[]) ∧ w' = w.setCell ⟨b, 3, none⟩ (.int .u64 0) := by
  go_enter Tryz.func67, Tryz.ntmps67
  go_wp2
  go_end0
  exact ⟨rfl, rfl⟩
set_option maxHeartbeats 1000000 in
theorem isBare_yes (k : Int) (a b : Option Addr) (c d : Nat) (w : World) : Calls Tryz.prog 44 #[actV k 0 0 0 0 0 0 (.slice a 0 c) (.slice b 0 d) 0 0 0 0 0 0] w fun e w' => e = .returned (.bool true) ∧ Below w.heap.size w w' := by
  go_enter Tryz.func44, Tryz.ntmps44
  go_wp2
  go_ret
  exact ⟨rfl, below1 _ _⟩
set_option maxHeartbeats 400000 in
theorem areRight_nil (a : Option Addr) (c : Nat) (d : Int) (w : World) : Calls Tryz.prog 22 #[.slice a 0 c, .int .i64 d] w fun e w' => e = .returned (.bool true) ∧ w' = w := by
  go_enter Tryz.func22, Tryz.ntmps22
  go_wp2
  go_loop [9] (fun i => i = .int .i64 0) (fun _ => 0)
  case atStart => rfl
  case round =>
    subst hrel
    go_wp2
    go_ret
    exact ⟨rfl, rfl⟩
end Go.Proofs.YtikbjckcnidimaaGreatDoor
