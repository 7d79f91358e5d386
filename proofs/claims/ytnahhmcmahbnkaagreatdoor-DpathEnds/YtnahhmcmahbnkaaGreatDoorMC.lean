/- allBits, isTermRight, Check, checkBoth, agree of package match. Conditions: the terms can be read. -/
import Derived.Test.YtnahhmcmahbnkaaGreatDoorMB
namespace Go.Proofs.YtnahhmcmahbnkaaGreatDoor
open Go.RowKit

/-- The mask of all bits of a field; 0 of none. -/
def abN (f : Int) : Nat := if 1 ≤ f ∧ f ≤ 28 then 2 ^ fBits f.toNat - 1 else 0
theorem ones_N (f : Int) (h1 : 1 ≤ f) (h2 : f ≤ 28) : ((abN f : Nat) : Int) = 2 ^ fBits f.toNat - 1 := by
  unfold abN
  rw [if_pos ⟨h1, h2⟩]
  have : 1 ≤ 2 ^ fBits f.toNat := Nat.one_le_two_pow
  rw [Int.ofNat_sub this]; simp
theorem abN_lt (f : Int) : abN f < 2 ^ 64 := by
  unfold abN
  split
  · have := fBits_le f.toNat
    have h2 : 2 ^ fBits f.toNat ≤ 2 ^ 48 := Nat.pow_le_pow_right (by omega) this
    omega
  · omega
theorem ret_i {k : IntKind} {a b : Int} (h : a = b) : Ending.returned (.int k a) = .returned (.int k b) := by rw [h]
set_option maxHeartbeats 400000 in
theorem allBits_any (f : Int) (w : World) : Calls Tryz.prog 47 #[.int .i64 f] w fun e w' => e = .returned (.int .u64 (abN f : Nat)) ∧ Below w.heap.size w w' := by
  by_cases h : 1 ≤ f ∧ f ≤ 28
  · obtain ⟨k, rfl⟩ := Int.eq_ofNat_of_zero_le (show 0 ≤ f by omega)
    rw [ones_N _ h.1 h.2]
    go_enter Tryz.func47, Tryz.ntmps47
    go_wp2_with fail
    refine (bits_any k (by omega) (by omega) _).mono ?_
    rintro e W1 ⟨rfl, hb1⟩
    go_wp2
    go_ret
    exact ⟨congrArg (fun x => Ending.returned (.int .u64 x)) (ones_min k), hb1⟩
  · have e : abN f = 0 := if_neg h
    rw [e]
    go_enter Tryz.func47, Tryz.ntmps47
    go_wp2_with fail
    refine (bits_none f (by omega) _).mono ?_
    rintro e W1 ⟨rfl, hb1⟩
    go_wp2
    go_ret
    exact ⟨rfl, hb1⟩
/-- Is a term by itself in form? -/
def okI (f v m : Int) : Bool := (m != 0) && ((bits BinOp.andNot IntKind.u64 m (abN f : Nat)) == 0) && ((bits BinOp.andNot IntKind.u64 v m) == 0)

set_option maxHeartbeats 1000000 in
set_option maxRecDepth 20000 in
theorem termRight_zero (f v m : Int) (h : (m != 0) = false) (w : World) : Calls Tryz.prog 69 #[.agg #[.int .i64 f, .int .u64 v, .int .u64 m]] w fun e w' => e = .returned (.bool false) ∧ Below w.heap.size w w' := by
  go_enter Tryz.func69, Tryz.ntmps69
  go_wp2_with fail
  go_quiet (fail)
  go_wp2
  go_ret
  exact ⟨rfl, below_drewN (below1 _ _) _⟩

set_option linter.unusedSimpArgs false in
set_option maxHeartbeats 1000000 in
set_option maxRecDepth 20000 in
theorem termRight_no (f v m : Int) (h : (m != 0) = true) (h2 : ((bits BinOp.andNot IntKind.u64 m (abN f : Nat)) == 0) = false) (w : World) : Calls Tryz.prog 69 #[.agg #[.int .i64 f, .int .u64 v, .int .u64 m]] w fun e w' => e = .returned (.bool false) ∧ Below w.heap.size w w' := by
  obtain ⟨A, hA⟩ : ∃ A : Int, A = (abN f : Nat) := ⟨_, rfl⟩
  rw [← hA] at h2
  have HA : Hid _ := hA
  clear hA
  have key : ∀ W, Below (w.heap.size + 1) (w.alloc (.cells #[.int .i64 f, .int .u64 v, .int .u64 m] 118)) W → W.cell? ⟨w.heap.size, 0, none⟩ = some (.int .i64 f) ∧ W.cell? ⟨w.heap.size, 1, none⟩ = some (.int .u64 v) ∧ W.cell? ⟨w.heap.size, 2, none⟩ = some (.int .u64 m) ∧ Below (w.heap.size + 1) (w.alloc (.cells #[.int .i64 f, .int .u64 v, .int .u64 m] 118)) W := fun W hb => by
    have q : W.heap[w.heap.size]? = some (.cells #[.int .i64 f, .int .u64 v, .int .u64 m] 118 (0, 0)) := (hb.block _ (by omega)).trans (heap_alloc_new _ _)
    exact ⟨cell_row q 0, cell_row q 1, cell_row q 2, hb⟩
  have KC : Hid _ := key
  clear key
  go_enter Tryz.func69, Tryz.ntmps69
  go_wp2_with fail
  · refine wp_region_held_drew (S := (fun W => W.cell? ⟨w.heap.size, 0, none⟩ = some (.int .i64 f) ∧ W.cell? ⟨w.heap.size, 1, none⟩ = some (.int .u64 v) ∧ W.cell? ⟨w.heap.size, 2, none⟩ = some (.int .u64 m) ∧ Below (w.heap.size + 1) (w.alloc (.cells #[.int .i64 f, .int .u64 v, .int .u64 m] 118)) W)) (by kernel_rfl) ?_ (fun hHeld => ?_)
    · exact KC.out _ (Below.refl _ _).drew
    refine wpAnyH_take (i := 0) (v := ?_) rfl (by kernel_rfl) (by kernel_rfl) (by kernel_rfl) (fun _ _ _ h => h) (Or.inl ⟨by rfl, ?_⟩) (by assumption) ?_
    rotate_left
    · (intro w hSw; (try dsimp only at hSw); go_simp; try with_reducible rfl)
    try simp only [List.getElem_toArray, List.getElem_cons_zero, List.getElem_cons_succ, Act.put, List.setIfInBounds_toArray, List.set_cons_zero, List.set_cons_succ]
    refine wpAnyH_take (i := 1) (v := ?_) rfl (by kernel_rfl) (by kernel_rfl) (by kernel_rfl) (fun _ _ _ h => h) (Or.inl ⟨by rfl, ?_⟩) (by assumption) ?_
    rotate_left
    · (intro w hSw; (try dsimp only at hSw); go_simp; try with_reducible rfl)
    try simp only [List.getElem_toArray, List.getElem_cons_zero, List.getElem_cons_succ, Act.put, List.setIfInBounds_toArray, List.set_cons_zero, List.set_cons_succ]
    refine wpAnyH_take (i := 2) (v := ?_) rfl (by kernel_rfl) (by kernel_rfl) (by kernel_rfl) (fun _ _ _ h => h) (Or.inl ⟨by rfl, ?_⟩) (by assumption) ?_
    rotate_left
    · (intro w hSw; (try dsimp only at hSw); go_simp; try with_reducible rfl)
    try simp only [List.getElem_toArray, List.getElem_cons_zero, List.getElem_cons_succ, Act.put, List.setIfInBounds_toArray, List.set_cons_zero, List.set_cons_succ]
    refine wpAnyH_take (i := 3) (v := ?_) rfl (by kernel_rfl) (by kernel_rfl) (by kernel_rfl) (fun _ _ _ h => h) (Or.inl ⟨by rfl, ?_⟩) (by assumption) ?_
    rotate_left
    · (intro w hSw; (try dsimp only at hSw); go_simp; try with_reducible rfl)
    try simp only [List.getElem_toArray, List.getElem_cons_zero, List.getElem_cons_succ, Act.put, List.setIfInBounds_toArray, List.set_cons_zero, List.set_cons_succ]
    refine wpAnyH_take (i := 4) (v := ?_) rfl (by kernel_rfl) (by kernel_rfl) (by kernel_rfl) (fun _ _ _ h => h) (Or.inl ⟨by rfl, ?_⟩) (by assumption) ?_
    rotate_left
    · (intro w hSw; (try dsimp only at hSw); go_simp; try with_reducible rfl)
    try simp only [List.getElem_toArray, List.getElem_cons_zero, List.getElem_cons_succ, Act.put, List.setIfInBounds_toArray, List.set_cons_zero, List.set_cons_succ]
    refine wpAnyH_take (i := 5) (v := ?_) rfl (by kernel_rfl) (by kernel_rfl) (by kernel_rfl) (fun _ _ _ h => h) (Or.inl ⟨by rfl, ?_⟩) (by assumption) ?_
    rotate_left
    · (intro w hSw; (try dsimp only at hSw); go_simp; try with_reducible rfl)
    try simp only [List.getElem_toArray, List.getElem_cons_zero, List.getElem_cons_succ, Act.put, List.setIfInBounds_toArray, List.set_cons_zero, List.set_cons_succ]
    refine wpAnyH_take (i := 6) (v := ?_) rfl (by kernel_rfl) (by kernel_rfl) (by kernel_rfl) (fun _ _ _ h => h) (Or.inl ⟨by rfl, ?_⟩) (by assumption) ?_
    rotate_left
    · (intro w hSw; (try dsimp only at hSw); go_simp; try with_reducible rfl)
    try simp only [List.getElem_toArray, List.getElem_cons_zero, List.getElem_cons_succ, Act.put, List.setIfInBounds_toArray, List.set_cons_zero, List.set_cons_succ]
    refine wpAnyH_take (i := 7) (v := ?_) rfl (by kernel_rfl) (by kernel_rfl) (by kernel_rfl) (fun _ _ _ h => h) (Or.inl ⟨by rfl, ?_⟩) (by assumption) ?_
    rotate_left
    · (intro w hSw; (try dsimp only at hSw); go_simp; try with_reducible rfl)
    try simp only [List.getElem_toArray, List.getElem_cons_zero, List.getElem_cons_succ, Act.put, List.setIfInBounds_toArray, List.set_cons_zero, List.set_cons_succ]
    refine wpAnyH_ready (rs := [8]) (by kernel_rfl) (by simp) ?_
    refine AllReadyH.cons (o := _) rfl (fun K hK => ?_) AllReadyH.nil
    go_simp
    refine (allBits_any _ _).mono ?_
    rintro e W4 ⟨rfl, hb4⟩
    rw [← HA.out]
    go_wp2_with fail
    refine hK.out _ _ (KC.out _ (hHeld.2.2.2.trans (hb4.mono (by simp)))) (fun hHeld2 => ?_)
    clear hK K hb4
    try simp only [List.getElem_toArray, List.getElem_cons_zero, List.getElem_cons_succ, Act.put, List.setIfInBounds_toArray, List.set_cons_zero, List.set_cons_succ]
    clear hHeld
    refine wpAnyH_take (i := 9) (v := ?_) rfl (by kernel_rfl) (by kernel_rfl) (by kernel_rfl) (fun _ _ _ h => h) (Or.inl ⟨by rfl, ?_⟩) (by assumption) ?_
    rotate_left
    · (intro w hSw; (try dsimp only at hSw); go_simp; try with_reducible rfl)
    try simp only [List.getElem_toArray, List.getElem_cons_zero, List.getElem_cons_succ, Act.put, List.setIfInBounds_toArray, List.set_cons_zero, List.set_cons_succ]
    refine wpAnyH_take (i := 10) (v := ?_) rfl (by kernel_rfl) (by kernel_rfl) (by kernel_rfl) (fun _ _ _ h => h) (Or.inl ⟨by rfl, ?_⟩) (by assumption) ?_
    rotate_left
    · (intro w hSw; (try dsimp only at hSw); go_simp; try with_reducible rfl)
    try simp only [List.getElem_toArray, List.getElem_cons_zero, List.getElem_cons_succ, Act.put, List.setIfInBounds_toArray, List.set_cons_zero, List.set_cons_succ]
    refine wpAnyH_take (i := 11) (v := ?_) rfl (by kernel_rfl) (by kernel_rfl) (by kernel_rfl) (fun _ _ _ h => h) (Or.inl ⟨by rfl, ?_⟩) (by assumption) ?_
    rotate_left
    · (intro w hSw; (try dsimp only at hSw); go_simp; try with_reducible rfl)
    try simp only [List.getElem_toArray, List.getElem_cons_zero, List.getElem_cons_succ, Act.put, List.setIfInBounds_toArray, List.set_cons_zero, List.set_cons_succ]
    refine wpAnyH_take (i := 12) (v := ?_) rfl (by kernel_rfl) (by kernel_rfl) (by kernel_rfl) (fun _ _ _ h => h) (Or.inl ⟨by rfl, ?_⟩) (by assumption) ?_
    rotate_left
    · (intro w hSw; (try dsimp only at hSw); go_simp; try with_reducible rfl)
    try simp only [List.getElem_toArray, List.getElem_cons_zero, List.getElem_cons_succ, Act.put, List.setIfInBounds_toArray, List.set_cons_zero, List.set_cons_succ]
    refine wpAnyH_take (i := 13) (v := undef) rfl (by kernel_rfl) (by kernel_rfl) (by kernel_rfl) (fun _ _ _ h => h) (Or.inr ⟨by rfl, rfl⟩) (by assumption) ?_
    try simp only [List.getElem_toArray, List.getElem_cons_zero, List.getElem_cons_succ, Act.put, List.setIfInBounds_toArray, List.set_cons_zero, List.set_cons_succ]
    refine wpAnyH_take (i := 14) (v := undef) rfl (by kernel_rfl) (by kernel_rfl) (by kernel_rfl) (fun _ _ _ h => h) (Or.inr ⟨by rfl, rfl⟩) (by assumption) ?_
    try simp only [List.getElem_toArray, List.getElem_cons_zero, List.getElem_cons_succ, Act.put, List.setIfInBounds_toArray, List.set_cons_zero, List.set_cons_succ]
    refine wpAnyH_take (i := 15) (v := undef) rfl (by kernel_rfl) (by kernel_rfl) (by kernel_rfl) (fun _ _ _ h => h) (Or.inr ⟨by rfl, rfl⟩) (by assumption) ?_
    try simp only [List.getElem_toArray, List.getElem_cons_zero, List.getElem_cons_succ, Act.put, List.setIfInBounds_toArray, List.set_cons_zero, List.set_cons_succ]
    refine wpAnyH_take (i := 16) (v := undef) rfl (by kernel_rfl) (by kernel_rfl) (by kernel_rfl) (fun _ _ _ h => h) (Or.inr ⟨by rfl, rfl⟩) (by assumption) ?_
    try simp only [List.getElem_toArray, List.getElem_cons_zero, List.getElem_cons_succ, Act.put, List.setIfInBounds_toArray, List.set_cons_zero, List.set_cons_succ]
    refine wpAnyH_take (i := 17) (v := undef) rfl (by kernel_rfl) (by kernel_rfl) (by kernel_rfl) (fun _ _ _ h => h) (Or.inr ⟨by rfl, rfl⟩) (by assumption) ?_
    try simp only [List.getElem_toArray, List.getElem_cons_zero, List.getElem_cons_succ, Act.put, List.setIfInBounds_toArray, List.set_cons_zero, List.set_cons_succ]
    refine wpAnyH_take (i := 18) (v := undef) rfl (by kernel_rfl) (by kernel_rfl) (by kernel_rfl) (fun _ _ _ h => h) (Or.inr ⟨by rfl, rfl⟩) (by assumption) ?_
    try simp only [List.getElem_toArray, List.getElem_cons_zero, List.getElem_cons_succ, Act.put, List.setIfInBounds_toArray, List.set_cons_zero, List.set_cons_succ]
    refine wpAnyH_take (i := 19) (v := ?_) rfl (by kernel_rfl) (by kernel_rfl) (by kernel_rfl) (fun _ _ _ h => h) (Or.inl ⟨by rfl, ?_⟩) (by assumption) ?_
    rotate_left
    · (intro w hSw; (try dsimp only at hSw); go_simp; try with_reducible rfl)
    try simp only [List.getElem_toArray, List.getElem_cons_zero, List.getElem_cons_succ, Act.put, List.setIfInBounds_toArray, List.set_cons_zero, List.set_cons_succ]
    refine wpAnyH_take (i := 20) (v := ?_) rfl (by kernel_rfl) (by kernel_rfl) (by kernel_rfl) (fun _ _ _ h => h) (Or.inl ⟨by rfl, ?_⟩) (by assumption) ?_
    rotate_left
    · (intro w hSw; (try dsimp only at hSw); go_simp; try with_reducible rfl)
    try simp only [List.getElem_toArray, List.getElem_cons_zero, List.getElem_cons_succ, Act.put, List.setIfInBounds_toArray, List.set_cons_zero, List.set_cons_succ]
    refine wpAnyH_done (by kernel_rfl) ?_ _
    go_wp2
    go_ret
    exact ⟨rfl, (below1 w _).trans (hHeld2.2.2.2.mono (by omega))⟩

set_option linter.unusedSimpArgs false in
set_option maxHeartbeats 1000000 in
set_option maxRecDepth 20000 in
theorem termRight_yes (f v m : Int) (h : (m != 0) = true) (h2 : ((bits BinOp.andNot IntKind.u64 m (abN f : Nat)) == 0) = true) (w : World) : Calls Tryz.prog 69 #[.agg #[.int .i64 f, .int .u64 v, .int .u64 m]] w fun e w' => e = .returned (.bool ((bits BinOp.andNot IntKind.u64 v m) == 0)) ∧ Below w.heap.size w w' := by
  obtain ⟨A, hA⟩ : ∃ A : Int, A = (abN f : Nat) := ⟨_, rfl⟩
  rw [← hA] at h2
  have HA : Hid _ := hA
  clear hA
  have key : ∀ W, Below (w.heap.size + 1) (w.alloc (.cells #[.int .i64 f, .int .u64 v, .int .u64 m] 118)) W → W.cell? ⟨w.heap.size, 0, none⟩ = some (.int .i64 f) ∧ W.cell? ⟨w.heap.size, 1, none⟩ = some (.int .u64 v) ∧ W.cell? ⟨w.heap.size, 2, none⟩ = some (.int .u64 m) ∧ Below (w.heap.size + 1) (w.alloc (.cells #[.int .i64 f, .int .u64 v, .int .u64 m] 118)) W := fun W hb => by
    have q : W.heap[w.heap.size]? = some (.cells #[.int .i64 f, .int .u64 v, .int .u64 m] 118 (0, 0)) := (hb.block _ (by omega)).trans (heap_alloc_new _ _)
    exact ⟨cell_row q 0, cell_row q 1, cell_row q 2, hb⟩
  have KC : Hid _ := key
  clear key
  go_enter Tryz.func69, Tryz.ntmps69
  go_wp2_with fail
  · refine wp_region_held_drew (S := (fun W => W.cell? ⟨w.heap.size, 0, none⟩ = some (.int .i64 f) ∧ W.cell? ⟨w.heap.size, 1, none⟩ = some (.int .u64 v) ∧ W.cell? ⟨w.heap.size, 2, none⟩ = some (.int .u64 m) ∧ Below (w.heap.size + 1) (w.alloc (.cells #[.int .i64 f, .int .u64 v, .int .u64 m] 118)) W)) (by kernel_rfl) ?_ (fun hHeld => ?_)
    · exact KC.out _ (Below.refl _ _).drew
    refine wpAnyH_take (i := 0) (v := ?_) rfl (by kernel_rfl) (by kernel_rfl) (by kernel_rfl) (fun _ _ _ h => h) (Or.inl ⟨by rfl, ?_⟩) (by assumption) ?_
    rotate_left
    · (intro w hSw; (try dsimp only at hSw); go_simp; try with_reducible rfl)
    try simp only [List.getElem_toArray, List.getElem_cons_zero, List.getElem_cons_succ, Act.put, List.setIfInBounds_toArray, List.set_cons_zero, List.set_cons_succ]
    refine wpAnyH_take (i := 1) (v := ?_) rfl (by kernel_rfl) (by kernel_rfl) (by kernel_rfl) (fun _ _ _ h => h) (Or.inl ⟨by rfl, ?_⟩) (by assumption) ?_
    rotate_left
    · (intro w hSw; (try dsimp only at hSw); go_simp; try with_reducible rfl)
    try simp only [List.getElem_toArray, List.getElem_cons_zero, List.getElem_cons_succ, Act.put, List.setIfInBounds_toArray, List.set_cons_zero, List.set_cons_succ]
    refine wpAnyH_take (i := 2) (v := ?_) rfl (by kernel_rfl) (by kernel_rfl) (by kernel_rfl) (fun _ _ _ h => h) (Or.inl ⟨by rfl, ?_⟩) (by assumption) ?_
    rotate_left
    · (intro w hSw; (try dsimp only at hSw); go_simp; try with_reducible rfl)
    try simp only [List.getElem_toArray, List.getElem_cons_zero, List.getElem_cons_succ, Act.put, List.setIfInBounds_toArray, List.set_cons_zero, List.set_cons_succ]
    refine wpAnyH_take (i := 3) (v := ?_) rfl (by kernel_rfl) (by kernel_rfl) (by kernel_rfl) (fun _ _ _ h => h) (Or.inl ⟨by rfl, ?_⟩) (by assumption) ?_
    rotate_left
    · (intro w hSw; (try dsimp only at hSw); go_simp; try with_reducible rfl)
    try simp only [List.getElem_toArray, List.getElem_cons_zero, List.getElem_cons_succ, Act.put, List.setIfInBounds_toArray, List.set_cons_zero, List.set_cons_succ]
    refine wpAnyH_take (i := 4) (v := ?_) rfl (by kernel_rfl) (by kernel_rfl) (by kernel_rfl) (fun _ _ _ h => h) (Or.inl ⟨by rfl, ?_⟩) (by assumption) ?_
    rotate_left
    · (intro w hSw; (try dsimp only at hSw); go_simp; try with_reducible rfl)
    try simp only [List.getElem_toArray, List.getElem_cons_zero, List.getElem_cons_succ, Act.put, List.setIfInBounds_toArray, List.set_cons_zero, List.set_cons_succ]
    refine wpAnyH_take (i := 5) (v := ?_) rfl (by kernel_rfl) (by kernel_rfl) (by kernel_rfl) (fun _ _ _ h => h) (Or.inl ⟨by rfl, ?_⟩) (by assumption) ?_
    rotate_left
    · (intro w hSw; (try dsimp only at hSw); go_simp; try with_reducible rfl)
    try simp only [List.getElem_toArray, List.getElem_cons_zero, List.getElem_cons_succ, Act.put, List.setIfInBounds_toArray, List.set_cons_zero, List.set_cons_succ]
    refine wpAnyH_take (i := 6) (v := ?_) rfl (by kernel_rfl) (by kernel_rfl) (by kernel_rfl) (fun _ _ _ h => h) (Or.inl ⟨by rfl, ?_⟩) (by assumption) ?_
    rotate_left
    · (intro w hSw; (try dsimp only at hSw); go_simp; try with_reducible rfl)
    try simp only [List.getElem_toArray, List.getElem_cons_zero, List.getElem_cons_succ, Act.put, List.setIfInBounds_toArray, List.set_cons_zero, List.set_cons_succ]
    refine wpAnyH_take (i := 7) (v := ?_) rfl (by kernel_rfl) (by kernel_rfl) (by kernel_rfl) (fun _ _ _ h => h) (Or.inl ⟨by rfl, ?_⟩) (by assumption) ?_
    rotate_left
    · (intro w hSw; (try dsimp only at hSw); go_simp; try with_reducible rfl)
    try simp only [List.getElem_toArray, List.getElem_cons_zero, List.getElem_cons_succ, Act.put, List.setIfInBounds_toArray, List.set_cons_zero, List.set_cons_succ]
    refine wpAnyH_ready (rs := [8]) (by kernel_rfl) (by simp) ?_
    refine AllReadyH.cons (o := _) rfl (fun K hK => ?_) AllReadyH.nil
    go_simp
    refine (allBits_any _ _).mono ?_
    rintro e W4 ⟨rfl, hb4⟩
    rw [← HA.out]
    go_wp2_with fail
    refine hK.out _ _ (KC.out _ (hHeld.2.2.2.trans (hb4.mono (by simp)))) (fun hHeld2 => ?_)
    clear hK K hb4
    try simp only [List.getElem_toArray, List.getElem_cons_zero, List.getElem_cons_succ, Act.put, List.setIfInBounds_toArray, List.set_cons_zero, List.set_cons_succ]
    clear hHeld
    refine wpAnyH_take (i := 9) (v := ?_) rfl (by kernel_rfl) (by kernel_rfl) (by kernel_rfl) (fun _ _ _ h => h) (Or.inl ⟨by rfl, ?_⟩) (by assumption) ?_
    rotate_left
    · (intro w hSw; (try dsimp only at hSw); go_simp; try with_reducible rfl)
    try simp only [List.getElem_toArray, List.getElem_cons_zero, List.getElem_cons_succ, Act.put, List.setIfInBounds_toArray, List.set_cons_zero, List.set_cons_succ]
    refine wpAnyH_take (i := 10) (v := ?_) rfl (by kernel_rfl) (by kernel_rfl) (by kernel_rfl) (fun _ _ _ h => h) (Or.inl ⟨by rfl, ?_⟩) (by assumption) ?_
    rotate_left
    · (intro w hSw; (try dsimp only at hSw); go_simp; try with_reducible rfl)
    try simp only [List.getElem_toArray, List.getElem_cons_zero, List.getElem_cons_succ, Act.put, List.setIfInBounds_toArray, List.set_cons_zero, List.set_cons_succ]
    refine wpAnyH_take (i := 11) (v := ?_) rfl (by kernel_rfl) (by kernel_rfl) (by kernel_rfl) (fun _ _ _ h => h) (Or.inl ⟨by rfl, ?_⟩) (by assumption) ?_
    rotate_left
    · (intro w hSw; (try dsimp only at hSw); go_simp; try with_reducible rfl)
    try simp only [List.getElem_toArray, List.getElem_cons_zero, List.getElem_cons_succ, Act.put, List.setIfInBounds_toArray, List.set_cons_zero, List.set_cons_succ]
    refine wpAnyH_take (i := 12) (v := ?_) rfl (by kernel_rfl) (by kernel_rfl) (by kernel_rfl) (fun _ _ _ h => h) (Or.inl ⟨by rfl, ?_⟩) (by assumption) ?_
    rotate_left
    · (intro w hSw; (try dsimp only at hSw); go_simp; try with_reducible rfl)
    try simp only [List.getElem_toArray, List.getElem_cons_zero, List.getElem_cons_succ, Act.put, List.setIfInBounds_toArray, List.set_cons_zero, List.set_cons_succ]
    refine wpAnyH_take (i := 13) (v := ?_) rfl (by kernel_rfl) (by kernel_rfl) (by kernel_rfl) (fun _ _ _ h => h) (Or.inl ⟨by rfl, ?_⟩) (by assumption) ?_
    rotate_left
    · (intro w hSw; (try dsimp only at hSw); go_simp; try with_reducible rfl)
    try simp only [List.getElem_toArray, List.getElem_cons_zero, List.getElem_cons_succ, Act.put, List.setIfInBounds_toArray, List.set_cons_zero, List.set_cons_succ]
    refine wpAnyH_take (i := 14) (v := ?_) rfl (by kernel_rfl) (by kernel_rfl) (by kernel_rfl) (fun _ _ _ h => h) (Or.inl ⟨by rfl, ?_⟩) (by assumption) ?_
    rotate_left
    · (intro w hSw; (try dsimp only at hSw); go_simp; try with_reducible rfl)
    try simp only [List.getElem_toArray, List.getElem_cons_zero, List.getElem_cons_succ, Act.put, List.setIfInBounds_toArray, List.set_cons_zero, List.set_cons_succ]
    refine wpAnyH_take (i := 15) (v := ?_) rfl (by kernel_rfl) (by kernel_rfl) (by kernel_rfl) (fun _ _ _ h => h) (Or.inl ⟨by rfl, ?_⟩) (by assumption) ?_
    rotate_left
    · (intro w hSw; (try dsimp only at hSw); go_simp; try with_reducible rfl)
    try simp only [List.getElem_toArray, List.getElem_cons_zero, List.getElem_cons_succ, Act.put, List.setIfInBounds_toArray, List.set_cons_zero, List.set_cons_succ]
    refine wpAnyH_take (i := 16) (v := ?_) rfl (by kernel_rfl) (by kernel_rfl) (by kernel_rfl) (fun _ _ _ h => h) (Or.inl ⟨by rfl, ?_⟩) (by assumption) ?_
    rotate_left
    · (intro w hSw; (try dsimp only at hSw); go_simp; try with_reducible rfl)
    try simp only [List.getElem_toArray, List.getElem_cons_zero, List.getElem_cons_succ, Act.put, List.setIfInBounds_toArray, List.set_cons_zero, List.set_cons_succ]
    refine wpAnyH_take (i := 17) (v := ?_) rfl (by kernel_rfl) (by kernel_rfl) (by kernel_rfl) (fun _ _ _ h => h) (Or.inl ⟨by rfl, ?_⟩) (by assumption) ?_
    rotate_left
    · (intro w hSw; (try dsimp only at hSw); go_simp; try with_reducible rfl)
    try simp only [List.getElem_toArray, List.getElem_cons_zero, List.getElem_cons_succ, Act.put, List.setIfInBounds_toArray, List.set_cons_zero, List.set_cons_succ]
    refine wpAnyH_take (i := 18) (v := ?_) rfl (by kernel_rfl) (by kernel_rfl) (by kernel_rfl) (fun _ _ _ h => h) (Or.inl ⟨by rfl, ?_⟩) (by assumption) ?_
    rotate_left
    · (intro w hSw; (try dsimp only at hSw); go_simp; try with_reducible rfl)
    try simp only [List.getElem_toArray, List.getElem_cons_zero, List.getElem_cons_succ, Act.put, List.setIfInBounds_toArray, List.set_cons_zero, List.set_cons_succ]
    refine wpAnyH_take (i := 19) (v := ?_) rfl (by kernel_rfl) (by kernel_rfl) (by kernel_rfl) (fun _ _ _ h => h) (Or.inl ⟨by rfl, ?_⟩) (by assumption) ?_
    rotate_left
    · (intro w hSw; (try dsimp only at hSw); go_simp; try with_reducible rfl)
    try simp only [List.getElem_toArray, List.getElem_cons_zero, List.getElem_cons_succ, Act.put, List.setIfInBounds_toArray, List.set_cons_zero, List.set_cons_succ]
    refine wpAnyH_take (i := 20) (v := ?_) rfl (by kernel_rfl) (by kernel_rfl) (by kernel_rfl) (fun _ _ _ h => h) (Or.inl ⟨by rfl, ?_⟩) (by assumption) ?_
    rotate_left
    · (intro w hSw; (try dsimp only at hSw); go_simp; try with_reducible rfl)
    try simp only [List.getElem_toArray, List.getElem_cons_zero, List.getElem_cons_succ, Act.put, List.setIfInBounds_toArray, List.set_cons_zero, List.set_cons_succ]
    refine wpAnyH_done (by kernel_rfl) ?_ _
    go_wp2
    go_ret
    exact ⟨rfl, (below1 w _).trans (hHeld2.2.2.2.mono (by omega))⟩

theorem termRight_any (f v m : Int) (w : World) : Calls Tryz.prog 69 #[.agg #[.int .i64 f, .int .u64 v, .int .u64 m]] w fun e w' => e = .returned (.bool (okI f v m)) ∧ Below w.heap.size w w' := by
  unfold okI
  cases h : (m != 0)
  · exact termRight_zero f v m h w
  · cases h2 : ((bits BinOp.andNot IntKind.u64 m (abN f : Nat)) == 0)
    · exact termRight_no f v m h h2 w
    · exact termRight_yes f v m h h2 w

/-- The mask as bits. -/
def abV (f : Int) : BitVec 64 := BitVec.ofNat 64 (abN f)
theorem abV_toNat (f : Int) : (abV f).toNat = abN f := by
  unfold abV
  rw [BitVec.toNat_ofNat, Nat.mod_eq_of_lt (abN_lt f)]
theorem bv_abN (f : Int) : bv (abN f : Nat) = abV f := by rw [← abV_toNat, bv_nat]
theorem beq0 (b : BitVec 64) : (((b.toNat : Nat) : Int) == 0) = (b == 0) := by
  rw [Bool.eq_iff_iff]
  simp only [beq_iff_eq]
  constructor
  · intro h
    apply BitVec.eq_of_toNat_eq
    simpa using h
  · rintro rfl; rfl
theorem bne0 (b : BitVec 64) : (((b.toNat : Nat) : Int) != 0) = (b != 0) := by
  unfold bne; rw [beq0]
theorem okI_eq (t : Tm) : okI t.f (t.v.toNat : Int) (t.m.toNat : Int) = okT abV t := by
  unfold okI okT
  rw [bits_andNot, bits_andNot, bv_nat, bv_nat, bv_abN, beq0, beq0, bne0]
theorem right_any (t : Tm) (w : World) : Calls Tryz.prog 69 #[.agg #[.int .i64 t.f, .int .u64 (t.v.toNat : Int), .int .u64 (t.m.toNat : Int)]] w fun e w' => e = .returned (.bool (okT abV t)) ∧ Below w.heap.size w w' := by
  rw [← okI_eq]; exact termRight_any _ _ _ w
theorem drop_consT {ts : List Tm} {k : Nat} {t : Tm} (h : ts[k]? = some t) : ts.drop k = t :: ts.drop (k + 1) := by
  obtain ⟨hk, rfl⟩ := List.getElem?_eq_some_iff.1 h
  exact List.drop_eq_getElem_cons hk
/-- What Check answers: 0, or 90 of a match that is not in form. -/
def chkE (ts : List Tm) : Int := if chk abV 0 ts = true then 0 else 90
set_option maxHeartbeats 1000000 in
set_option maxRecDepth 20000 in
theorem check_any (v : Value) (ts : List Tm) (w : World) (h : TV w v ts) : Calls Tryz.prog 42 #[v] w fun e w' => e = .returned (.int .i64 (chkE ts)) ∧ Below w.heap.size w w' := by
  obtain ⟨a, n, c, rfl, hc, h⟩ := h
  have hl := h.len
  have hr := h.room
  have H : Hid _ := h
  clear h
  go_enter Tryz.func42, Tryz.ntmps42
  go_wp2_with fail
  go_loopw [3, 8] (fun s i wr => ∃ (k : Nat) (last : Int), k ≤ n ∧ s = .int .i64 last ∧ i = .int .i64 k ∧ Hid (chk abV last (ts.drop k) = chk abV 0 ts) ∧ Below w.heap.size w wr) (fun _ i _ => n - (intOf i).toNat)
  case atStart => exact ⟨0, 0, by omega, rfl, rfl, rfl, Below.refl _ _⟩
  case round =>
    obtain ⟨k, last, hk, rfl, rfl, hF, hb⟩ := hrel
    have HB : Hid _ := hb
    have HT : Hid _ := H.out.below hb
    clear hb
    by_cases hlt : k < n
    · have hkI : (k : Int) < (n : Int) := by omega
      obtain ⟨t, ht⟩ : ∃ t, ts[k]? = some t := ⟨ts[k]'(by omega), List.getElem?_eq_getElem (by omega)⟩
      obtain ⟨b, off, rfl, c0, c1, c2, hbl⟩ := HT.out.at ht
      have HD : Hid _ := drop_consT ht
      clear HT ht
      by_cases hle : t.f ≤ last
      · have HE : Hid (chkE ts = 90) := by
          have := hF.out
          rw [HD.out] at this
          simp only [chk, show ¬ last < t.f from by omega, decide_false, Bool.false_and] at this
          exact (if_neg (by rw [← this]; simp) : chkE ts = 90)
        clear hF HD
        generalize t.f = tf at *
        generalize (t.v.toNat : Int) = tv at *
        generalize (t.m.toNat : Int) = tm at *
        go_wp2_with fail
        go_ret
        exact ⟨(ret_i HE.out.symm), HB.out.trans ((below1 _ _).mono HB.out.size)⟩
      · go_wp2_with fail
        refine (right_any t _).mono ?_
        rintro e W1 ⟨rfl, hb1⟩
        have hs1 := hb1.size
        simp at hs1
        have hz : W1.heap[wr.heap.size]? = some (.cells #[.int .i64 t.f, .int .u64 (t.v.toNat : Int), .int .u64 (t.m.toNat : Int)] 118 (0, 0)) := (hb1.block _ (by simp)).trans (heap_alloc_new _ _)
        have d0 := cell_row hz 0
        simp only [List.getElem?_toArray, List.getElem?_cons_zero] at d0
        have HB1 : Hid (Below w.heap.size w W1) := HB.out.trans (((below1 _ _).trans (hb1.mono (by simp))).mono HB.out.size)
        clear hz hb1 c0 c1 c2 HB
        cases hok : okT abV t
        · have HE : Hid (chkE ts = 90) := by
            have := hF.out
            rw [HD.out] at this
            simp only [chk, hok, Bool.and_false, Bool.false_and] at this
            exact (if_neg (by rw [← this]; simp) : chkE ts = 90)
          clear hF HD
          go_wp2_with fail
          go_ret
          exact ⟨(ret_i HE.out.symm), HB1.out⟩
        · have HF : Hid (chk abV t.f (ts.drop (k + 1)) = chk abV 0 ts) := by
            have := hF.out
            rw [HD.out] at this
            simp only [chk, hok, show last < t.f from by omega, decide_true, Bool.true_and] at this
            exact this
          clear hF HD
          generalize t.f = tf at *
          go_wp2_with fail
          go_roundw
          case rel => exact ⟨k + 1, tf, by omega, rfl, by go_num, HF, HB1.out⟩
          case measure => simp [intOf]; omega
    · have HE : Hid (chkE ts = 0) := by
        have := hF.out
        rw [List.drop_of_length_le (by omega)] at this
        exact (if_pos this.symm : chkE ts = 0)
      clear hF
      obtain rfl : k = n := by omega
      go_wp2
      go_ret
      exact ⟨(ret_i HE.out.symm), HB.out⟩
end Go.Proofs.YtnahhmcmahbnkaaGreatDoor
