/- What must come of every program: lives of the laws of layer 17; a nil table; the reference's Mask. Conditions: as said. -/
import Derived.Test.YtlopnagajhjmmaaLK
namespace Go.Proofs.Ytlopnagajhjmmaa
open Go.RowKit Tr
def newT (b : Nat) : Tr := node b 0#32 0 0 false nil nil
theorem new_tab (w : World) : Calls Try.prog 8 #[] w fun e w' => e = .returned (ptr (w.heap.size + 1)) ∧ Tab w' (w.heap.size + 1) (newT w.heap.size) ∧ w'.heap.size = w.heap.size + 2 ∧ Below w.heap.size w w' := by
  refine (new_any w).mono ?_
  rintro e w' ⟨rfl, rfl⟩
  refine ⟨rfl, ⟨⟨w.heap.size, 0, false, nil, nil, rfl, two_last w _ _⟩, ⟨two_first w _ _, trivial, trivial⟩, ⟨by omega, rfl, trivial, trivial, trivial, trivial⟩, ?_⟩, by simp, below2 w _ _⟩
  simp [newT, blocks]
set_option maxHeartbeats 1000000 in
theorem all_any (x : Option Addr) (w : World) : Calls Try.prog 21 #[.pointer x] w fun e w' => e = .returned (.func (Fn.func 31) #[] #[ptr w.heap.size]) ∧ w' = w.alloc (.cells #[.pointer x] 23) := by
  go_enter Try.func21, Try.ntmps21
  go_wp2
  go_ret
  exact ⟨rfl, rfl⟩
set_option maxHeartbeats 1000000 in
theorem len_any {w : World} {tb : Nat} {t : Tr} (hT : Tab w tb t) : Calls Try.prog 22 #[ptr tb] w fun e w' => e = .returned (.int .i64 t.ents.length) ∧ w' = w := by
  obtain ⟨rb, rv, rth, rl, rr, rfl, ht⟩ := hT.root
  obtain ⟨n, hn⟩ : ∃ n, n = (node rb 0#32 0 rv rth rl rr).ents.length := ⟨_, rfl⟩
  rw [← hn] at ht ⊢
  have HM : Hid _ := isMade_yes ht
  have c1 : w.cell? ⟨tb, 1, none⟩ = some (.int .i64 n) := cell_row ht 1
  clear hT ht hn
  go_enter Try.func22, Try.ntmps22
  go_wp2_with (first
    | (go_at_call 30; refine Calls.mono HM.out ?_; rintro e w9 ⟨rfl, rfl⟩; skip)
    | fail)
  go_ret
  exact ⟨rfl, rfl⟩
theorem added_tab {w w1 w2 : World} {tb : Nat} {t t1 t2 : Tr} (h1 : Added w tb t w1 t1) (h2 : Added w1 tb t1 w2 t2) : Added w tb t w2 t2 := by
  refine ⟨h2.tab, h1.keeps.trans h2.keeps ?_, ?_⟩
  · intro x hx
    rcases List.mem_cons.1 hx with rfl | hx
    · exact .inl (by simp)
    · rcases h1.blk x hx with h | h
      · exact .inl (by simp [h])
      · exact .inr h
  · intro x hx
    rcases h2.blk x hx with h | h
    · exact h1.blk x h
    · exact .inr (Nat.le_trans h1.keeps.size h)
theorem added_below {w w1 : World} {tb : Nat} {t t1 : Tr} (h : Added w tb t w1 t1) {B : Nat} (hB : B ≤ w.heap.size) (hb : B ≤ tb) (ht : ∀ x ∈ t.blocks, B ≤ x) : Below B w w1 := h.keeps.below hB fun x hx => by
  rcases List.mem_cons.1 hx with rfl | hx
  · exact hb
  · exact ht x hx
theorem tab_bel {w w' : World} {tb : Nat} {t : Tr} (h : Tab w tb t) (hb : Below w.heap.size w w') : Tab w' tb t := (Added.refl h hb).tab
def L1 : List Ro := [(167772160#32, 8, 1)]
def L2 : List Ro := [(167772160#32, 8, 1), (167837696#32, 16, 2)]
theorem ad1 : adC [] 167772160#32 8 = 0 ∧ adL [] 167772160#32 8 1 = L1 := by decide +kernel
theorem ad2 : adC L1 167837696#32 16 = 0 ∧ adL L1 167837696#32 16 2 = L2 := by decide +kernel
theorem best2 {x : Ro} (h : Best L2 167837701#32 x) : x = (167837696#32, 16, 2) := by
  obtain ⟨h1, h2, h3⟩ := h
  have := h3 (167837696#32, 16, 2) (by decide +kernel) (by decide +kernel)
  simp only [L2, List.mem_cons, List.not_mem_nil, or_false] at h1
  rcases h1 with rfl | rfl
  · exact absurd this (by decide)
  · rfl
theorem none2 (h : NoneHas L2 167837701#32) : False := by
  have := h (167837696#32, 16, 2) (by decide +kernel)
  revert this; decide +kernel
theorem func_nil (x : Array Value) (W : World) : (binOp BinOp.eql 49 (.func (Fn.func 31) #[] x) .nilFunc).run Try.prog W = .ok (.bool false) W := by
  first | kernel_rfl | simp [go_sem]
set_option maxRecDepth 20000 in
set_option maxHeartbeats 2000000 in
theorem lives_any (w : World) : Calls Try.prog 9 #[] w fun e w' => e = .returned (.bool true) ∧ Below w.heap.size w w' := by
  have hfn := func_nil
  have hmk : Hid (((mskI 8).toNat : Int) = 4278190080) := by show _ = _; decide +kernel
  go_enter Try.func9, Try.ntmps9
  go_wp2_with fail
  refine (new_tab w).mono ?_
  rintro e W0 ⟨rfl, T0, s0, b0⟩
  go_wp2_with (first
    | (go_at_call 21; refine (all_any _ _).mono ?_; rintro e w9 ⟨rfl, rfl⟩; skip)
    | fail)
  have T0' := tab_bel T0 (below1 W0 (.cells #[ptr (w.heap.size + 1)] 23))
  have A1 := add_yes T0' 167772160#32 8 1 (by decide +kernel) (by omega) (by decide +kernel)
  rw [show (newT w.heap.size).ents = [] from rfl, ad1.1, ad1.2] at A1
  refine Calls.mono A1 ?_
  rintro e W1 ⟨rfl, t1, e1, a1⟩
  go_wp2_with fail
  have A2 := add_yes a1.tab 167837696#32 16 2 (by decide +kernel) (by omega) (by decide +kernel)
  rw [e1, ad2.1, ad2.2] at A2
  refine Calls.mono A2 ?_
  rintro e W2 ⟨rfl, t2, e2, a2⟩
  have aa := added_tab a1 a2
  have bb : Below w.heap.size w W2 := b0.trans ((below1 W0 _).mono (by omega)) |>.trans (added_below aa (by simp; omega) (by omega) (by intro x hx; simp [newT, blocks] at hx; omega))
  have bs := bb.size
  go_wp2_with fail
  have F := find_any a2.tab 167837701#32
  rw [e2] at F
  refine Calls.mono F ?_
  rintro e W3 ⟨h3, b3⟩
  obtain rfl : e = .returned (.tuple #[.agg #[.int .u32 167837696, .int .i64 16, .int .i64 2], .bool true]) := by
    rcases h3 with ⟨x, h, hb⟩ | ⟨_, h⟩
    · rw [h, best2 hb]; rfl
    · exact (none2 h).elim
  clear h3
  have T3 := tab_bel a2.tab b3
  have T4 := tab_bel T3 (below1 W3 (.cells #[.int .u32 167837696, .int .i64 16, .int .i64 2] 37))
  have HL : Hid _ := len_any T4
  rw [e2] at HL
  have s3 := b3.size
  have bW3 : Below w.heap.size w W3 := bb.trans (b3.mono (by omega))
  clear T3 T4 F A1 A2 a1 a2 aa T0 T0'
  go_wp2_with (first
    | (go_at_call 22; refine Calls.mono HL.out ?_; rintro e w9 ⟨rfl, rfl⟩; skip)
    | (go_at_call 19; refine (mask_any _ _).mono ?_; rw [hmk.out]; rintro e w9 ⟨rfl, rfl⟩; skip)
    | fail)
  go_ret
  refine ⟨rfl, ?_⟩
  exact bW3.alloc (by omega) _
theorem msk_step : ∀ k : Fin 32, ((msk k.val).toNat : Int) / 2 + 2147483648 = (msk (k.val + 1)).toNat := by decide +kernel
set_option maxHeartbeats 1000000 in
theorem rmask_any (n : Int) (h1 : -9223372036854775808 ≤ n) (h2 : n ≤ 9223372036854775807) (w : World) : Calls Try.prog 20 #[.int .i64 n] w fun e w' => e = .returned (.int .u32 (mskI n).toNat) ∧ w' = w := by
  go_enter Try.func20, Try.ntmps20
  go_wp2
  go_loop [3, 4] (fun m i => ∃ k : Nat, k ≤ 32 ∧ (k = 0 ∨ (k : Int) ≤ n) ∧ i = .int .i64 k ∧ m = .int .u32 (msk k).toNat) (fun _ i => 32 - (intOf i).toNat)
  case atStart => exact ⟨0, by omega, .inl rfl, rfl, rfl⟩
  case round =>
    obtain ⟨k, hk, hkn, rfl, rfl⟩ := hrel
    have mi := nat_in (msk k)
    by_cases hc : (k : Int) < n ∧ k < 32
    · obtain ⟨c1, c2⟩ := hc
      have c3 : (k : Int) < 32 := by omega
      have E : Hid _ := msk_step ⟨k, c2⟩
      go_wp2
      go_round
      case rel =>
        refine ⟨k + 1, by omega, .inr (by omega), by go_num, ?_⟩
        have e := E.out
        simp only at e
        congr 1
      case measure => simp [intOf]; omega
    · have E : Hid (mskI n = msk k) := by
        show _ = _
        unfold mskI; congr 1
        omega
      rcases (by omega : ¬ (k : Int) < n ∨ ((k : Int) < n ∧ ¬ (k : Int) < 32)) with c | ⟨c, c'⟩
      all_goals
        go_wp2
        go_ret
        exact ⟨by rw [E.out]; rfl, rfl⟩
set_option maxHeartbeats 1000000 in
theorem masks_any (n : Int) (h : -9223372036854775808 ≤ n ∧ n ≤ 9223372036854775807) (w : World) : Calls Try.prog 5 #[.int .i64 n] w fun e w' => e = .returned (.bool true) ∧ Below w.heap.size w w' := by
  go_enter Try.func5, Try.ntmps5
  go_wp2_with fail
  refine (lives_any _).mono ?_
  rintro e W ⟨rfl, b⟩
  go_wp2_with (first
    | (go_at_call 19; refine (mask_any _ _).mono ?_; rintro e w9 ⟨rfl, rfl⟩; skip)
    | (go_at_call 20; refine (rmask_any _ h.1 h.2 _).mono ?_; rintro e w9 ⟨rfl, rfl⟩; skip)
    | fail)
  go_ret
  refine ⟨?_, b⟩
  first | rfl | (simp)
end Go.Proofs.Ytlopnagajhjmmaa
