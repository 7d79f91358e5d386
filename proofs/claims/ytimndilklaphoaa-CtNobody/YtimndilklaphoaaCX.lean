/- A nil table: every call. Conditions: as said. -/
import Derived.Test.YtimndilklaphoaaCV
namespace Go.Proofs.Ytimndilklaphoaa
open Go.RowKit
theorem zeroSt : St zeroC := by
  refine ⟨rfl, zeroC_one, fun i hi => ?_, fun i hi => ?_, fun i hi => ?_, fun i hi => ?_, fun i hi => ?_⟩
  · simp only [List.mem_cons, List.not_mem_nil, or_false] at hi
    refine ⟨0, ?_, by omega, by omega⟩
    rcases hi with rfl | rfl | rfl | rfl <;> rfl
  · simp only [List.mem_cons, List.not_mem_nil, or_false] at hi
    refine ⟨0, ?_, by omega, by omega⟩
    rcases hi with rfl | rfl | rfl | rfl | rfl | rfl | rfl | rfl | rfl | rfl | rfl | rfl | rfl | rfl | rfl | rfl | rfl | rfl | rfl | rfl | rfl | rfl | rfl <;> rfl
  · simp only [List.mem_cons, List.not_mem_nil, or_false] at hi
    refine ⟨0, ?_, by omega, by omega⟩
    rcases hi with rfl | rfl | rfl | rfl | rfl | rfl | rfl | rfl | rfl | rfl | rfl | rfl | rfl <;> rfl
  · simp only [List.mem_cons, List.not_mem_nil, or_false] at hi
    refine ⟨false, ?_⟩
    rcases hi with rfl | rfl | rfl | rfl <;> rfl
  · simp only [List.mem_cons, List.not_mem_nil, or_false] at hi
    refine ⟨⟨#[]⟩, ?_⟩
    rcases hi with rfl | rfl | rfl | rfl | rfl <;> rfl
theorem zero_built : Try.prog.built 47 [] = some zeroC := by kernel_rfl
set_option linter.unusedSimpArgs false in
set_option maxRecDepth 20000 in
set_option maxHeartbeats 1000000 in
theorem look_none (z : Int) (cs : Array Value) (w : World) : Calls Try.prog 15 #[.pointer none, .int .i64 z, .agg cs] w fun e w' => e = .returned (.tuple #[.agg zeroC, .int .i64 6]) ∧ Below w.heap.size w w' := by
  have zb := zero_built
  have ZO : Hid _ := zeroC_one
  have ZS : Hid _ := zeroC_size
  have HZ : Hid _ := two_last w (.cells cs 47) (.cells zeroC 47)
  have HB : Hid _ := below2 w (.cells cs 47) (.cells zeroC 47)
  obtain ⟨Z, hZ⟩ : ∃ Z, zeroC = Z := ⟨_, rfl⟩
  rw [hZ] at zb ZO ZS ⊢
  have HZE : Hid _ := hZ
  have ZB : Hid _ := zb
  clear hZ zb
  go_enter Try.func15, Try.ntmps15
  go_wp2_with fail
  refine (check_nil z _).mono ?_
  rintro e W1 ⟨rfl, hw1⟩
  rw [hw1]
  clear hw1
  go_wp2_with (first
    | refine wpList_build_as rfl 47 _ rfl Z (by rw [List.map_toArray]; exact ZB.out) ?_
    | refine wpList_store_row rfl 47 _ _ rfl (w.heap.size + 1) zeroC Z 47 rfl rfl HZ.out (info_size ZS.out) (Eq.trans (b := 49) rfl ZS.out.symm) ZO.out ?_
    | fail)
  intro W8 y1 y2 y3 y4
  go_wp2
  exact bodyPost_ret (results_state (p := 6) (u := 7) rfl _ _ (w.heap.size + 1) _ rfl y1 ZS.out) rfl ⟨rfl, HB.out.trans (y4.mono (by omega))⟩
set_option maxRecDepth 20000 in
set_option maxHeartbeats 1000000 in
theorem commit_none (z : Int) (cs : Array Value) (w : World) : Calls Try.prog 16 #[.pointer none, .int .i64 z, .agg cs] w fun e w' => e = .returned (.int .i64 6) ∧ Below w.heap.size w w' := by
  go_enter Try.func16, Try.ntmps16
  go_wp2_with fail
  refine (check_nil z _).mono ?_
  rintro e W1 ⟨rfl, hw1⟩
  rw [hw1]
  clear hw1
  go_wp2
  go_ret
  exact ⟨rfl, below1 _ _⟩
set_option maxRecDepth 20000 in
set_option maxHeartbeats 1000000 in
theorem put_none (cn : Array Value) (z : Int) (h0 : cn[0]? = some (.int .i64 z)) (w : World) : Calls Try.prog 21 #[.pointer none, .agg cn] w fun e w' => e = .returned (.int .i64 6) ∧ Below w.heap.size w w' := by
  go_enter Try.func21, Try.ntmps21
  go_wp2_with fail
  refine (check_nil z _).mono ?_
  rintro e W1 ⟨rfl, hw1⟩
  rw [hw1]
  clear hw1
  go_wp2
  go_ret
  exact ⟨rfl, below1 _ _⟩
set_option maxRecDepth 20000 in
set_option maxHeartbeats 1000000 in
theorem tick_none (z : Int) (w : World) : Calls Try.prog 19 #[.pointer none, .int .i64 z] w fun e w' => e = .returned (.int .i64 6) ∧ w' = w := by
  go_enter Try.func19, Try.ntmps19
  go_wp2_with fail
  refine (isMade_nil _).mono ?_
  rintro e W1 ⟨rfl, hw1⟩
  rw [hw1]
  clear hw1
  go_wp2
  go_ret
  exact ⟨rfl, rfl⟩
set_option maxRecDepth 20000 in
set_option maxHeartbeats 1000000 in
theorem count_none (z : Int) (w : World) : Calls Try.prog 18 #[.pointer none, .int .i64 z] w fun e w' => e = .returned (.int .i64 0) ∧ w' = w := by
  go_enter Try.func18, Try.ntmps18
  go_wp2_with fail
  refine (isMade_nil _).mono ?_
  rintro e W1 ⟨rfl, hw1⟩
  rw [hw1]
  clear hw1
  go_wp2
  go_ret
  exact ⟨rfl, rfl⟩
set_option maxRecDepth 20000 in
set_option maxHeartbeats 1000000 in
theorem all_none (z : Int) (w : World) : Calls Try.prog 17 #[.pointer none, .int .i64 z] w fun e w' => e = .returned (.slice none 0 0) ∧ w' = w := by
  go_enter Try.func17, Try.ntmps17
  go_wp2_with fail
  refine (isMade_nil _).mono ?_
  rintro e W1 ⟨rfl, hw1⟩
  rw [hw1]
  clear hw1
  go_wp2
  go_ret
  exact ⟨rfl, rfl⟩
set_option maxRecDepth 20000 in
set_option maxHeartbeats 1000000 in
theorem drop_none (z : Int) (w : World) : Calls Try.prog 22 #[.pointer none, .int .i64 z] w fun e w' => e = .returned (.int .i64 0) ∧ w' = w := by
  go_enter Try.func22, Try.ntmps22
  go_wp2_with fail
  refine (isMade_nil _).mono ?_
  rintro e W1 ⟨rfl, hw1⟩
  rw [hw1]
  clear hw1
  go_wp2
  go_ret
  exact ⟨rfl, rfl⟩
set_option maxRecDepth 20000 in
set_option maxHeartbeats 1000000 in
theorem now_none (w : World) : Calls Try.prog 20 #[.pointer none] w fun e w' => e = .returned (.int .i64 0) ∧ w' = w := by
  go_enter Try.func20, Try.ntmps20
  go_wp2_with fail
  refine (isMade_nil _).mono ?_
  rintro e W1 ⟨rfl, hw1⟩
  rw [hw1]
  clear hw1
  go_wp2
  go_ret
  exact ⟨rfl, rfl⟩
set_option maxRecDepth 20000 in
set_option maxHeartbeats 1000000 in
theorem fork_none (w : World) : Calls Try.prog 23 #[.pointer none] w fun e w' => e = .returned (.pointer none) ∧ w' = w := by
  go_enter Try.func23, Try.ntmps23
  go_wp2_with fail
  refine (isMade_nil _).mono ?_
  rintro e W1 ⟨rfl, hw1⟩
  rw [hw1]
  clear hw1
  go_wp2
  go_ret
  exact ⟨rfl, rfl⟩
theorem eql_pnil (W : World) : (binOp .eql 41 (.pointer none) (.pointer none)).run Try.prog W = .ok (.bool true) W := by
  first | kernel_rfl | simp [binOp, go_sem]
set_option linter.unusedSimpArgs false in
set_option maxRecDepth 20000 in
set_option maxHeartbeats 4000000 in
theorem nobody_any (z : Int) (cs cn : Array Value) (hst : St cs) (zc : Int) (hcs : cn.size = 13) (h0 : cn[0]? = some (.int .i64 zc)) (w : World) :
    Calls Try.prog 6 #[.int .i64 z, .agg cs, .agg cn] w fun e w' => e = .returned (.bool true) ∧ Below w.heap.size w w' := by
  have zb := zero_built
  have heq := eq_state zeroSt
  have hpn := eql_pnil
  have ZO : Hid _ := zeroC_one
  have ZS : Hid _ := zeroC_size
  have HLN : Hid (∀ W, Calls Try.prog 15 #[.pointer none, .int .i64 z, .agg cs] W fun e w' => e = .returned (.tuple #[.agg zeroC, .int .i64 6]) ∧ Below W.heap.size W w') := fun W => look_none z cs W
  have S0 : Hid _ := two_first w (.cells cs 47) (.cells cn 56)
  have N0 : Hid _ := two_last w (.cells cs 47) (.cells cn 56)
  have HB : Hid _ := below2 w (.cells cs 47) (.cells cn 56)
  have HCS : Hid _ := hst.size
  have HCN : Hid _ := hcs
  have H0 : Hid _ := h0
  obtain ⟨Z, hZ⟩ : ∃ Z, zeroC = Z := ⟨_, rfl⟩
  rw [hZ] at zb heq ZO ZS HLN
  have ZB : Hid _ := zb
  clear hZ zb hst hcs h0
  go_enter Try.func6, Try.ntmps6
  go_wp2_with (first
    | refine wpList_load_row rfl 47 _ rfl w.heap.size rfl 47 cs (0, 0) _ S0.out Try.underlying47 rfl (info_size HCS.out) ?_
    | fail)
  refine (HLN.out _).mono ?_
  rintro e W1 ⟨rfl, b1⟩
  have S1 : Hid _ := (heap_alloc_old W1 (.cells Z 47) (lt_of_heap ((b1.block _ (lt_of_heap S0.out)).trans S0.out))).trans ((b1.block _ (lt_of_heap S0.out)).trans S0.out)
  have N1 : Hid _ := (heap_alloc_old W1 (.cells Z 47) (lt_of_heap ((b1.block _ (lt_of_heap N0.out)).trans N0.out))).trans ((b1.block _ (lt_of_heap N0.out)).trans N0.out)
  have Z1 : Hid _ := heap_alloc_new W1 (.cells Z 47)
  have B1 : Hid (Below w.heap.size w (W1.alloc (.cells Z 47))) := (HB.out.trans (b1.mono (by simp; omega))).alloc (by have := b1.size; simp at this; omega) _
  clear b1 S0 N0 HB
  go_wp2_with (first
    | (refine wpList_store_new rfl 47 _ _ rfl _ Z W1.heap.size rfl rfl rfl (info_size ZS.out) (Eq.trans (b := 49) rfl ZS.out.symm) ZO.out ?_
       generalize W1.alloc (.cells Z 47) = V at *)
    | fail)
  refine (lives_any _).mono ?_
  rintro e W2 ⟨rfl, b2⟩
  have S2 : Hid _ := (b2.block _ (lt_of_heap S1.out)).trans S1.out
  have N2 : Hid _ := (b2.block _ (lt_of_heap N1.out)).trans N1.out
  have Z2 : Hid _ := (b2.block _ (lt_of_heap Z1.out)).trans Z1.out
  have B2 : Hid _ := B1.out.trans (b2.mono B1.out.size)
  clear b2 S1 N1 Z1 B1
  go_wp2_with (first
    | refine wpList_load_want (by rfl) 47 _ rfl W1.heap.size rfl 47 Z (0, 0) _ Z2.out Try.underlying47 rfl (info_size ZS.out) ?_
    | refine wpList_load_want (by rfl) 47 _ rfl w.heap.size rfl 47 cs (0, 0) _ S2.out Try.underlying47 rfl (info_size HCS.out) ?_
    | refine wpList_build_want (by rfl) 47 _ rfl Z (by rw [List.map_toArray]; exact ZB.out) ?_
    | fail)
  refine (commit_none z cs _).mono ?_
  rintro e W3 ⟨rfl, b3⟩
  have N3 : Hid _ := (b3.block _ (lt_of_heap N2.out)).trans N2.out
  have B3 : Hid _ := B2.out.trans (b3.mono B2.out.size)
  clear b3 S2 N2 Z2 B2
  go_wp2_with fail
  refine (tick_none z _).mono ?_
  rintro e W4 ⟨rfl, hw4⟩
  rw [hw4]
  clear hw4
  go_wp2_with fail
  refine (now_none _).mono ?_
  rintro e W4 ⟨rfl, hw4⟩
  rw [hw4]
  clear hw4
  go_wp2_with fail
  refine (count_none z _).mono ?_
  rintro e W4 ⟨rfl, hw4⟩
  rw [hw4]
  clear hw4
  go_wp2_with fail
  refine (all_none z _).mono ?_
  rintro e W4 ⟨rfl, hw4⟩
  rw [hw4]
  clear hw4
  go_wp2_with (first
    | refine wpList_load_want (by rfl) 56 _ rfl (w.heap.size + 1) rfl 56 cn (0, 0) _ N3.out Try.underlying56 rfl (by rw [HCN.out]; exact size13) ?_
    | fail)
  refine (put_none cn zc H0.out _).mono ?_
  rintro e W4 ⟨rfl, b4⟩
  have B4 : Hid _ := B3.out.trans (b4.mono B3.out.size)
  clear b4
  go_wp2_with fail
  refine (drop_none z _).mono ?_
  rintro e W5 ⟨rfl, hw5⟩
  rw [hw5]
  clear hw5
  go_wp2_with fail
  refine (fork_none _).mono ?_
  rintro e W5 ⟨rfl, hw5⟩
  rw [hw5]
  clear hw5
  go_wp2
  go_ret
  exact ⟨rfl, B4.out⟩
end Go.Proofs.Ytimndilklaphoaa
