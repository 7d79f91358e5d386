/- CtBack: the walk where it ends early, and all ways together. Conditions: the packet's cells are of their kinds. -/
import Derived.Test.YtmndfmbnedfloaaDH
namespace Go.Proofs.Ytmndfmbnedfloaa
open Go.RowKit
theorem PSt.pkb {ps : Array Value} (h : PSt ps) : ∃ ip fr pr src dst k ty co re sp dp, Pk ps ip fr pr src dst k ty co re sp dp ∧ TupR (pr, src, dst, portT k re sp, portT k re dp) := by
  obtain ⟨ip, h11⟩ := h.bool 11 (by decide)
  obtain ⟨fr, h14, _, _⟩ := h.i64 14 (by decide)
  obtain ⟨pr, h16, p1, p2⟩ := h.i64 16 (by decide)
  obtain ⟨src, h17, s1, s2⟩ := h.u32 17 (by decide)
  obtain ⟨dst, h18, d1, d2⟩ := h.u32 18 (by decide)
  obtain ⟨k, h20, _, _⟩ := h.i64 20 (by decide)
  obtain ⟨ty, h21, _, _⟩ := h.i64 21 (by decide)
  obtain ⟨co, h22, _, _⟩ := h.i64 22 (by decide)
  obtain ⟨re, h23, r1, r2⟩ := h.u32 23 (by decide)
  obtain ⟨sp, h24, q1, q2⟩ := h.i64 24 (by decide)
  obtain ⟨dp, h25, t1, t2⟩ := h.i64 25 (by decide)
  refine ⟨ip, fr, pr, src, dst, k, ty, co, re, sp, dp, ⟨h.size, h11, h14, h16, h17, h18, h20, h21, h22, h23, h24, h25, ⟨r1, r2⟩⟩, ⟨⟨p1, p2⟩, ⟨s1, s2⟩, ⟨d1, d2⟩, ?_, ?_⟩⟩
  · show -9223372036854775808 ≤ portT k re sp ∧ portT k re sp ≤ 9223372036854775807
    unfold portT; split <;> omega
  · show -9223372036854775808 ≤ portT k re dp ∧ portT k re dp ≤ 9223372036854775807
    unfold portT; split <;> omega
set_option linter.unusedSimpArgs false in
set_option maxRecDepth 20000 in
set_option maxHeartbeats 16000000 in
theorem early_no (ps : Array Value) (h : PSt ps) (t : Tup) (hO : ∀ W, Calls Try.prog 9 #[.agg ps] W fun e w' => e = .returned (.tuple #[tv t, .bool false]) ∧ Below W.heap.size W w') (d port zone : Int)  (w : World) :
    Calls Try.prog 4 #[.agg ps, .int .u32 d, .int .i64 port, .int .i64 zone] w fun e w' => e = .returned (.bool true) ∧ Below w.heap.size w w' := by
  obtain ⟨Xc, hXc⟩ : ∃ A, tupC t.1 t.2.1 t.2.2.1 t.2.2.2.1 t.2.2.2.2 = A := ⟨_, rfl⟩
  have vX : tv t = .agg Xc := by rw [← hXc]; rfl
  rw [vX] at hO
  have NO : Hid _ := hO
  have sX : Xc.size = 5 := by rw [← hXc]; rfl
  have NsX : Hid _ := sX
  have NoX : Hid (Xc.all (·.oneCell') = true) := by show _ = _; rw [← hXc]; exact tup_one _ _ _ _ _
  have iX : Hid ((Try.prog.info? 35).map (·.size) = some Xc.size) := by show _ = _; rw [sX]; exact size5
  have NiP : Hid _ := infoPk h.size
  have P0 : Hid _ := heap_alloc_new w (.cells ps 33)
  have hz1 : (w.alloc (.cells ps 33)).heap.size = w.heap.size + 1 := by simp
  have hN := new_emp 8 (by omega) (by omega) (w.alloc (.cells ps 33))
  rw [hz1] at hN
  have HN : Hid _ := hN
  have hnep := eql_ptab
  clear hO sX hz1 hN h hXc vX
  go_enter Try.func4, Try.ntmps4
  refine cut_code fun d1 e1 => ?_
  go_wp2_with fail
  rw [← e1.out]
  clear e1 d1
  refine cut_code fun d2 e2 => ?_
  go_wp2_with fail
  refine Calls.mono HN.out ?_
  rintro e W1 ⟨rfl, h1, b1⟩
  have B1 : Hid _ := b1
  have hs1 : w.heap.size + 1 ≤ W1.heap.size := by have := b1.size; simp at this; omega
  have P1 : Hid (W1.heap[w.heap.size]? = some (.cells ps 33 (0, 0))) := (b1.block _ (by omega)).trans P0.out
  clear h1 b1 HN
  go_wp2_with fail
  rw [← e2.out]
  clear e2 d2
  refine cut_code fun d3 e3 => ?_
  go_wp2_with (first
    | refine wpList_load_row rfl 33 _ rfl w.heap.size rfl 33 ps (0, 0) _ P1.out Try.underlying33 rfl NiP.out ?_
    | fail)
  refine (NO.out _).mono ?_
  rintro e W2 ⟨rfl, b2⟩
  have hs2 : w.heap.size + 1 ≤ W2.heap.size := by have := b2.size; omega
  have B3 : Hid _ := (B1.out.trans (b2.mono hs1)).trans ((below1 W2 (.cells Xc 35)).mono hs2)
  have hs3 : Hid (W2.heap.size + 1 ≤ (W2.alloc (.cells Xc 35)).heap.size) := by show _ ≤ _; simp
  clear b2 B1
  go_wp2_with (first
    | (refine wpList_store_new rfl 35 _ _ rfl _ Xc W2.heap.size rfl rfl rfl iX.out (Eq.trans (b := 5) rfl NsX.out.symm) NoX.out ?_
       generalize W2.alloc (.cells Xc 35) = V3 at *)
    | fail)
  rw [← e3.out]
  clear e3 d3
  refine cut_code fun d5 e5 => ?_
  go_wp2_with fail
  refine (lives_any _).mono ?_
  rintro e W4 ⟨rfl, b4⟩
  have hv3 : w.heap.size + 1 ≤ V3.heap.size := by have := hs3.out; omega
  have B4 : Hid (Below w.heap.size w W4) := (below1 w _).trans ((B3.out.trans (b4.mono hv3)).mono (by omega))
  clear b4 B3 hs3 hv3
  go_wp2_with fail
  rw [← e5.out]
  clear e5 d5
  refine cut_code fun d7 e7 => ?_
  go_wp2
  go_ret
  exact ⟨rfl, B4.out⟩
set_option linter.unusedSimpArgs false in
set_option maxRecDepth 20000 in
set_option maxHeartbeats 16000000 in
theorem early_z0 (ps : Array Value) (h : PSt ps) (t : Tup) (hO : ∀ W, Calls Try.prog 9 #[.agg ps] W fun e w' => e = .returned (.tuple #[tv t, .bool true]) ∧ Below W.heap.size W w') (d port zone : Int) (hz : zone < 0) (w : World) :
    Calls Try.prog 4 #[.agg ps, .int .u32 d, .int .i64 port, .int .i64 zone] w fun e w' => e = .returned (.bool true) ∧ Below w.heap.size w w' := by
  obtain ⟨Xc, hXc⟩ : ∃ A, tupC t.1 t.2.1 t.2.2.1 t.2.2.2.1 t.2.2.2.2 = A := ⟨_, rfl⟩
  have vX : tv t = .agg Xc := by rw [← hXc]; rfl
  rw [vX] at hO
  have NO : Hid _ := hO
  have sX : Xc.size = 5 := by rw [← hXc]; rfl
  have NsX : Hid _ := sX
  have NoX : Hid (Xc.all (·.oneCell') = true) := by show _ = _; rw [← hXc]; exact tup_one _ _ _ _ _
  have iX : Hid ((Try.prog.info? 35).map (·.size) = some Xc.size) := by show _ = _; rw [sX]; exact size5
  have NiP : Hid _ := infoPk h.size
  have P0 : Hid _ := heap_alloc_new w (.cells ps 33)
  have hz1 : (w.alloc (.cells ps 33)).heap.size = w.heap.size + 1 := by simp
  have hN := new_emp 8 (by omega) (by omega) (w.alloc (.cells ps 33))
  rw [hz1] at hN
  have HN : Hid _ := hN
  have hnep := eql_ptab
  clear hO sX hz1 hN h hXc vX
  go_enter Try.func4, Try.ntmps4
  refine cut_code fun d1 e1 => ?_
  go_wp2_with fail
  rw [← e1.out]
  clear e1 d1
  refine cut_code fun d2 e2 => ?_
  go_wp2_with fail
  refine Calls.mono HN.out ?_
  rintro e W1 ⟨rfl, h1, b1⟩
  have B1 : Hid _ := b1
  have hs1 : w.heap.size + 1 ≤ W1.heap.size := by have := b1.size; simp at this; omega
  have P1 : Hid (W1.heap[w.heap.size]? = some (.cells ps 33 (0, 0))) := (b1.block _ (by omega)).trans P0.out
  clear h1 b1 HN
  go_wp2_with fail
  rw [← e2.out]
  clear e2 d2
  refine cut_code fun d3 e3 => ?_
  go_wp2_with (first
    | refine wpList_load_row rfl 33 _ rfl w.heap.size rfl 33 ps (0, 0) _ P1.out Try.underlying33 rfl NiP.out ?_
    | fail)
  refine (NO.out _).mono ?_
  rintro e W2 ⟨rfl, b2⟩
  have hs2 : w.heap.size + 1 ≤ W2.heap.size := by have := b2.size; omega
  have B3 : Hid _ := (B1.out.trans (b2.mono hs1)).trans ((below1 W2 (.cells Xc 35)).mono hs2)
  have hs3 : Hid (W2.heap.size + 1 ≤ (W2.alloc (.cells Xc 35)).heap.size) := by show _ ≤ _; simp
  clear b2 B1
  go_wp2_with (first
    | (refine wpList_store_new rfl 35 _ _ rfl _ Xc W2.heap.size rfl rfl rfl iX.out (Eq.trans (b := 5) rfl NsX.out.symm) NoX.out ?_
       generalize W2.alloc (.cells Xc 35) = V3 at *)
    | fail)
  rw [← e3.out]
  clear e3 d3
  refine cut_code fun d5 e5 => ?_
  go_wp2_with fail
  refine (lives_any _).mono ?_
  rintro e W4 ⟨rfl, b4⟩
  have hv3 : w.heap.size + 1 ≤ V3.heap.size := by have := hs3.out; omega
  have B4 : Hid (Below w.heap.size w W4) := (below1 w _).trans ((B3.out.trans (b4.mono hv3)).mono (by omega))
  clear b4 B3 hs3 hv3
  go_wp2_with fail
  rw [← e5.out]
  clear e5 d5
  refine cut_code fun d7 e7 => ?_
  go_wp2
  go_ret
  exact ⟨rfl, B4.out⟩
set_option linter.unusedSimpArgs false in
set_option maxRecDepth 20000 in
set_option maxHeartbeats 16000000 in
theorem early_z1 (ps : Array Value) (h : PSt ps) (t : Tup) (hO : ∀ W, Calls Try.prog 9 #[.agg ps] W fun e w' => e = .returned (.tuple #[tv t, .bool true]) ∧ Below W.heap.size W w') (d port zone : Int) (hz : 65535 < zone) (w : World) :
    Calls Try.prog 4 #[.agg ps, .int .u32 d, .int .i64 port, .int .i64 zone] w fun e w' => e = .returned (.bool true) ∧ Below w.heap.size w w' := by
  obtain ⟨Xc, hXc⟩ : ∃ A, tupC t.1 t.2.1 t.2.2.1 t.2.2.2.1 t.2.2.2.2 = A := ⟨_, rfl⟩
  have vX : tv t = .agg Xc := by rw [← hXc]; rfl
  rw [vX] at hO
  have NO : Hid _ := hO
  have sX : Xc.size = 5 := by rw [← hXc]; rfl
  have NsX : Hid _ := sX
  have NoX : Hid (Xc.all (·.oneCell') = true) := by show _ = _; rw [← hXc]; exact tup_one _ _ _ _ _
  have iX : Hid ((Try.prog.info? 35).map (·.size) = some Xc.size) := by show _ = _; rw [sX]; exact size5
  have NiP : Hid _ := infoPk h.size
  have P0 : Hid _ := heap_alloc_new w (.cells ps 33)
  have hz1 : (w.alloc (.cells ps 33)).heap.size = w.heap.size + 1 := by simp
  have hN := new_emp 8 (by omega) (by omega) (w.alloc (.cells ps 33))
  rw [hz1] at hN
  have HN : Hid _ := hN
  have hnep := eql_ptab
  clear hO sX hz1 hN h hXc vX
  go_enter Try.func4, Try.ntmps4
  refine cut_code fun d1 e1 => ?_
  go_wp2_with fail
  rw [← e1.out]
  clear e1 d1
  refine cut_code fun d2 e2 => ?_
  go_wp2_with fail
  refine Calls.mono HN.out ?_
  rintro e W1 ⟨rfl, h1, b1⟩
  have B1 : Hid _ := b1
  have hs1 : w.heap.size + 1 ≤ W1.heap.size := by have := b1.size; simp at this; omega
  have P1 : Hid (W1.heap[w.heap.size]? = some (.cells ps 33 (0, 0))) := (b1.block _ (by omega)).trans P0.out
  clear h1 b1 HN
  go_wp2_with fail
  rw [← e2.out]
  clear e2 d2
  refine cut_code fun d3 e3 => ?_
  go_wp2_with (first
    | refine wpList_load_row rfl 33 _ rfl w.heap.size rfl 33 ps (0, 0) _ P1.out Try.underlying33 rfl NiP.out ?_
    | fail)
  refine (NO.out _).mono ?_
  rintro e W2 ⟨rfl, b2⟩
  have hs2 : w.heap.size + 1 ≤ W2.heap.size := by have := b2.size; omega
  have B3 : Hid _ := (B1.out.trans (b2.mono hs1)).trans ((below1 W2 (.cells Xc 35)).mono hs2)
  have hs3 : Hid (W2.heap.size + 1 ≤ (W2.alloc (.cells Xc 35)).heap.size) := by show _ ≤ _; simp
  clear b2 B1
  go_wp2_with (first
    | (refine wpList_store_new rfl 35 _ _ rfl _ Xc W2.heap.size rfl rfl rfl iX.out (Eq.trans (b := 5) rfl NsX.out.symm) NoX.out ?_
       generalize W2.alloc (.cells Xc 35) = V3 at *)
    | fail)
  rw [← e3.out]
  clear e3 d3
  refine cut_code fun d5 e5 => ?_
  go_wp2_with fail
  refine (lives_any _).mono ?_
  rintro e W4 ⟨rfl, b4⟩
  have hv3 : w.heap.size + 1 ≤ V3.heap.size := by have := hs3.out; omega
  have B4 : Hid (Below w.heap.size w W4) := (below1 w _).trans ((B3.out.trans (b4.mono hv3)).mono (by omega))
  clear b4 B3 hs3 hv3
  go_wp2_with fail
  rw [← e5.out]
  clear e5 d5
  refine cut_code fun d7 e7 => ?_
  have hz0 : ¬ zone < 0 := by omega
  go_wp2
  go_ret
  exact ⟨rfl, B4.out⟩
set_option linter.unusedSimpArgs false in
set_option maxRecDepth 20000 in
set_option maxHeartbeats 16000000 in
theorem early_p0 (ps : Array Value) (h : PSt ps) (t : Tup) (hO : ∀ W, Calls Try.prog 9 #[.agg ps] W fun e w' => e = .returned (.tuple #[tv t, .bool true]) ∧ Below W.heap.size W w') (d port zone : Int) (hz0 : ¬ zone < 0) (hz1 : ¬ 65535 < zone) (hp : port < 0) (w : World) :
    Calls Try.prog 4 #[.agg ps, .int .u32 d, .int .i64 port, .int .i64 zone] w fun e w' => e = .returned (.bool true) ∧ Below w.heap.size w w' := by
  obtain ⟨Xc, hXc⟩ : ∃ A, tupC t.1 t.2.1 t.2.2.1 t.2.2.2.1 t.2.2.2.2 = A := ⟨_, rfl⟩
  have vX : tv t = .agg Xc := by rw [← hXc]; rfl
  rw [vX] at hO
  have NO : Hid _ := hO
  have sX : Xc.size = 5 := by rw [← hXc]; rfl
  have NsX : Hid _ := sX
  have NoX : Hid (Xc.all (·.oneCell') = true) := by show _ = _; rw [← hXc]; exact tup_one _ _ _ _ _
  have iX : Hid ((Try.prog.info? 35).map (·.size) = some Xc.size) := by show _ = _; rw [sX]; exact size5
  have NiP : Hid _ := infoPk h.size
  have P0 : Hid _ := heap_alloc_new w (.cells ps 33)
  have hz1 : (w.alloc (.cells ps 33)).heap.size = w.heap.size + 1 := by simp
  have hN := new_emp 8 (by omega) (by omega) (w.alloc (.cells ps 33))
  rw [hz1] at hN
  have HN : Hid _ := hN
  have hnep := eql_ptab
  clear hO sX hz1 hN h hXc vX
  go_enter Try.func4, Try.ntmps4
  refine cut_code fun d1 e1 => ?_
  go_wp2_with fail
  rw [← e1.out]
  clear e1 d1
  refine cut_code fun d2 e2 => ?_
  go_wp2_with fail
  refine Calls.mono HN.out ?_
  rintro e W1 ⟨rfl, h1, b1⟩
  have B1 : Hid _ := b1
  have hs1 : w.heap.size + 1 ≤ W1.heap.size := by have := b1.size; simp at this; omega
  have P1 : Hid (W1.heap[w.heap.size]? = some (.cells ps 33 (0, 0))) := (b1.block _ (by omega)).trans P0.out
  clear h1 b1 HN
  go_wp2_with fail
  rw [← e2.out]
  clear e2 d2
  refine cut_code fun d3 e3 => ?_
  go_wp2_with (first
    | refine wpList_load_row rfl 33 _ rfl w.heap.size rfl 33 ps (0, 0) _ P1.out Try.underlying33 rfl NiP.out ?_
    | fail)
  refine (NO.out _).mono ?_
  rintro e W2 ⟨rfl, b2⟩
  have hs2 : w.heap.size + 1 ≤ W2.heap.size := by have := b2.size; omega
  have B3 : Hid _ := (B1.out.trans (b2.mono hs1)).trans ((below1 W2 (.cells Xc 35)).mono hs2)
  have hs3 : Hid (W2.heap.size + 1 ≤ (W2.alloc (.cells Xc 35)).heap.size) := by show _ ≤ _; simp
  clear b2 B1
  go_wp2_with (first
    | (refine wpList_store_new rfl 35 _ _ rfl _ Xc W2.heap.size rfl rfl rfl iX.out (Eq.trans (b := 5) rfl NsX.out.symm) NoX.out ?_
       generalize W2.alloc (.cells Xc 35) = V3 at *)
    | fail)
  rw [← e3.out]
  clear e3 d3
  refine cut_code fun d5 e5 => ?_
  go_wp2_with fail
  refine (lives_any _).mono ?_
  rintro e W4 ⟨rfl, b4⟩
  have hv3 : w.heap.size + 1 ≤ V3.heap.size := by have := hs3.out; omega
  have B4 : Hid (Below w.heap.size w W4) := (below1 w _).trans ((B3.out.trans (b4.mono hv3)).mono (by omega))
  clear b4 B3 hs3 hv3
  go_wp2_with fail
  rw [← e5.out]
  clear e5 d5
  refine cut_code fun d7 e7 => ?_
  go_wp2
  go_ret
  exact ⟨rfl, B4.out⟩
set_option linter.unusedSimpArgs false in
set_option maxRecDepth 20000 in
set_option maxHeartbeats 16000000 in
theorem early_p1 (ps : Array Value) (h : PSt ps) (t : Tup) (hO : ∀ W, Calls Try.prog 9 #[.agg ps] W fun e w' => e = .returned (.tuple #[tv t, .bool true]) ∧ Below W.heap.size W w') (d port zone : Int) (hz0 : ¬ zone < 0) (hz1 : ¬ 65535 < zone) (hp : 65535 < port) (w : World) :
    Calls Try.prog 4 #[.agg ps, .int .u32 d, .int .i64 port, .int .i64 zone] w fun e w' => e = .returned (.bool true) ∧ Below w.heap.size w w' := by
  obtain ⟨Xc, hXc⟩ : ∃ A, tupC t.1 t.2.1 t.2.2.1 t.2.2.2.1 t.2.2.2.2 = A := ⟨_, rfl⟩
  have vX : tv t = .agg Xc := by rw [← hXc]; rfl
  rw [vX] at hO
  have NO : Hid _ := hO
  have sX : Xc.size = 5 := by rw [← hXc]; rfl
  have NsX : Hid _ := sX
  have NoX : Hid (Xc.all (·.oneCell') = true) := by show _ = _; rw [← hXc]; exact tup_one _ _ _ _ _
  have iX : Hid ((Try.prog.info? 35).map (·.size) = some Xc.size) := by show _ = _; rw [sX]; exact size5
  have NiP : Hid _ := infoPk h.size
  have P0 : Hid _ := heap_alloc_new w (.cells ps 33)
  have hz1 : (w.alloc (.cells ps 33)).heap.size = w.heap.size + 1 := by simp
  have hN := new_emp 8 (by omega) (by omega) (w.alloc (.cells ps 33))
  rw [hz1] at hN
  have HN : Hid _ := hN
  have hnep := eql_ptab
  clear hO sX hz1 hN h hXc vX
  go_enter Try.func4, Try.ntmps4
  refine cut_code fun d1 e1 => ?_
  go_wp2_with fail
  rw [← e1.out]
  clear e1 d1
  refine cut_code fun d2 e2 => ?_
  go_wp2_with fail
  refine Calls.mono HN.out ?_
  rintro e W1 ⟨rfl, h1, b1⟩
  have B1 : Hid _ := b1
  have hs1 : w.heap.size + 1 ≤ W1.heap.size := by have := b1.size; simp at this; omega
  have P1 : Hid (W1.heap[w.heap.size]? = some (.cells ps 33 (0, 0))) := (b1.block _ (by omega)).trans P0.out
  clear h1 b1 HN
  go_wp2_with fail
  rw [← e2.out]
  clear e2 d2
  refine cut_code fun d3 e3 => ?_
  go_wp2_with (first
    | refine wpList_load_row rfl 33 _ rfl w.heap.size rfl 33 ps (0, 0) _ P1.out Try.underlying33 rfl NiP.out ?_
    | fail)
  refine (NO.out _).mono ?_
  rintro e W2 ⟨rfl, b2⟩
  have hs2 : w.heap.size + 1 ≤ W2.heap.size := by have := b2.size; omega
  have B3 : Hid _ := (B1.out.trans (b2.mono hs1)).trans ((below1 W2 (.cells Xc 35)).mono hs2)
  have hs3 : Hid (W2.heap.size + 1 ≤ (W2.alloc (.cells Xc 35)).heap.size) := by show _ ≤ _; simp
  clear b2 B1
  go_wp2_with (first
    | (refine wpList_store_new rfl 35 _ _ rfl _ Xc W2.heap.size rfl rfl rfl iX.out (Eq.trans (b := 5) rfl NsX.out.symm) NoX.out ?_
       generalize W2.alloc (.cells Xc 35) = V3 at *)
    | fail)
  rw [← e3.out]
  clear e3 d3
  refine cut_code fun d5 e5 => ?_
  go_wp2_with fail
  refine (lives_any _).mono ?_
  rintro e W4 ⟨rfl, b4⟩
  have hv3 : w.heap.size + 1 ≤ V3.heap.size := by have := hs3.out; omega
  have B4 : Hid (Below w.heap.size w W4) := (below1 w _).trans ((B3.out.trans (b4.mono hv3)).mono (by omega))
  clear b4 B3 hs3 hv3
  go_wp2_with fail
  rw [← e5.out]
  clear e5 d5
  refine cut_code fun d7 e7 => ?_
  have hp0 : ¬ port < 0 := by omega
  go_wp2
  go_ret
  exact ⟨rfl, B4.out⟩
theorem back_any (ps : Array Value) (h : PSt ps) (d port zone : Int) (hd : 0 ≤ d ∧ d ≤ 4294967295) (w : World) :
    Calls Try.prog 4 #[.agg ps, .int .u32 d, .int .i64 port, .int .i64 zone] w fun e w' => e = .returned (.bool true) ∧ Below w.heap.size w w' := by
  obtain ⟨ip, fr, pr, src, dst, k, ty, co, re, sp, dp, hp, hR⟩ := h.pkb
  have hO := fun W => of_any hp W
  cases hT : hasT ip fr k ty co
  · rw [hT] at hO
    exact early_no ps h _ hO d port zone w
  · rw [hT] at hO
    by_cases hz0 : zone < 0
    · exact early_z0 ps h _ hO d port zone hz0 w
    by_cases hz1 : 65535 < zone
    · exact early_z1 ps h _ hO d port zone hz1 w
    by_cases hp0 : port < 0
    · exact early_p0 ps h _ hO d port zone hz0 hz1 hp0 w
    by_cases hp1 : 65535 < port
    · exact early_p1 ps h _ hO d port zone hz0 hz1 hp1 w
    have hip : ip = true := by
      unfold hasT at hT
      cases ip
      · simp at hT
      · rfl
    subst hip
    by_cases hk : k = 1
    · subst hk
      exact back_icmp ps h hp hR hT d port zone hd (by omega) (by omega) w
    · exact back_l4 ps h hp hR hT hk d port zone hd (by omega) (by omega) w
end Go.Proofs.Ytmndfmbnedfloaa
