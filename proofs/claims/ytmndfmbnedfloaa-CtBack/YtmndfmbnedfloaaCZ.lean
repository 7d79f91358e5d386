/- CtTuples: the walk. Conditions: as said. -/
import Derived.Test.YtmndfmbnedfloaaCY
namespace Go.Proofs.Ytmndfmbnedfloaa
open Go.RowKit
theorem eql_tup (a b : Tup) (W : World) : (binOp .eql 35 (tv a) (tv b)).run Try.prog W = .ok (.bool (decide (a = b))) W := by
  obtain ⟨a0, a1, a2, a3, a4⟩ := a
  obtain ⟨b0, b1, b2, b3, b4⟩ := b
  unfold tv tupC
  by_cases h0 : a0 = b0
  · by_cases h1 : a1 = b1
    · by_cases h2 : a2 = b2
      · by_cases h3 : a3 = b3
        · by_cases h4 : a4 = b4
          · subst h0 h1 h2 h3 h4; simp [go_sem]
          · subst h0 h1 h2 h3; simp [go_sem, h4]
        · subst h0 h1 h2; simp [go_sem, h3]
      · subst h0 h1; simp [go_sem, h2]
    · subst h0; simp [go_sem, h1]
  · simp [go_sem, h0]
theorem guard_eql (x y : Operand) (a b : Tup) (W : World) : (eqGuard .eql 35 x y (tv a) (tv b)).run Try.prog W = .ok () W := by
  obtain ⟨a0, a1, a2, a3, a4⟩ := a
  obtain ⟨b0, b1, b2, b3, b4⟩ := b
  first | kernel_rfl | (unfold tv tupC; simp [go_sem])
/-- A packet's tuple, or noughts. -/
def tupOf (ip : Bool) (fr pr src dst k ty co re sp dp : Int) : Tup := if hasT ip fr k ty co then (pr, src, dst, portT k re sp, portT k re dp) else (0, 0, 0, 0, 0)
theorem of_any {ps : Array Value} {ip : Bool} {fr pr src dst k ty co re sp dp : Int} (h : Pk ps ip fr pr src dst k ty co re sp dp) (w : World) :
    Calls Try.prog 9 #[.agg ps] w fun e w' => e = .returned (.tuple #[tv (tupOf ip fr pr src dst k ty co re sp dp), .bool (hasT ip fr k ty co)]) ∧ Below w.heap.size w w' := by
  unfold tupOf
  cases hh : hasT ip fr k ty co
  · exact of_no h hh w
  · exact of_yes h hh w
theorem rof_any {ps : Array Value} {ip : Bool} {fr pr src dst k ty co re sp dp : Int} (h : Pk ps ip fr pr src dst k ty co re sp dp) (w : World) :
    Calls Try.prog 10 #[.agg ps] w fun e w' => e = .returned (.tuple #[tv (tupOf ip fr pr src dst k ty co re sp dp), .bool (hasT ip fr k ty co)]) ∧ Below w.heap.size w w' := by
  unfold tupOf
  cases hh : hasT ip fr k ty co
  · exact rof_no h hh w
  · exact rof_yes h hh w
theorem eql_bool (b : Bool) (W : World) : (binOp .eql 4 (.bool b) (.bool b)).run Try.prog W = .ok (.bool true) W := by
  cases b <;> simp [go_sem]
set_option linter.unusedSimpArgs false in
set_option maxRecDepth 20000 in
set_option maxHeartbeats 4000000 in
theorem tuples_any (ps : Array Value) (h : PSt ps) (t : Tup) (w : World) : Calls Try.prog 3 #[.agg ps, tv t] w fun e w' => e = .returned (.bool true) ∧ Below w.heap.size w w' := by
  obtain ⟨ip, fr, pr, src, dst, k, ty, co, re, sp, dp, hp⟩ := h.pk
  have HO : Hid (∀ W, Calls Try.prog 9 #[.agg ps] W fun e w' => e = .returned (.tuple #[tv (tupOf ip fr pr src dst k ty co re sp dp), .bool (hasT ip fr k ty co)]) ∧ Below W.heap.size W w') := fun W => of_any hp W
  have HR : Hid (∀ W, Calls Try.prog 10 #[.agg ps] W fun e w' => e = .returned (.tuple #[tv (tupOf ip fr pr src dst k ty co re sp dp), .bool (hasT ip fr k ty co)]) ∧ Below W.heap.size W w') := fun W => rof_any hp W
  obtain ⟨a, ha⟩ : ∃ a, tupOf ip fr pr src dst k ty co re sp dp = a := ⟨_, rfl⟩
  obtain ⟨ok, hok⟩ : ∃ ok, hasT ip fr k ty co = ok := ⟨_, rfl⟩
  rw [ha, hok] at HO HR
  obtain ⟨A, hA⟩ : ∃ A, tupC a.1 a.2.1 a.2.2.1 a.2.2.2.1 a.2.2.2.2 = A := ⟨_, rfl⟩
  obtain ⟨C, hC⟩ : ∃ C, tupC t.1 t.2.1 t.2.2.1 t.2.2.2.1 t.2.2.2.2 = C := ⟨_, rfl⟩
  have hAv : tv a = .agg A := by rw [← hA]; rfl
  have hCv : tv t = .agg C := by rw [← hC]; rfl
  have HAV : Hid _ := hAv
  have HCV : Hid _ := hCv
  have hAs : A.size = 5 := by rw [← hA]; rfl
  have hAo : A.all (·.oneCell') = true := by rw [← hA]; exact tup_one _ _ _ _ _
  have hCs : C.size = 5 := by rw [← hC]; rfl
  have AS : Hid _ := hAs
  have AO : Hid _ := hAo
  have AI : Hid ((Try.prog.info? 35).map (·.size) = some A.size) := by show _ = _; rw [hAs]; exact size5
  have CI : Hid ((Try.prog.info? 35).map (·.size) = some C.size) := by show _ = _; rw [hCs]; exact size5
  have HIP : Hid _ := infoPk h.size
  have P0 : Hid _ := two_first w (.cells ps 33) (.cells C 35)
  have T0 : Hid _ := two_last w (.cells ps 33) (.cells C 35)
  have HB : Hid _ := below2 w (.cells ps 33) (.cells C 35)
  have HTU : Hid (∀ W, Calls Try.prog 12 #[.agg C] W fun e w' => e = .returned (tv (turn t)) ∧ Below W.heap.size W w') := by
    show ∀ W, _
    intro W; rw [← hCv]; exact turned_any t W
  have HRT : Hid (∀ W, Calls Try.prog 13 #[.agg C] W fun e w' => e = .returned (tv (turn t)) ∧ Below W.heap.size W w') := by
    show ∀ W, _
    intro W; rw [← hCv]; exact rturned_any t W
  have HTT : Hid (∀ W, Calls Try.prog 12 #[tv (turn t)] W fun e w' => e = .returned (.agg C) ∧ Below W.heap.size W w') := by
    show ∀ W, _
    intro W; rw [← hCv]; exact turned_any (turn t) W
  have q1 : ∀ W, (binOp .eql 35 (.agg A) (.agg A)).run Try.prog W = .ok (.bool true) W := fun W => by rw [← hAv, eql_tup]; simp
  have q2 : ∀ W, (binOp .eql 35 (tv (turn t)) (tv (turn t))).run Try.prog W = .ok (.bool true) W := fun W => by rw [eql_tup]; simp
  have q3 : ∀ W, (binOp .eql 35 (.agg C) (.agg C)).run Try.prog W = .ok (.bool true) W := fun W => by rw [← hCv, eql_tup]; simp
  have gd1 : ∀ x y W, (eqGuard .eql 35 x y (.agg A) (.agg A)).run Try.prog W = .ok () W := fun x y W => by rw [← hAv]; exact guard_eql x y a a W
  have gd2 := fun x y W => guard_eql x y (turn t) (turn t) W
  have gd3 : ∀ x y W, (eqGuard .eql 35 x y (.agg C) (.agg C)).run Try.prog W = .ok () W := fun x y W => by rw [← hCv]; exact guard_eql x y t t W
  have q4 := eql_bool ok
  rw [hAv] at HO HR
  rw [hCv]
  clear h hp ha hok hA hC hAv hCv hAs hAo hCs
  go_enter Try.func3, Try.ntmps3
  go_wp2_with (first
    | refine wpList_load_row rfl 33 _ rfl w.heap.size rfl 33 ps (0, 0) _ P0.out Try.underlying33 rfl HIP.out ?_
    | fail)
  refine (HO.out _).mono ?_
  rintro e W1 ⟨rfl, b1⟩
  have P1 : Hid _ := (b1.block _ (lt_of_heap P0.out)).trans P0.out
  have T1 : Hid _ := (b1.block _ (lt_of_heap T0.out)).trans T0.out
  have B1 : Hid _ := HB.out.trans (b1.mono HB.out.size)
  clear b1 P0 T0 HB
  have P2 : Hid _ := (heap_alloc_old W1 (.cells A 35) (lt_of_heap P1.out)).trans P1.out
  have T2 : Hid _ := (heap_alloc_old W1 (.cells A 35) (lt_of_heap T1.out)).trans T1.out
  have A2 : Hid _ := heap_alloc_new W1 (.cells A 35)
  have B2 : Hid _ := B1.out.trans ((below1 W1 (.cells A 35)).mono B1.out.size)
  clear P1 T1 B1
  go_wp2_with (first
    | (refine wpList_store_new rfl 35 _ _ rfl _ A W1.heap.size rfl rfl rfl AI.out (Eq.trans (b := 5) rfl AS.out.symm) AO.out ?_
       generalize W1.alloc (.cells A 35) = V at *)
    | refine wpList_load_row rfl 33 _ rfl w.heap.size rfl 33 ps (0, 0) _ P2.out Try.underlying33 rfl HIP.out ?_
    | fail)
  refine (HR.out _).mono ?_
  rintro e W3 ⟨rfl, b3⟩
  have T3 : Hid _ := (b3.block _ (lt_of_heap T2.out)).trans T2.out
  have A3 : Hid _ := (b3.block _ (lt_of_heap A2.out)).trans A2.out
  have B3 : Hid _ := B2.out.trans (b3.mono B2.out.size)
  clear b3 P2 T2 A2 B2
  have T4 : Hid _ := (heap_alloc_old W3 (.cells A 35) (lt_of_heap T3.out)).trans T3.out
  have A4 : Hid _ := (heap_alloc_old W3 (.cells A 35) (lt_of_heap A3.out)).trans A3.out
  have D4 : Hid _ := heap_alloc_new W3 (.cells A 35)
  have B4 : Hid _ := B3.out.trans ((below1 W3 (.cells A 35)).mono B3.out.size)
  clear T3 A3 B3
  go_wp2_with (first
    | (refine wpList_store_new rfl 35 _ _ rfl _ A W3.heap.size rfl rfl rfl AI.out (Eq.trans (b := 5) rfl AS.out.symm) AO.out ?_
       generalize W3.alloc (.cells A 35) = U at *)
    | fail)
  have key : ∀ W, Below U.heap.size U W → W.heap[W1.heap.size]? = some (.cells A 35 (0, 0)) ∧ W.heap[W3.heap.size]? = some (.cells A 35 (0, 0)) ∧ W.heap[w.heap.size + 1]? = some (.cells C 35 (0, 0)) := fun W hb =>
    ⟨(hb.block _ (lt_of_heap A4.out)).trans A4.out, (hb.block _ (lt_of_heap D4.out)).trans D4.out, (hb.block _ (lt_of_heap T4.out)).trans T4.out⟩
  have KC : Hid _ := key
  clear key A4 D4 T4
  refine wp_region_held_drew (S := (fun W => W.heap[W1.heap.size]? = some (.cells A 35 (0, 0)) ∧ W.heap[W3.heap.size]? = some (.cells A 35 (0, 0)) ∧ W.heap[w.heap.size + 1]? = some (.cells C 35 (0, 0)))) (by kernel_rfl) ?_ (fun hHeld => ?_)
  · exact KC.out _ (Below.refl _ _).drew
  refine wpAnyH_ready (rs := [0]) (by kernel_rfl) (by simp) ?_
  refine AllReadyH.cons (o := _) rfl (fun K hK => ?_) AllReadyH.nil
  go_simp
  refine (lives_any _).mono ?_
  rintro e X1 ⟨rfl, x1⟩
  have BX1 : Hid (Below U.heap.size U X1) := (Below.refl _ _).drew.trans (x1.mono (by simp))
  clear x1
  go_wp2_with fail
  refine hK.out _ _ (KC.out _ BX1.out) (fun hHeld2 => ?_)
  clear hK K hHeld
  have hHeld := hHeld2
  clear hHeld2
  try simp only [List.getElem_toArray, List.getElem_cons_zero, List.getElem_cons_succ, Act.put, List.setIfInBounds_toArray, List.set_cons_zero, List.set_cons_succ]
  refine wpAnyH_take (i := 1) (v := ?_) rfl (by kernel_rfl) (by kernel_rfl) (by kernel_rfl) (fun _ _ _ h => h) (Or.inl ⟨by rfl, ?_⟩) (by assumption) ?_
  rotate_left
  · (intro w hSw; (try dsimp only at hSw); go_simp; try with_reducible rfl)
  try simp only [List.getElem_toArray, List.getElem_cons_zero, List.getElem_cons_succ, Act.put, List.setIfInBounds_toArray, List.set_cons_zero, List.set_cons_succ]
  refine wpAnyH_take (i := 2) (v := .agg A) rfl (by kernel_rfl) (by kernel_rfl) (by kernel_rfl) (fun _ _ _ h => h) (yields_loadR (by rfl) 35 _ rfl W1.heap.size rfl 35 A _ (fun _ h => h.1) Try.underlying35 rfl AI.out) (by assumption) ?_
  try simp only [List.getElem_toArray, List.getElem_cons_zero, List.getElem_cons_succ, Act.put, List.setIfInBounds_toArray, List.set_cons_zero, List.set_cons_succ]
  refine wpAnyH_take (i := 3) (v := .agg A) rfl (by kernel_rfl) (by kernel_rfl) (by kernel_rfl) (fun _ _ _ h => h) (yields_loadR (by rfl) 35 _ rfl W3.heap.size rfl 35 A _ (fun _ h => h.2.1) Try.underlying35 rfl AI.out) (by assumption) ?_
  try simp only [List.getElem_toArray, List.getElem_cons_zero, List.getElem_cons_succ, Act.put, List.setIfInBounds_toArray, List.set_cons_zero, List.set_cons_succ]
  refine wpAnyH_take (i := 4) (v := ?_) rfl (by kernel_rfl) (by kernel_rfl) (by kernel_rfl) (fun _ _ _ h => h) (Or.inl ⟨by rfl, ?_⟩) (by assumption) ?_
  rotate_left
  · (intro w hSw; (try dsimp only at hSw); go_simp; try with_reducible rfl)
  try simp only [List.getElem_toArray, List.getElem_cons_zero, List.getElem_cons_succ, Act.put, List.setIfInBounds_toArray, List.set_cons_zero, List.set_cons_succ]
  refine wpAnyH_take (i := 5) (v := ?_) rfl (by kernel_rfl) (by kernel_rfl) (by kernel_rfl) (fun _ _ _ h => h) (Or.inl ⟨by rfl, ?_⟩) (by assumption) ?_
  rotate_left
  · (intro w hSw; (try dsimp only at hSw); go_simp; try with_reducible rfl)
  try simp only [List.getElem_toArray, List.getElem_cons_zero, List.getElem_cons_succ, Act.put, List.setIfInBounds_toArray, List.set_cons_zero, List.set_cons_succ]
  refine wpAnyH_take (i := 6) (v := ?_) rfl (by kernel_rfl) (by kernel_rfl) (by kernel_rfl) (fun _ _ _ h => h) (Or.inl ⟨by rfl, ?_⟩) (by assumption) ?_
  rotate_left
  · (intro w hSw; (try dsimp only at hSw); go_simp; try with_reducible rfl)
  try simp only [List.getElem_toArray, List.getElem_cons_zero, List.getElem_cons_succ, Act.put, List.setIfInBounds_toArray, List.set_cons_zero, List.set_cons_succ]
  refine wpAnyH_take (i := 7) (v := ?_) rfl (by kernel_rfl) (by kernel_rfl) (by kernel_rfl) (fun _ _ _ h => h) (Or.inl ⟨by rfl, ?_⟩) (by assumption) ?_
  rotate_left
  · (intro w hSw; (try dsimp only at hSw); go_simp; try with_reducible rfl)
  try simp only [List.getElem_toArray, List.getElem_cons_zero, List.getElem_cons_succ, Act.put, List.setIfInBounds_toArray, List.set_cons_zero, List.set_cons_succ]
  refine wpAnyH_take (i := 8) (v := ?_) rfl (by kernel_rfl) (by kernel_rfl) (by kernel_rfl) (fun _ _ _ h => h) (Or.inl ⟨by rfl, ?_⟩) (by assumption) ?_
  rotate_left
  · (intro w hSw; (try dsimp only at hSw); go_simp; try with_reducible rfl)
  try simp only [List.getElem_toArray, List.getElem_cons_zero, List.getElem_cons_succ, Act.put, List.setIfInBounds_toArray, List.set_cons_zero, List.set_cons_succ]
  refine wpAnyH_take (i := 9) (v := ?_) rfl (by kernel_rfl) (by kernel_rfl) (by kernel_rfl) (fun _ _ _ h => h) (Or.inl ⟨by rfl, ?_⟩) (by assumption) ?_
  rotate_left
  · (intro w hSw; (try dsimp only at hSw); go_simp; try with_reducible rfl)
  try simp only [List.getElem_toArray, List.getElem_cons_zero, List.getElem_cons_succ, Act.put, List.setIfInBounds_toArray, List.set_cons_zero, List.set_cons_succ]
  refine wpAnyH_take (i := 10) (v := ?_) rfl (by kernel_rfl) (by kernel_rfl) (by kernel_rfl) (fun _ _ _ h => h) (Or.inl ⟨by rfl, ?_⟩) (by assumption) ?_
  rotate_left
  · (intro w hSw; (try dsimp only at hSw); go_simp; try with_reducible rfl)
  try simp only [List.getElem_toArray, List.getElem_cons_zero, List.getElem_cons_succ, Act.put, List.setIfInBounds_toArray, List.set_cons_zero, List.set_cons_succ]
  refine wpAnyH_take (i := 11) (v := ?_) rfl (by kernel_rfl) (by kernel_rfl) (by kernel_rfl) (fun _ _ _ h => h) (Or.inl ⟨by rfl, ?_⟩) (by assumption) ?_
  rotate_left
  · (intro w hSw; (try dsimp only at hSw); go_simp; try with_reducible rfl)
  try simp only [List.getElem_toArray, List.getElem_cons_zero, List.getElem_cons_succ, Act.put, List.setIfInBounds_toArray, List.set_cons_zero, List.set_cons_succ]
  refine wpAnyH_take (i := 12) (v := .agg C) rfl (by kernel_rfl) (by kernel_rfl) (by kernel_rfl) (fun _ _ _ h => h) (yields_loadR (by rfl) 35 _ rfl (w.heap.size + 1) rfl 35 C _ (fun _ h => h.2.2) Try.underlying35 rfl CI.out) (by assumption) ?_
  try simp only [List.getElem_toArray, List.getElem_cons_zero, List.getElem_cons_succ, Act.put, List.setIfInBounds_toArray, List.set_cons_zero, List.set_cons_succ]
  refine wpAnyH_take (i := 14) (v := .agg C) rfl (by kernel_rfl) (by kernel_rfl) (by kernel_rfl) (fun _ _ _ h => h) (yields_loadR (by rfl) 35 _ rfl (w.heap.size + 1) rfl 35 C _ (fun _ h => h.2.2) Try.underlying35 rfl CI.out) (by assumption) ?_
  try simp only [List.getElem_toArray, List.getElem_cons_zero, List.getElem_cons_succ, Act.put, List.setIfInBounds_toArray, List.set_cons_zero, List.set_cons_succ]
  refine wpAnyH_ready (rs := [13]) (by kernel_rfl) (by simp) ?_
  refine AllReadyH.cons (o := _) rfl (fun K hK => ?_) AllReadyH.nil
  go_simp
  refine (HTU.out _).mono ?_
  rintro e X2 ⟨rfl, x2⟩
  have BX2 : Hid (Below U.heap.size U X2) := BX1.out.trans (x2.mono BX1.out.size)
  clear x2
  go_wp2_with fail
  refine hK.out _ _ (KC.out _ BX2.out) (fun hHeld2 => ?_)
  clear hK K hHeld
  have hHeld := hHeld2
  clear hHeld2
  try simp only [List.getElem_toArray, List.getElem_cons_zero, List.getElem_cons_succ, Act.put, List.setIfInBounds_toArray, List.set_cons_zero, List.set_cons_succ]
  refine wpAnyH_ready (rs := [15]) (by kernel_rfl) (by simp) ?_
  refine AllReadyH.cons (o := _) rfl (fun K hK => ?_) AllReadyH.nil
  go_simp
  refine (HRT.out _).mono ?_
  rintro e X3 ⟨rfl, x3⟩
  have BX3 : Hid (Below U.heap.size U X3) := BX2.out.trans (x3.mono BX2.out.size)
  clear x3
  go_wp2_with fail
  refine hK.out _ _ (KC.out _ BX3.out) (fun hHeld2 => ?_)
  clear hK K hHeld
  have hHeld := hHeld2
  clear hHeld2
  try simp only [List.getElem_toArray, List.getElem_cons_zero, List.getElem_cons_succ, Act.put, List.setIfInBounds_toArray, List.set_cons_zero, List.set_cons_succ]
  refine wpAnyH_take (i := 16) (v := ?_) rfl (by kernel_rfl) (by kernel_rfl) (by kernel_rfl) (fun _ _ _ h => h) (Or.inl ⟨by rfl, ?_⟩) (by assumption) ?_
  rotate_left
  · (intro w hSw; (try dsimp only at hSw); go_simp; try with_reducible rfl)
  try simp only [List.getElem_toArray, List.getElem_cons_zero, List.getElem_cons_succ, Act.put, List.setIfInBounds_toArray, List.set_cons_zero, List.set_cons_succ]
  refine wpAnyH_take (i := 17) (v := ?_) rfl (by kernel_rfl) (by kernel_rfl) (by kernel_rfl) (fun _ _ _ h => h) (Or.inl ⟨by rfl, ?_⟩) (by assumption) ?_
  rotate_left
  · (intro w hSw; (try dsimp only at hSw); go_simp; try with_reducible rfl)
  try simp only [List.getElem_toArray, List.getElem_cons_zero, List.getElem_cons_succ, Act.put, List.setIfInBounds_toArray, List.set_cons_zero, List.set_cons_succ]
  refine wpAnyH_take (i := 18) (v := ?_) rfl (by kernel_rfl) (by kernel_rfl) (by kernel_rfl) (fun _ _ _ h => h) (Or.inl ⟨by rfl, ?_⟩) (by assumption) ?_
  rotate_left
  · (intro w hSw; (try dsimp only at hSw); go_simp; try with_reducible rfl)
  try simp only [List.getElem_toArray, List.getElem_cons_zero, List.getElem_cons_succ, Act.put, List.setIfInBounds_toArray, List.set_cons_zero, List.set_cons_succ]
  refine wpAnyH_take (i := 19) (v := .agg C) rfl (by kernel_rfl) (by kernel_rfl) (by kernel_rfl) (fun _ _ _ h => h) (yields_loadR (by rfl) 35 _ rfl (w.heap.size + 1) rfl 35 C _ (fun _ h => h.2.2) Try.underlying35 rfl CI.out) (by assumption) ?_
  try simp only [List.getElem_toArray, List.getElem_cons_zero, List.getElem_cons_succ, Act.put, List.setIfInBounds_toArray, List.set_cons_zero, List.set_cons_succ]
  refine wpAnyH_take (i := 22) (v := .agg C) rfl (by kernel_rfl) (by kernel_rfl) (by kernel_rfl) (fun _ _ _ h => h) (yields_loadR (by rfl) 35 _ rfl (w.heap.size + 1) rfl 35 C _ (fun _ h => h.2.2) Try.underlying35 rfl CI.out) (by assumption) ?_
  try simp only [List.getElem_toArray, List.getElem_cons_zero, List.getElem_cons_succ, Act.put, List.setIfInBounds_toArray, List.set_cons_zero, List.set_cons_succ]
  refine wpAnyH_ready (rs := [20]) (by kernel_rfl) (by simp) ?_
  refine AllReadyH.cons (o := _) rfl (fun K hK => ?_) AllReadyH.nil
  go_simp
  refine (HTU.out _).mono ?_
  rintro e X4 ⟨rfl, x4⟩
  have BX4 : Hid (Below U.heap.size U X4) := BX3.out.trans (x4.mono BX3.out.size)
  clear x4
  go_wp2_with fail
  refine hK.out _ _ (KC.out _ BX4.out) (fun hHeld2 => ?_)
  clear hK K hHeld
  have hHeld := hHeld2
  clear hHeld2
  try simp only [List.getElem_toArray, List.getElem_cons_zero, List.getElem_cons_succ, Act.put, List.setIfInBounds_toArray, List.set_cons_zero, List.set_cons_succ]
  refine wpAnyH_ready (rs := [21]) (by kernel_rfl) (by simp) ?_
  refine AllReadyH.cons (o := _) rfl (fun K hK => ?_) AllReadyH.nil
  go_simp
  refine (HTT.out _).mono ?_
  rintro e X5 ⟨rfl, x5⟩
  have BX5 : Hid (Below U.heap.size U X5) := BX4.out.trans (x5.mono BX4.out.size)
  clear x5
  go_wp2_with fail
  refine hK.out _ _ (KC.out _ BX5.out) (fun hHeld2 => ?_)
  clear hK K hHeld
  have hHeld := hHeld2
  clear hHeld2
  try simp only [List.getElem_toArray, List.getElem_cons_zero, List.getElem_cons_succ, Act.put, List.setIfInBounds_toArray, List.set_cons_zero, List.set_cons_succ]
  refine wpAnyH_take (i := 23) (v := ?_) rfl (by kernel_rfl) (by kernel_rfl) (by kernel_rfl) (fun _ _ _ h => h) (Or.inl ⟨by rfl, ?_⟩) (by assumption) ?_
  rotate_left
  · (intro w hSw; (try dsimp only at hSw); go_simp; try with_reducible rfl)
  try simp only [List.getElem_toArray, List.getElem_cons_zero, List.getElem_cons_succ, Act.put, List.setIfInBounds_toArray, List.set_cons_zero, List.set_cons_succ]
  refine wpAnyH_take (i := 24) (v := ?_) rfl (by kernel_rfl) (by kernel_rfl) (by kernel_rfl) (fun _ _ _ h => h) (Or.inl ⟨by rfl, ?_⟩) (by assumption) ?_
  rotate_left
  · (intro w hSw; (try dsimp only at hSw); go_simp; try with_reducible rfl)
  try simp only [List.getElem_toArray, List.getElem_cons_zero, List.getElem_cons_succ, Act.put, List.setIfInBounds_toArray, List.set_cons_zero, List.set_cons_succ]
  refine wpAnyH_take (i := 25) (v := ?_) rfl (by kernel_rfl) (by kernel_rfl) (by kernel_rfl) (fun _ _ _ h => h) (Or.inl ⟨by rfl, ?_⟩) (by assumption) ?_
  rotate_left
  · (intro w hSw; (try dsimp only at hSw); go_simp; try with_reducible rfl)
  try simp only [List.getElem_toArray, List.getElem_cons_zero, List.getElem_cons_succ, Act.put, List.setIfInBounds_toArray, List.set_cons_zero, List.set_cons_succ]
  refine wpAnyH_done (by kernel_rfl) ?_ _
  go_wp2
  go_ret
  exact ⟨rfl, B4.out.trans (BX5.out.mono B4.out.size)⟩
end Go.Proofs.Ytmndfmbnedfloaa
