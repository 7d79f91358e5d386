/- The reference's tuple of any packet; CtTuples. Conditions: the packet's cells are of their kinds. -/
import Derived.Test.YtmndfmbnedfloaaCV
namespace Go.Proofs.Ytmndfmbnedfloaa
open Go.RowKit
theorem and_split (x : BitVec 64) : (x &&& 16383#64 = 0#64) ↔ (x &&& 8191#64 = 0#64 ∧ x &&& 8192#64 = 0#64) := by
  have h : x &&& 16383#64 = (x &&& 8191#64) ||| (x &&& 8192#64) := by
    rw [← BitVec.and_or_distrib_left]; rfl
  rw [h, BitVec.or_eq_zero_iff]
theorem bits_zero (fr m : Int) (hm : 0 ≤ m ∧ m ≤ 65535) : (bits BinOp.and IntKind.i64 fr m == 0) = decide (BitVec.ofInt 64 fr &&& BitVec.ofInt 64 m = 0#64) := by
  have hb : (BitVec.ofInt 64 fr &&& BitVec.ofInt 64 m).toNat ≤ m.toNat := by
    rw [BitVec.toNat_and]
    refine Nat.le_trans Nat.and_le_right ?_
    simp [BitVec.toNat_ofInt]
    omega
  have e : bits BinOp.and IntKind.i64 fr m = ((BitVec.ofInt 64 fr &&& BitVec.ofInt 64 m).toNat : Int) := by
    show IntKind.i64.wrap ((BitVec.ofInt 64 fr &&& BitVec.ofInt 64 m).toNat : Int) = _
    rw [IntKind.wrap_i64]; omega
  rw [e, Bool.eq_iff_iff]
  simp only [beq_iff_eq, decide_eq_true_eq]
  constructor
  · intro h
    apply BitVec.eq_of_toNat_eq
    simpa using h
  · intro h
    rw [h]; rfl
theorem whole_split (fr : Int) : (bits BinOp.and IntKind.i64 fr 16383 == 0) = (firstB fr && moreB fr) := by
  unfold firstB moreB
  rw [bits_zero fr 16383 (by omega), bits_zero fr 8191 (by omega), bits_zero fr 8192 (by omega), Bool.eq_iff_iff]
  simp only [Bool.and_eq_true, decide_eq_true_eq]
  exact and_split _
set_option maxHeartbeats 400000 in
theorem rwhole_any (is : Array Value) (fr : Int) (h2 : is[2]? = some (.int .i64 fr)) (w : World) : Calls Try.prog 27 #[.agg is] w fun e w' => e = .returned (.bool (firstB fr && moreB fr)) ∧ Below w.heap.size w w' := by
  have HW : Hid _ := whole_split fr
  go_enter Try.func27, Try.ntmps27
  go_wp2
  go_ret
  exact ⟨by rw [← HW.out]; rfl, below1 _ _⟩
set_option maxRecDepth 20000 in
set_option maxHeartbeats 1000000 in
theorem rports_l4 (ps : Array Value) (k sp dp : Int) (hk : k = 2 ∨ k = 3) (h20 : ps[20]? = some (.int .i64 k)) (h24 : ps[24]? = some (.int .i64 sp)) (h25 : ps[25]? = some (.int .i64 dp)) (w : World) :
    Calls Try.prog 28 #[.agg ps] w fun e w' => e = .returned (.tuple #[.int .i64 sp, .int .i64 dp]) ∧ Below w.heap.size w w' := by
  rcases hk with rfl | rfl
  all_goals
    go_enter Try.func28, Try.ntmps28
    go_wp2_with fail
    go_quiet (fail)
    go_wp2
    go_ret2
    exact ⟨rfl, below_drewN (below1 _ _) _⟩
set_option maxRecDepth 20000 in
set_option maxHeartbeats 1000000 in
theorem rports_echo (ps : Array Value) (ty re : Int) (hty : ty = 0 ∨ ty = 8) (hr : 0 ≤ re ∧ re ≤ 4294967295) (h20 : ps[20]? = some (.int .i64 1)) (h21 : ps[21]? = some (.int .i64 ty)) (h23 : ps[23]? = some (.int .u32 re)) (w : World) :
    Calls Try.prog 28 #[.agg ps] w fun e w' => e = .returned (.tuple #[.int .i64 (re / 65536), .int .i64 (re / 65536)]) ∧ Below w.heap.size w w' := by
  rcases hty with rfl | rfl
  all_goals
    go_enter Try.func28, Try.ntmps28
    go_wp2_with fail
    go_quiet (fail)
    go_wp2
    go_ret2
    exact ⟨rfl, below_drewN (below1 _ _) _⟩
theorem tup_built (a b c d e : Int) : Try.prog.built 35 [(0, .int .i64 a), (1, .int .u32 b), (2, .int .u32 c), (3, .int .i64 d), (4, .int .i64 e)] = some (tupC a b c d e) := by kernel_rfl
set_option maxHeartbeats 400000 in
theorem rturned_any (t : Tup) (w : World) : Calls Try.prog 13 #[tv t] w fun e w' => e = .returned (tv (turn t)) ∧ Below w.heap.size w w' := by
  obtain ⟨a0, a1, a2, a3, a4⟩ := t
  unfold tv tupC turn
  go_enter Try.func13, Try.ntmps13
  go_wp2
  exact bodyPost_ret (results_cell_row (p := 2) (ty := 35) rfl _ _ (w.heap.size + 1) 35 _ (0, 0) _ rfl (two_last _ _ _) Try.underlying35 rfl size5) rfl ⟨rfl, below2 _ _ _⟩
set_option linter.unusedSimpArgs false in
set_option maxRecDepth 20000 in
set_option maxHeartbeats 2000000 in
theorem rof_no {ps : Array Value} {ip : Bool} {fr pr src dst k ty co re sp dp : Int} (h : Pk ps ip fr pr src dst k ty co re sp dp) (hh : hasT ip fr k ty co = false) (w : World) :
    Calls Try.prog 10 #[.agg ps] w fun e w' => e = .returned (.tuple #[.agg (tupC 0 0 0 0 0), .bool false]) ∧ Below w.heap.size w w' := by
  have H : Hid _ := h
  have c11 := h.c11
  obtain ⟨is, his⟩ : ∃ is, ps.extract 12 (12 + 8) = is := ⟨_, rfl⟩
  have hsz := h.size
  have i2 : is[2]? = some (.int .i64 fr) := by rw [← his, ext_get (by omega) (by omega)]; exact h.c14
  have is8 : is.size = 8 := by rw [← his, Array.size_extract, hsz]; rfl
  have HIS : Hid _ := his
  have HI8 : Hid _ := is8
  have I2 : Hid _ := i2
  have HP : Hid _ := two_first w (.cells ps 33) (.cells (tupC 0 0 0 0 0) 35)
  have HT : Hid _ := two_last w (.cells ps 33) (.cells (tupC 0 0 0 0 0) 35)
  clear h his hsz i2 is8
  cases ip
  · go_enter Try.func10, Try.ntmps10
    go_wp2
    exact bodyPost_ret (results_tup (p := 2) (u := 3) rfl _ _ (w.heap.size + 1) _ rfl HT.out rfl) rfl ⟨rfl, below2 _ _ _⟩
  · go_enter Try.func10, Try.ntmps10
    go_wp2_with (first
      | refine wpList_load_atw (by rfl) 29 _ rfl w.heap.size 12 8 rfl ps is 33 _ HP.out Try.underlying29 rfl HIS.out HI8.out size8 ?_
      | fail)
    refine (rwhole_any is fr I2.out _).mono ?_
    rintro e W1 ⟨rfl, hb1⟩
    have hP1 : W1.heap[w.heap.size]? = some (.cells ps 33 (0, 0)) := (hb1.block _ (by simp; omega)).trans HP.out
    have HT1 : Hid (W1.heap[w.heap.size + 1]? = some (.cells (tupC 0 0 0 0 0) 35 (0, 0))) := (hb1.block _ (by simp)).trans HT.out
    have HB1 : Hid (Below w.heap.size w W1) := (below2 w _ _).trans (hb1.mono (by simp; omega))
    have d20 : W1.cell? ⟨w.heap.size, 20, none⟩ = some (.int .i64 k) := (cell_row hP1 20).trans H.out.c20
    have d21 : W1.cell? ⟨w.heap.size, 21, none⟩ = some (.int .i64 ty) := (cell_row hP1 21).trans H.out.c21
    have d22 : W1.cell? ⟨w.heap.size, 22, none⟩ = some (.int .i64 co) := (cell_row hP1 22).trans H.out.c22
    clear hb1 hP1
    cases hwh : (firstB fr && moreB fr)
    · clear d20 d21 d22
      go_wp2_with (first
        | refine wpList_store_row rfl 35 _ _ rfl (w.heap.size + 1) (tupC 0 0 0 0 0) (tupC 0 0 0 0 0) 35 rfl rfl HT1.out size5 rfl tup0_one ?_
        | fail)
      intro W9 z1 z2 z3 z4
      go_wp2
      exact bodyPost_ret (results_tup (p := 2) (u := 3) rfl _ _ (w.heap.size + 1) _ rfl z1 rfl) rfl ⟨rfl, HB1.out.trans (z4.mono (by omega))⟩
    · have htr : trkB k ty co = false := by simpa [hasT, hwh] using hh
      have hk2 : ¬ k = 2 := fun e => by simp [trkB, e] at htr
      have hk3 : ¬ k = 3 := fun e => by simp [trkB, e] at htr
      by_cases hk1 : k = 1
      · subst hk1
        have htr' : ¬ ((ty = 8 ∨ ty = 0) ∧ co = 0) := fun e => by
          obtain ⟨e1, e2⟩ := e
          rcases e1 with e1 | e1 <;> simp [trkB, e1, e2] at htr
        clear htr hk2 hk3
        by_cases t8 : ty = 8
        · have c0 : ¬ co = 0 := fun e => htr' ⟨.inl t8, e⟩
          subst t8
          clear htr'
          go_wp2_with (first
            | refine wpList_store_row rfl 35 _ _ rfl (w.heap.size + 1) (tupC 0 0 0 0 0) (tupC 0 0 0 0 0) 35 rfl rfl HT1.out size5 rfl tup0_one ?_
            | fail)
          intro W9 z1 z2 z3 z4
          go_wp2
          exact bodyPost_ret (results_tup (p := 2) (u := 3) rfl _ _ (w.heap.size + 1) _ rfl z1 rfl) rfl ⟨rfl, HB1.out.trans (z4.mono (by omega))⟩
        · by_cases t0 : ty = 0
          · have c0 : ¬ co = 0 := fun e => htr' ⟨.inr t0, e⟩
            subst t0
            clear htr'
            go_wp2_with (first
              | refine wpList_store_row rfl 35 _ _ rfl (w.heap.size + 1) (tupC 0 0 0 0 0) (tupC 0 0 0 0 0) 35 rfl rfl HT1.out size5 rfl tup0_one ?_
              | fail)
            intro W9 z1 z2 z3 z4
            go_wp2
            exact bodyPost_ret (results_tup (p := 2) (u := 3) rfl _ _ (w.heap.size + 1) _ rfl z1 rfl) rfl ⟨rfl, HB1.out.trans (z4.mono (by omega))⟩
          · clear htr'
            go_wp2_with (first
              | refine wpList_store_row rfl 35 _ _ rfl (w.heap.size + 1) (tupC 0 0 0 0 0) (tupC 0 0 0 0 0) 35 rfl rfl HT1.out size5 rfl tup0_one ?_
              | fail)
            intro W9 z1 z2 z3 z4
            go_wp2
            exact bodyPost_ret (results_tup (p := 2) (u := 3) rfl _ _ (w.heap.size + 1) _ rfl z1 rfl) rfl ⟨rfl, HB1.out.trans (z4.mono (by omega))⟩
      · clear htr
        go_wp2_with (first
          | refine wpList_store_row rfl 35 _ _ rfl (w.heap.size + 1) (tupC 0 0 0 0 0) (tupC 0 0 0 0 0) 35 rfl rfl HT1.out size5 rfl tup0_one ?_
          | fail)
        intro W9 z1 z2 z3 z4
        go_wp2
        exact bodyPost_ret (results_tup (p := 2) (u := 3) rfl _ _ (w.heap.size + 1) _ rfl z1 rfl) rfl ⟨rfl, HB1.out.trans (z4.mono (by omega))⟩
set_option linter.unusedSimpArgs false in
set_option maxRecDepth 20000 in
set_option maxHeartbeats 2000000 in
theorem rof_yes {ps : Array Value} {ip : Bool} {fr pr src dst k ty co re sp dp : Int} (h : Pk ps ip fr pr src dst k ty co re sp dp) (hh : hasT ip fr k ty co = true) (w : World) :
    Calls Try.prog 10 #[.agg ps] w fun e w' => e = .returned (.tuple #[.agg (tupC pr src dst (portT k re sp) (portT k re dp)), .bool true]) ∧ Below w.heap.size w w' := by
  have hx : ip = true ∧ (firstB fr && moreB fr) = true ∧ trkB k ty co = true := by
    simp only [hasT, Bool.and_eq_true] at hh ⊢
    exact ⟨hh.1, hh.2.1, hh.2.2⟩
  obtain ⟨rfl, hwh, htr⟩ := hx
  have hkk : (k = 2 ∨ k = 3) ∨ (k = 1 ∧ (ty = 0 ∨ ty = 8) ∧ co = 0) := by
    unfold trkB at htr
    simp only [Bool.or_eq_true, Bool.and_eq_true, beq_iff_eq] at htr
    rcases htr with h | h | ⟨h, h', h''⟩
    · exact .inl (.inl h)
    · exact .inl (.inr h)
    · exact .inr ⟨h, h'.symm, h''⟩
  have HPO : Hid (∀ W, Calls Try.prog 28 #[.agg ps] W fun e w' => e = .returned (.tuple #[.int .i64 (portT k re sp), .int .i64 (portT k re dp)]) ∧ Below W.heap.size W w') := by
    show ∀ W, _
    intro W
    rcases hkk with hk | ⟨rfl, hty, _⟩
    · have e1 : ∀ p, portT k re p = p := fun p => by unfold portT; rw [if_neg (by omega)]
      rw [e1, e1]; exact rports_l4 ps k sp dp hk h.c20 h.c24 h.c25 W
    · exact rports_echo ps ty re hty h.rb h.c20 h.c21 h.c23 W
  have HIP : Hid _ := infoPk h.size
  have H : Hid _ := h
  have c11 := h.c11
  obtain ⟨is, his⟩ : ∃ is, ps.extract 12 (12 + 8) = is := ⟨_, rfl⟩
  have hsz := h.size
  have i2 : is[2]? = some (.int .i64 fr) := by rw [← his, ext_get (by omega) (by omega)]; exact h.c14
  have is8 : is.size = 8 := by rw [← his, Array.size_extract, hsz]; rfl
  have HIS : Hid _ := his
  have HI8 : Hid _ := is8
  have I2 : Hid _ := i2
  have HP : Hid _ := two_first w (.cells ps 33) (.cells (tupC 0 0 0 0 0) 35)
  have HT : Hid _ := two_last w (.cells ps 33) (.cells (tupC 0 0 0 0 0) 35)
  clear h his hsz i2 is8
  obtain ⟨s9, hs9⟩ : ∃ s9, portT k re sp = s9 := ⟨_, rfl⟩
  obtain ⟨d9, hd9⟩ : ∃ d9, portT k re dp = d9 := ⟨_, rfl⟩
  rw [hs9, hd9] at HPO ⊢
  clear hs9 hd9 hh htr
  go_enter Try.func10, Try.ntmps10
  go_wp2_with (first
    | refine wpList_load_atw (by rfl) 29 _ rfl w.heap.size 12 8 rfl ps is 33 _ HP.out Try.underlying29 rfl HIS.out HI8.out size8 ?_
    | fail)
  refine (rwhole_any is fr I2.out _).mono ?_
  rw [hwh]
  rintro e W1 ⟨rfl, hb1⟩
  have hP1 : W1.heap[w.heap.size]? = some (.cells ps 33 (0, 0)) := (hb1.block _ (by simp; omega)).trans HP.out
  have HP1 : Hid _ := hP1
  have HT1 : Hid (W1.heap[w.heap.size + 1]? = some (.cells (tupC 0 0 0 0 0) 35 (0, 0))) := (hb1.block _ (by simp)).trans HT.out
  have HB1 : Hid (Below w.heap.size w W1) := (below2 w _ _).trans (hb1.mono (by simp; omega))
  have d20 : W1.cell? ⟨w.heap.size, 20, none⟩ = some (.int .i64 k) := (cell_row hP1 20).trans H.out.c20
  have d21 : W1.cell? ⟨w.heap.size, 21, none⟩ = some (.int .i64 ty) := (cell_row hP1 21).trans H.out.c21
  have d22 : W1.cell? ⟨w.heap.size, 22, none⟩ = some (.int .i64 co) := (cell_row hP1 22).trans H.out.c22
  clear hb1 hP1
  have D : Hid (∀ W3, Below W1.heap.size W1 W3 → W3.cell? ⟨w.heap.size, 16, none⟩ = some (.int .i64 pr) ∧ W3.cell? ⟨w.heap.size, 17, none⟩ = some (.int .u32 src) ∧ W3.cell? ⟨w.heap.size, 18, none⟩ = some (.int .u32 dst) ∧ W3.heap[w.heap.size + 1]? = some (.cells (tupC 0 0 0 0 0) 35 (0, 0)) ∧ Below w.heap.size w W3) := by
    show ∀ W3, _
    intro W3 hb
    have hP3 := (hb.block _ (lt_of_heap HP1.out)).trans HP1.out
    exact ⟨(cell_row hP3 16).trans H.out.c16, (cell_row hP3 17).trans H.out.c17, (cell_row hP3 18).trans H.out.c18, (hb.block _ (lt_of_heap HT1.out)).trans HT1.out, HB1.out.trans (hb.mono HB1.out.size)⟩
  rcases hkk with (rfl | rfl) | ⟨rfl, (rfl | rfl), rfl⟩
  all_goals
    go_wp2_with (first
      | refine wpList_load_row rfl 33 _ rfl w.heap.size rfl 33 ps (0, 0) _ HP1.out Try.underlying33 rfl HIP.out ?_
      | fail)
    refine (HPO.out _).mono ?_
    rintro e W3 ⟨rfl, hb3⟩
    obtain ⟨p16, p17, p18, ht3, hb4⟩ := D.out W3 hb3
    have HT3 : Hid _ := ht3
    have HB3 : Hid _ := hb4
    clear hb3 ht3 hb4 d20 d21 d22
    go_wp2_with (first
      | refine wpList_store_row rfl 35 _ _ rfl (w.heap.size + 1) (tupC 0 0 0 0 0) (tupC pr src dst s9 d9) 35 rfl rfl HT3.out size5 rfl (tup_one _ _ _ _ _) ?_
      | fail)
    intro W9 z1 z2 z3 z4
    go_wp2
    exact bodyPost_ret (results_tup (p := 2) (u := 3) rfl _ _ (w.heap.size + 1) _ rfl z1 rfl) rfl ⟨rfl, HB3.out.trans (z4.mono (by omega))⟩
end Go.Proofs.Ytmndfmbnedfloaa
