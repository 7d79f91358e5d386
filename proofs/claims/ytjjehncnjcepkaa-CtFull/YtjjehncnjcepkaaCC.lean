/- The tuple of any packet. Conditions: the packet's cells are of their kinds. -/
import Derived.Test.YtjjehncnjcepkaaCA
namespace Go.Proofs.Ytjjehncnjcepkaa
open Go.RowKit
/-- A packet's cells that its tuple hangs on. -/
structure Pk (ps : Array Value) (ip : Bool) (fr pr src dst k ty co re sp dp : Int) : Prop where
  size : ps.size = 36
  c11 : ps[11]? = some (.bool ip)
  c14 : ps[14]? = some (.int .i64 fr)
  c16 : ps[16]? = some (.int .i64 pr)
  c17 : ps[17]? = some (.int .u32 src)
  c18 : ps[18]? = some (.int .u32 dst)
  c20 : ps[20]? = some (.int .i64 k)
  c21 : ps[21]? = some (.int .i64 ty)
  c22 : ps[22]? = some (.int .i64 co)
  c23 : ps[23]? = some (.int .u32 re)
  c24 : ps[24]? = some (.int .i64 sp)
  c25 : ps[25]? = some (.int .i64 dp)
  rb : 0 ≤ re ∧ re ≤ 4294967295
theorem size8 : (Try.prog.info? 37).map (·.size) = some 8 := by kernel_rfl
theorem size14 : (Try.prog.info? 39).map (·.size) = some 14 := by kernel_rfl
theorem size5 : (Try.prog.info? 44).map (·.size) = some 5 := by kernel_rfl
theorem ext_get {cs : Array Value} {o n i : Nat} (h : o + n ≤ cs.size) (hi : i < n) : (cs.extract o (o + n))[i]? = cs[o + i]? := by
  rw [Array.getElem?_extract_of_lt (by omega), ← Array.getElem?_eq_getElem]
def firstB (fr : Int) : Bool := bits BinOp.and IntKind.i64 fr 8191 == 0
def moreB (fr : Int) : Bool := bits BinOp.and IntKind.i64 fr 8192 == 0
set_option maxHeartbeats 400000 in
theorem first_any (is : Array Value) (fr : Int) (h2 : is[2]? = some (.int .i64 fr)) (w : World) : Calls Try.prog 58 #[.agg is] w fun e w' => e = .returned (.bool (firstB fr)) ∧ Below w.heap.size w w' := by
  go_enter Try.func58, Try.ntmps58
  go_wp2
  go_ret
  exact ⟨rfl, below1 _ _⟩
set_option maxHeartbeats 400000 in
theorem whole_any (is : Array Value) (hs : is.size = 8) (fr : Int) (h2 : is[2]? = some (.int .i64 fr)) (w : World) : Calls Try.prog 37 #[.agg is] w fun e w' => e = .returned (.bool (firstB fr && moreB fr)) ∧ Below w.heap.size w w' := by
  have HI : Hid _ := (show (Try.prog.info? 37).map (·.size) = some is.size by rw [hs]; exact size8)
  have HN : Hid _ := heap_alloc_new w (.cells is 37)
  clear hs
  go_enter Try.func37, Try.ntmps37
  go_wp2_with (first
    | refine wpList_load_row rfl 37 _ rfl w.heap.size rfl 37 is (0, 0) _ HN.out Try.underlying37 rfl HI.out ?_
    | fail)
  refine (first_any is fr h2 _).mono ?_
  rintro e W1 ⟨rfl, hb1⟩
  have hS1 : W1.heap[w.heap.size]? = some (.cells is 37 (0, 0)) := (hb1.block _ (by simp)).trans (heap_alloc_new _ _)
  have c2 := (cell_row hS1 2).trans h2
  have HB1 : Hid (Below w.heap.size w W1) := (below1 w _).trans (hb1.mono (by simp))
  clear hb1 hS1
  cases hf : firstB fr
  · go_wp2
    go_ret
    exact ⟨by rw [hf]; rfl, HB1.out⟩
  · go_wp2
    go_ret
    exact ⟨by rw [hf]; rfl, HB1.out⟩
def trkB (k ty co : Int) : Bool := k == 2 || (k == 3 || (k == 1 && ((ty == 8 || ty == 0) && co == 0)))
set_option maxHeartbeats 1000000 in
theorem tracked_any (xs : Array Value) (k ty co : Int) (h0 : xs[0]? = some (.int .i64 k)) (h1 : xs[1]? = some (.int .i64 ty)) (h2 : xs[2]? = some (.int .i64 co)) (w : World) : Calls Try.prog 38 #[.agg xs] w fun e w' => e = .returned (.bool (trkB k ty co)) ∧ Below w.heap.size w w' := by
  unfold trkB
  cases k2 : (k == 2)
  · cases k3 : (k == 3)
    · cases k1 : (k == 1)
      · go_enter Try.func38, Try.ntmps38
        go_wp2
        go_ret
        exact ⟨rfl, below1 _ _⟩
      · cases t8 : (ty == 8) <;> cases t0 : (ty == 0) <;> cases c0 : (co == 0) <;>
        · go_enter Try.func38, Try.ntmps38
          go_wp2
          go_ret
          exact ⟨rfl, below1 _ _⟩
    · go_enter Try.func38, Try.ntmps38
      go_wp2
      go_ret
      exact ⟨rfl, below1 _ _⟩
  · go_enter Try.func38, Try.ntmps38
    go_wp2
    go_ret
    exact ⟨rfl, below1 _ _⟩
set_option maxHeartbeats 400000 in
theorem echo_any (ty : Int) (w : World) : Calls Try.prog 59 #[.int .i64 ty] w fun e w' => e = .returned (.bool (ty == 0 || ty == 8)) ∧ w' = w := by
  cases t0 : (ty == 0) <;> cases t8 : (ty == 8) <;>
  · go_enter Try.func59, Try.ntmps59
    go_wp2
    go_ret
    exact ⟨rfl, rfl⟩
set_option maxRecDepth 20000 in
set_option maxHeartbeats 1000000 in
theorem ports_l4 (ps : Array Value) (k sp dp : Int) (hk : k = 2 ∨ k = 3) (h11 : ps[11]? = some (.bool true)) (h20 : ps[20]? = some (.int .i64 k)) (h24 : ps[24]? = some (.int .i64 sp)) (h25 : ps[25]? = some (.int .i64 dp)) (w : World) :
    Calls Try.prog 39 #[.agg ps] w fun e w' => e = .returned (.tuple #[.int .i64 sp, .int .i64 dp]) ∧ Below w.heap.size w w' := by
  rcases hk with rfl | rfl
  all_goals
    go_enter Try.func39, Try.ntmps39
    go_wp2_with fail
    go_quiet (fail)
    go_wp2
    go_ret2
    exact ⟨rfl, below_drewN (below1 _ _) _⟩
set_option maxRecDepth 20000 in
set_option maxHeartbeats 1000000 in
theorem ports_echo (ps : Array Value) (ty re : Int) (hty : (ty == 0 || ty == 8) = true) (hr : 0 ≤ re ∧ re ≤ 4294967295) (h11 : ps[11]? = some (.bool true)) (h20 : ps[20]? = some (.int .i64 1)) (h21 : ps[21]? = some (.int .i64 ty)) (h23 : ps[23]? = some (.int .u32 re)) (w : World) :
    Calls Try.prog 39 #[.agg ps] w fun e w' => e = .returned (.tuple #[.int .i64 (re / 65536), .int .i64 (re / 65536)]) ∧ Below w.heap.size w w' := by
  go_enter Try.func39, Try.ntmps39
  go_wp2_with fail
  refine (echo_any ty _).mono ?_
  rw [hty]
  rintro e W1 ⟨rfl, rfl⟩
  go_wp2
  go_ret2
  exact ⟨rfl, below1 _ _⟩
/-- A tuple by its numbers. -/
def tupC (pr src dst sp dp : Int) : Array Value := #[.int .i64 pr, .int .u32 src, .int .u32 dst, .int .i64 sp, .int .i64 dp]
theorem tup_one (a b c d e : Int) : (tupC a b c d e).all (·.oneCell') = true := by simp [tupC, Value.oneCell']
theorem tup0_one : (tupC 0 0 0 0 0).all (·.oneCell') = true := tup_one _ _ _ _ _
/-- Has a packet a tuple? -/
def hasT (ip : Bool) (fr k ty co : Int) : Bool := ip && ((firstB fr && moreB fr) && trkB k ty co)
/-- Its port. -/
def portT (k re p : Int) : Int := if k = 1 then re / 65536 else p
theorem results_tup {fn : Func} {p u : Tmp} (h : fn.results = #[.cell p 44, .tmp u]) (tmps : Array Value) (w : World) (g : Nat) (cs : Array Value)
    (hp : tmps.getD p undef = .pointer (some ⟨g, 0, none⟩)) (hg : w.heap[g]? = some (.cells cs 44 (0, 0))) (hs : cs.size = 5) :
    (results fn tmps).run Try.prog w = .ok (.tuple #[.agg cs, tmps.getD u undef]) w := by
  rw [results_cell_tmp h, hp]
  simp only [asAddr, Sem.run_pure, Result.andThen_ok, run_loadVar_row w g 44 44 cs (0, 0) _ hg Try.underlying44 rfl (show (Try.prog.info? 44).map (·.size) = some cs.size by rw [hs]; exact size5)]
set_option maxRecDepth 20000 in
set_option maxHeartbeats 2000000 in
theorem of_no {ps : Array Value} {ip : Bool} {fr pr src dst k ty co re sp dp : Int} (h : Pk ps ip fr pr src dst k ty co re sp dp) (hh : hasT ip fr k ty co = false) (w : World) :
    Calls Try.prog 20 #[.agg ps] w fun e w' => e = .returned (.tuple #[.agg (tupC 0 0 0 0 0), .bool false]) ∧ Below w.heap.size w w' := by
  have H : Hid _ := h
  have c11 := h.c11
  obtain ⟨is, his⟩ : ∃ is, ps.extract 12 (12 + 8) = is := ⟨_, rfl⟩
  obtain ⟨xs, hxs⟩ : ∃ xs, ps.extract 20 (20 + 14) = xs := ⟨_, rfl⟩
  have hsz := h.size
  have i2 : is[2]? = some (.int .i64 fr) := by rw [← his, ext_get (by omega) (by omega)]; exact h.c14
  have x0 : xs[0]? = some (.int .i64 k) := by rw [← hxs, ext_get (by omega) (by omega)]; exact h.c20
  have x1 : xs[1]? = some (.int .i64 ty) := by rw [← hxs, ext_get (by omega) (by omega)]; exact h.c21
  have x2 : xs[2]? = some (.int .i64 co) := by rw [← hxs, ext_get (by omega) (by omega)]; exact h.c22
  have is8 : is.size = 8 := by rw [← his, Array.size_extract, hsz]; rfl
  have xs14 : xs.size = 14 := by rw [← hxs, Array.size_extract, hsz]; rfl
  have HIS : Hid _ := his
  have HXS : Hid _ := hxs
  have HI8 : Hid _ := is8
  have HX14 : Hid _ := xs14
  have I2 : Hid _ := i2
  have X0 : Hid _ := x0
  have X1 : Hid _ := x1
  have X2 : Hid _ := x2
  have HP : Hid _ := two_first w (.cells ps 41) (.cells (tupC 0 0 0 0 0) 44)
  have HT : Hid _ := two_last w (.cells ps 41) (.cells (tupC 0 0 0 0 0) 44)
  clear h his hxs hsz i2 x0 x1 x2 is8 xs14
  cases ip
  · go_enter Try.func20, Try.ntmps20
    go_wp2
    exact bodyPost_ret (results_tup (p := 2) (u := 3) rfl _ _ (w.heap.size + 1) _ rfl HT.out rfl) rfl ⟨rfl, below2 _ _ _⟩
  · go_enter Try.func20, Try.ntmps20
    go_wp2_with (first
      | refine wpList_load_atw (by rfl) 37 _ rfl w.heap.size 12 8 rfl ps is 41 _ HP.out Try.underlying37 rfl HIS.out HI8.out size8 ?_
      | fail)
    refine (whole_any is HI8.out fr I2.out _).mono ?_
    rintro e W1 ⟨rfl, hb1⟩
    have HP1 : Hid _ := (hb1.block _ (by simp; omega)).trans HP.out
    have HT1 : Hid (W1.heap[w.heap.size + 1]? = some (.cells (tupC 0 0 0 0 0) 44 (0, 0))) := (hb1.block _ (by simp)).trans HT.out
    have HB1 : Hid (Below w.heap.size w W1) := (below2 w _ _).trans (hb1.mono (by simp; omega))
    clear hb1
    cases hwh : (firstB fr && moreB fr)
    · go_wp2_with (first
        | refine wpList_store_row rfl 44 _ _ rfl (w.heap.size + 1) (tupC 0 0 0 0 0) (tupC 0 0 0 0 0) 44 rfl rfl HT1.out size5 rfl tup0_one ?_
        | fail)
      intro W9 z1 z2 z3 z4
      go_wp2
      exact bodyPost_ret (results_tup (p := 2) (u := 3) rfl _ _ (w.heap.size + 1) _ rfl z1 rfl) rfl ⟨rfl, HB1.out.trans (z4.mono (by omega))⟩
    · have htr : trkB k ty co = false := by simpa [hasT, hwh] using hh
      go_wp2_with (first
        | refine wpList_load_atw (by rfl) 39 _ rfl w.heap.size 20 14 rfl ps xs 41 _ HP1.out Try.underlying39 rfl HXS.out HX14.out size14 ?_
        | fail)
      refine (tracked_any xs k ty co X0.out X1.out X2.out _).mono ?_
      rw [htr]
      rintro e W2 ⟨rfl, hb2⟩
      have HT2 : Hid _ := (hb2.block _ (lt_of_heap HT1.out)).trans HT1.out
      have HB2 : Hid (Below w.heap.size w W2) := HB1.out.trans (hb2.mono HB1.out.size)
      clear hb2
      go_wp2_with (first
        | refine wpList_store_row rfl 44 _ _ rfl (w.heap.size + 1) (tupC 0 0 0 0 0) (tupC 0 0 0 0 0) 44 rfl rfl HT2.out size5 rfl tup0_one ?_
        | fail)
      intro W9 z1 z2 z3 z4
      go_wp2
      exact bodyPost_ret (results_tup (p := 2) (u := 3) rfl _ _ (w.heap.size + 1) _ rfl z1 rfl) rfl ⟨rfl, HB2.out.trans (z4.mono (by omega))⟩
theorem trk_kind {k ty co : Int} (h : trkB k ty co = true) : (k = 2 ∨ k = 3) ∨ (k = 1 ∧ (ty == 0 || ty == 8) = true) := by
  unfold trkB at h
  simp only [Bool.or_eq_true, Bool.and_eq_true, beq_iff_eq] at h
  rcases h with h | h | ⟨h, h', _⟩
  · exact .inl (.inl h)
  · exact .inl (.inr h)
  · refine .inr ⟨h, ?_⟩
    rcases h' with rfl | rfl <;> rfl
set_option maxRecDepth 20000 in
set_option maxHeartbeats 2000000 in
theorem of_yes {ps : Array Value} {ip : Bool} {fr pr src dst k ty co re sp dp : Int} (h : Pk ps ip fr pr src dst k ty co re sp dp) (hh : hasT ip fr k ty co = true) (w : World) :
    Calls Try.prog 20 #[.agg ps] w fun e w' => e = .returned (.tuple #[.agg (tupC pr src dst (portT k re sp) (portT k re dp)), .bool true]) ∧ Below w.heap.size w w' := by
  have H : Hid _ := h
  have hx : ip = true ∧ (firstB fr && moreB fr) = true ∧ trkB k ty co = true := by
    simp only [hasT, Bool.and_eq_true] at hh ⊢
    exact ⟨hh.1, hh.2.1, hh.2.2⟩
  obtain ⟨rfl, hwh, htr⟩ := hx
  have HPO : Hid (∀ W, Calls Try.prog 39 #[.agg ps] W fun e w' => e = .returned (.tuple #[.int .i64 (portT k re sp), .int .i64 (portT k re dp)]) ∧ Below W.heap.size W w') := by
    show ∀ W, _
    intro W
    rcases trk_kind htr with hk | ⟨rfl, hty⟩
    · have e1 : ∀ p, portT k re p = p := fun p => by unfold portT; rw [if_neg (by omega)]
      rw [e1, e1]; exact ports_l4 ps k sp dp hk h.c11 h.c20 h.c24 h.c25 W
    · exact ports_echo ps ty re hty h.rb h.c11 h.c20 h.c21 h.c23 W
  have c11 := h.c11
  obtain ⟨is, his⟩ : ∃ is, ps.extract 12 (12 + 8) = is := ⟨_, rfl⟩
  obtain ⟨xs, hxs⟩ : ∃ xs, ps.extract 20 (20 + 14) = xs := ⟨_, rfl⟩
  have hsz := h.size
  have i2 : is[2]? = some (.int .i64 fr) := by rw [← his, ext_get (by omega) (by omega)]; exact h.c14
  have x0 : xs[0]? = some (.int .i64 k) := by rw [← hxs, ext_get (by omega) (by omega)]; exact h.c20
  have x1 : xs[1]? = some (.int .i64 ty) := by rw [← hxs, ext_get (by omega) (by omega)]; exact h.c21
  have x2 : xs[2]? = some (.int .i64 co) := by rw [← hxs, ext_get (by omega) (by omega)]; exact h.c22
  have is8 : is.size = 8 := by rw [← his, Array.size_extract, hsz]; rfl
  have xs14 : xs.size = 14 := by rw [← hxs, Array.size_extract, hsz]; rfl
  have HIS : Hid _ := his
  have HXS : Hid _ := hxs
  have HI8 : Hid _ := is8
  have HX14 : Hid _ := xs14
  have I2 : Hid _ := i2
  have X0 : Hid _ := x0
  have X1 : Hid _ := x1
  have X2 : Hid _ := x2
  have HIP : Hid _ := (show (Try.prog.info? 41).map (·.size) = some ps.size by rw [h.size]; exact size36)
  have HP : Hid _ := two_first w (.cells ps 41) (.cells (tupC 0 0 0 0 0) 44)
  have HT : Hid _ := two_last w (.cells ps 41) (.cells (tupC 0 0 0 0 0) 44)
  obtain ⟨s9, hs9⟩ : ∃ s9, portT k re sp = s9 := ⟨_, rfl⟩
  obtain ⟨d9, hd9⟩ : ∃ d9, portT k re dp = d9 := ⟨_, rfl⟩
  rw [hs9, hd9] at HPO ⊢
  clear h his hxs hsz i2 x0 x1 x2 is8 xs14 hs9 hd9 hh
  go_enter Try.func20, Try.ntmps20
  go_wp2_with (first
    | refine wpList_load_atw (by rfl) 37 _ rfl w.heap.size 12 8 rfl ps is 41 _ HP.out Try.underlying37 rfl HIS.out HI8.out size8 ?_
    | fail)
  refine (whole_any is HI8.out fr I2.out _).mono ?_
  rw [hwh]
  rintro e W1 ⟨rfl, hb1⟩
  have HP1 : Hid _ := (hb1.block _ (by simp; omega)).trans HP.out
  have HT1 : Hid (W1.heap[w.heap.size + 1]? = some (.cells (tupC 0 0 0 0 0) 44 (0, 0))) := (hb1.block _ (by simp)).trans HT.out
  have HB1 : Hid (Below w.heap.size w W1) := (below2 w _ _).trans (hb1.mono (by simp; omega))
  clear hb1
  go_wp2_with (first
    | refine wpList_load_atw (by rfl) 39 _ rfl w.heap.size 20 14 rfl ps xs 41 _ HP1.out Try.underlying39 rfl HXS.out HX14.out size14 ?_
    | fail)
  refine (tracked_any xs k ty co X0.out X1.out X2.out _).mono ?_
  rw [htr]
  rintro e W2 ⟨rfl, hb2⟩
  have HP2 : Hid _ := (hb2.block _ (lt_of_heap HP1.out)).trans HP1.out
  have HT2 : Hid _ := (hb2.block _ (lt_of_heap HT1.out)).trans HT1.out
  have HB2 : Hid (Below w.heap.size w W2) := HB1.out.trans (hb2.mono HB1.out.size)
  clear hb2
  go_wp2_with (first
    | refine wpList_load_row rfl 41 _ rfl w.heap.size rfl 41 ps (0, 0) _ HP2.out Try.underlying41 rfl HIP.out ?_
    | fail)
  refine (HPO.out _).mono ?_
  rintro e W3 ⟨rfl, hb3⟩
  have hP3 : W3.heap[w.heap.size]? = some (.cells ps 41 (0, 0)) := (hb3.block _ (lt_of_heap HP2.out)).trans HP2.out
  have HT3 : Hid _ := (hb3.block _ (lt_of_heap HT2.out)).trans HT2.out
  have HB3 : Hid (Below w.heap.size w W3) := HB2.out.trans (hb3.mono HB2.out.size)
  have c16 := (cell_row hP3 16).trans H.out.c16
  have c17 := (cell_row hP3 17).trans H.out.c17
  have c18 := (cell_row hP3 18).trans H.out.c18
  clear hb3 hP3
  go_wp2_with (first
    | refine wpList_store_row rfl 44 _ _ rfl (w.heap.size + 1) (tupC 0 0 0 0 0) (tupC pr src dst s9 d9) 44 rfl rfl HT3.out size5 rfl (tup_one _ _ _ _ _) ?_
    | fail)
  intro W9 z1 z2 z3 z4
  go_wp2
  exact bodyPost_ret (results_tup (p := 2) (u := 3) rfl _ _ (w.heap.size + 1) _ rfl z1 rfl) rfl ⟨rfl, HB3.out.trans (z4.mono (by omega))⟩
end Go.Proofs.Ytjjehncnjcepkaa
