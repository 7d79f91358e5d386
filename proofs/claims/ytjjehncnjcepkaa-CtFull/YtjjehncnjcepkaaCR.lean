/- A packet as a connection with Nat changes it. Conditions: as said. -/
import Derived.Test.YtjjehncnjcepkaaCQ
import Derived.Laws.BitsLemmas
namespace Go.Proofs.Ytjjehncnjcepkaa
open Go.RowKit
set_option maxHeartbeats 400000 in
theorem putPort_l4 (b o : Nat) (k port : Int) (hk : k ≠ 1) (cs : Array Value) (w : World) (h : w.heap[b]? = some (.cells cs 41 (0, 0))) (h20 : cs[20]? = some (.int .i64 k)) (old : Int) (ho : cs[o]? = some (.int .i64 old)) :
    Calls Try.prog 41 #[.pointer (some ⟨b, 20, none⟩), .pointer (some ⟨b, o, none⟩), .int .i64 port] w fun e w' => e = .returned (.tuple #[]) ∧ w' = w.setCell ⟨b, o, none⟩ (.int .i64 port) := by
  have c20 := (cell_row h 20).trans h20
  have co := (cell_row h o).trans ho
  have fo := frozen_of_row w _ o _ _ h
  clear h h20 ho
  go_enter Try.func41, Try.ntmps41
  go_wp2
  go_end0
  exact ⟨rfl, rfl⟩
theorem rest_same (re : Int) (h : 0 ≤ re ∧ re ≤ 4294967295) : bits BinOp.or IntKind.u32 (re / 65536 * 65536) (bits BinOp.and IntKind.u32 re 65535) = re := by
  have hw : ∀ n : Int, 0 ≤ n → n < 2 ^ 32 → IntKind.u32.wrap n = n := fun n a b => by rw [IntKind.wrap_u32]; omega
  have e1 : bits BinOp.and IntKind.u32 re 65535 = re % 65536 := bits_mask .u32 32 (by decide) hw 16 (by decide) re h.1 (by omega)
  rw [e1, bits_join .u32 32 (by decide) hw 16 (re / 65536 * 65536) (re % 65536) (by omega) (by omega) (by omega) (by omega) (by omega) (by omega)]
  omega
set_option maxHeartbeats 400000 in
theorem putPort_icmp (b o : Nat) (re : Int) (hr : 0 ≤ re ∧ re ≤ 4294967295) (cs : Array Value) (w : World) (h : w.heap[b]? = some (.cells cs 41 (0, 0))) (h20 : cs[20]? = some (.int .i64 1)) (h23 : cs[23]? = some (.int .u32 re)) :
    Calls Try.prog 41 #[.pointer (some ⟨b, 20, none⟩), .pointer (some ⟨b, o, none⟩), .int .i64 (re / 65536)] w fun e w' => e = .returned (.tuple #[]) ∧ w' = w.setCell ⟨b, 23, none⟩ (.int .u32 re) := by
  have c20 := (cell_row h 20).trans h20
  have c23 := (cell_row h 23).trans h23
  have fo := frozen_of_row w _ 23 _ _ h
  have h1 : 0 ≤ re / 65536 ∧ re / 65536 ≤ 65535 := by omega
  clear h h20 h23
  go_enter Try.func41, Try.ntmps41
  go_wp2
  refine bodyPost_ret (results_none rfl _ _ _) rfl ⟨rfl, ?_⟩
  rw [rest_same re hr]
theorem set_self {A : Array Value} {i : Nat} {v : Value} (h : A[i]? = some v) : A.setIfInBounds i v = A := by
  apply Array.ext
  · simp
  · intro j h1 h2
    rw [Array.getElem_setIfInBounds (by simpa using h2)]
    split
    · rename_i e
      subst e
      rw [Array.getElem?_eq_getElem h2] at h
      injection h with h
      exact h.symm
    · rfl
/-- A packet as a connection changes it. -/
def chgC (ps : Array Value) (k : Int) (bk : Bool) (o r : Tup) : Array Value :=
  if bk then (if k = 1 then ps.setIfInBounds 17 (.int .u32 o.2.2.1) else (ps.setIfInBounds 17 (.int .u32 o.2.2.1)).setIfInBounds 24 (.int .i64 o.2.2.2.2))
  else (if k = 1 then ps.setIfInBounds 18 (.int .u32 r.2.1) else (ps.setIfInBounds 18 (.int .u32 r.2.1)).setIfInBounds 25 (.int .i64 r.2.2.2.1))
def zeroPk : Array Value := #[.int .u64 0, .int .u64 0, .bool false, .int .i64 0, .int .i64 0, .bool false, .int .i64 0, .int .u64 0, .int .u32 0, .int .u64 0, .int .u32 0, .bool false, .int .i64 0, .int .i64 0, .int .i64 0, .int .i64 0, .int .i64 0, .int .u32 0, .int .u32 0, .string ⟨#[]⟩, .int .i64 0, .int .i64 0, .int .i64 0, .int .u32 0, .int .i64 0, .int .i64 0, .bool false, .int .u32 0, .int .u32 0, .int .i64 0, .int .i64 0, .int .i64 0, .string ⟨#[]⟩, .string ⟨#[]⟩, .string ⟨#[]⟩, .string ⟨#[]⟩]
theorem three_mid (w : World) (A B C : Obj) : (((w.alloc A).alloc B).alloc C).heap[w.heap.size + 1]? = some B := (heap_alloc_old _ _ (by simp)).trans (two_last _ _ _)
theorem infoPk {cs : Array Value} (h : cs.size = 36) : (Try.prog.info? 41).map (·.size) = some cs.size := by rw [h]; exact size36
set_option maxRecDepth 20000 in
set_option maxHeartbeats 1000000 in
theorem changed_fwd_l4 (ps cn : Array Value) (hs : ps.size = 36) (h1 : ps.all (·.oneCell') = true) (k : Int) (hk : k ≠ 1) (h20 : ps[20]? = some (.int .i64 k)) (x0 : Int) (hx0 : ps[18]? = some (.int .u32 x0)) (y0 : Int) (hy0 : ps[25]? = some (.int .i64 y0)) (x y : Int) (hx : cn[7]? = some (.int .u32 x)) (hy : cn[9]? = some (.int .i64 y)) (w : World) :
    Calls Try.prog 24 #[.agg ps, .agg cn, .bool false] w fun e w' => e = .returned (.agg ((ps.setIfInBounds 18 (.int .u32 x)).setIfInBounds 25 (.int .i64 y))) ∧ Below w.heap.size w w' := by
  have HR1 : Hid _ := three_first w (.cells (ps.setIfInBounds 18 (.int .u32 x)) 41) (.cells cn 51) (.cells zeroPk 41)
  have HR2 : Hid _ := three_last w (.cells (ps.setIfInBounds 18 (.int .u32 x)) 41) (.cells cn 51) (.cells zeroPk 41)
  have HB : Hid _ := below3 w (.cells (ps.setIfInBounds 18 (.int .u32 x)) 41) (.cells cn 51) (.cells zeroPk 41)
  have e20 : (ps.setIfInBounds 18 (.int .u32 x))[20]? = some (.int .i64 k) := by rw [Array.getElem?_setIfInBounds_ne (by decide)]; exact h20
  have E20 : Hid _ := e20
  have e2 : (ps.setIfInBounds 18 (.int .u32 x))[25]? = some (.int .i64 y0) := by rw [Array.getElem?_setIfInBounds_ne (by decide)]; exact hy0
  have E2 : Hid _ := e2
  have hRS : ((ps.setIfInBounds 18 (.int .u32 x)).setIfInBounds 25 (.int .i64 y)).size = 36 := by simp [hs]
  have hRO : ((ps.setIfInBounds 18 (.int .u32 x)).setIfInBounds 25 (.int .i64 y)).all (·.oneCell') = true := set_one (set_one h1 rfl) rfl
  have HRS : Hid _ := hRS
  have HRO : Hid _ := hRO
  skip
  obtain ⟨R, hR⟩ : ∃ R, (ps.setIfInBounds 18 (.int .u32 x)).setIfInBounds 25 (.int .i64 y) = R := ⟨_, rfl⟩
  rw [hR] at HRS HRO ⊢
  have HR : Hid _ := hR
  clear hR hs h1 h20 e20 e2 hRS hRO hy0
  go_enter Try.func24, Try.ntmps24
  go_wp2_with fail
  refine (putPort_l4 w.heap.size 25 k y hk _ _ HR1.out E20.out y0 E2.out).mono ?_
  rintro e W1 ⟨rfl, hw1⟩
  have hRW : W1.heap[w.heap.size]? = some (.cells R 41 (0, 0)) := by
    rw [← HR.out, hw1]; exact row_setCell HR1.out 25 _
  have hZW : W1.heap[w.heap.size + 1 + 1]? = some (.cells zeroPk 41 (0, 0)) := by
    rw [hw1]; exact (Below.heap_setCell _ _ _ _ (show w.heap.size + 1 + 1 ≠ w.heap.size by omega)).trans HR2.out
  have hBW : Below w.heap.size w W1 := by
    rw [hw1]; exact HB.out.setCell (Nat.le_refl _) _
  have RW : Hid _ := hRW
  have ZW : Hid _ := hZW
  have BW : Hid _ := hBW
  clear hw1 hRW hZW hBW HR1 HR2 HB
  go_wp2_with (first
    | refine wpList_load_row rfl 41 _ rfl w.heap.size rfl 41 R (0, 0) _ RW.out Try.underlying41 rfl (infoPk HRS.out) ?_
    | refine wpList_store_row rfl 41 _ _ rfl (w.heap.size + 1 + 1) zeroPk R 41 rfl rfl ZW.out (infoPk HRS.out) (Eq.trans (b := 36) rfl HRS.out.symm) HRO.out ?_
    | fail)
  intro W8 y1 y2 y3 y4
  go_wp2
  exact bodyPost_ret (results_cell_row (p := 6) (ty := 41) rfl _ _ (w.heap.size + 1 + 1) 41 _ (0, 0) _ rfl y1 Try.underlying41 rfl (infoPk HRS.out)) rfl ⟨rfl, BW.out.trans (y4.mono (by omega))⟩
set_option maxRecDepth 20000 in
set_option maxHeartbeats 1000000 in
theorem changed_fwd_icmp (ps cn : Array Value) (hs : ps.size = 36) (h1 : ps.all (·.oneCell') = true) (h20 : ps[20]? = some (.int .i64 1)) (re : Int) (hr : 0 ≤ re ∧ re ≤ 4294967295) (h23 : ps[23]? = some (.int .u32 re)) (x0 : Int) (hx0 : ps[18]? = some (.int .u32 x0)) (x : Int) (hx : cn[7]? = some (.int .u32 x)) (hy : cn[9]? = some (.int .i64 (re / 65536))) (w : World) :
    Calls Try.prog 24 #[.agg ps, .agg cn, .bool false] w fun e w' => e = .returned (.agg (ps.setIfInBounds 18 (.int .u32 x))) ∧ Below w.heap.size w w' := by
  have HR1 : Hid _ := three_first w (.cells (ps.setIfInBounds 18 (.int .u32 x)) 41) (.cells cn 51) (.cells zeroPk 41)
  have HR2 : Hid _ := three_last w (.cells (ps.setIfInBounds 18 (.int .u32 x)) 41) (.cells cn 51) (.cells zeroPk 41)
  have HB : Hid _ := below3 w (.cells (ps.setIfInBounds 18 (.int .u32 x)) 41) (.cells cn 51) (.cells zeroPk 41)
  have e20 : (ps.setIfInBounds 18 (.int .u32 x))[20]? = some (.int .i64 1) := by rw [Array.getElem?_setIfInBounds_ne (by decide)]; exact h20
  have E20 : Hid _ := e20
  have e2 : (ps.setIfInBounds 18 (.int .u32 x))[23]? = some (.int .u32 re) := by rw [Array.getElem?_setIfInBounds_ne (by decide)]; exact h23
  have E2 : Hid _ := e2
  have hRS : (ps.setIfInBounds 18 (.int .u32 x)).size = 36 := by simp [hs]
  have hRO : (ps.setIfInBounds 18 (.int .u32 x)).all (·.oneCell') = true := set_one h1 rfl
  have HRS : Hid _ := hRS
  have HRO : Hid _ := hRO
  have HSS : Hid ((ps.setIfInBounds 18 (.int .u32 x)).setIfInBounds 23 (.int .u32 re) = ps.setIfInBounds 18 (.int .u32 x)) := set_self e2
  obtain ⟨R, hR⟩ : ∃ R, ps.setIfInBounds 18 (.int .u32 x) = R := ⟨_, rfl⟩
  rw [hR] at HRS HRO ⊢
  have HR : Hid _ := hR
  clear hR hs h1 h20 e20 e2 hRS hRO h23
  go_enter Try.func24, Try.ntmps24
  go_wp2_with fail
  refine (putPort_icmp w.heap.size 25 re hr _ _ HR1.out E20.out E2.out).mono ?_
  rintro e W1 ⟨rfl, hw1⟩
  have hRW : W1.heap[w.heap.size]? = some (.cells R 41 (0, 0)) := by
    rw [← HR.out, hw1, row_setCell HR1.out 23, HSS.out]
  have hZW : W1.heap[w.heap.size + 1 + 1]? = some (.cells zeroPk 41 (0, 0)) := by
    rw [hw1]; exact (Below.heap_setCell _ _ _ _ (show w.heap.size + 1 + 1 ≠ w.heap.size by omega)).trans HR2.out
  have hBW : Below w.heap.size w W1 := by
    rw [hw1]; exact HB.out.setCell (Nat.le_refl _) _
  have RW : Hid _ := hRW
  have ZW : Hid _ := hZW
  have BW : Hid _ := hBW
  clear hw1 hRW hZW hBW HR1 HR2 HB
  go_wp2_with (first
    | refine wpList_load_row rfl 41 _ rfl w.heap.size rfl 41 R (0, 0) _ RW.out Try.underlying41 rfl (infoPk HRS.out) ?_
    | refine wpList_store_row rfl 41 _ _ rfl (w.heap.size + 1 + 1) zeroPk R 41 rfl rfl ZW.out (infoPk HRS.out) (Eq.trans (b := 36) rfl HRS.out.symm) HRO.out ?_
    | fail)
  intro W8 y1 y2 y3 y4
  go_wp2
  exact bodyPost_ret (results_cell_row (p := 6) (ty := 41) rfl _ _ (w.heap.size + 1 + 1) 41 _ (0, 0) _ rfl y1 Try.underlying41 rfl (infoPk HRS.out)) rfl ⟨rfl, BW.out.trans (y4.mono (by omega))⟩
set_option maxRecDepth 20000 in
set_option maxHeartbeats 1000000 in
theorem changed_back_l4 (ps cn : Array Value) (hs : ps.size = 36) (h1 : ps.all (·.oneCell') = true) (k : Int) (hk : k ≠ 1) (h20 : ps[20]? = some (.int .i64 k)) (x0 : Int) (hx0 : ps[17]? = some (.int .u32 x0)) (y0 : Int) (hy0 : ps[24]? = some (.int .i64 y0)) (x y : Int) (hx : cn[3]? = some (.int .u32 x)) (hy : cn[5]? = some (.int .i64 y)) (w : World) :
    Calls Try.prog 24 #[.agg ps, .agg cn, .bool true] w fun e w' => e = .returned (.agg ((ps.setIfInBounds 17 (.int .u32 x)).setIfInBounds 24 (.int .i64 y))) ∧ Below w.heap.size w w' := by
  have HR1 : Hid _ := three_first w (.cells (ps.setIfInBounds 17 (.int .u32 x)) 41) (.cells cn 51) (.cells zeroPk 41)
  have HR2 : Hid _ := three_last w (.cells (ps.setIfInBounds 17 (.int .u32 x)) 41) (.cells cn 51) (.cells zeroPk 41)
  have HB : Hid _ := below3 w (.cells (ps.setIfInBounds 17 (.int .u32 x)) 41) (.cells cn 51) (.cells zeroPk 41)
  have e20 : (ps.setIfInBounds 17 (.int .u32 x))[20]? = some (.int .i64 k) := by rw [Array.getElem?_setIfInBounds_ne (by decide)]; exact h20
  have E20 : Hid _ := e20
  have e2 : (ps.setIfInBounds 17 (.int .u32 x))[24]? = some (.int .i64 y0) := by rw [Array.getElem?_setIfInBounds_ne (by decide)]; exact hy0
  have E2 : Hid _ := e2
  have hRS : ((ps.setIfInBounds 17 (.int .u32 x)).setIfInBounds 24 (.int .i64 y)).size = 36 := by simp [hs]
  have hRO : ((ps.setIfInBounds 17 (.int .u32 x)).setIfInBounds 24 (.int .i64 y)).all (·.oneCell') = true := set_one (set_one h1 rfl) rfl
  have HRS : Hid _ := hRS
  have HRO : Hid _ := hRO
  skip
  obtain ⟨R, hR⟩ : ∃ R, (ps.setIfInBounds 17 (.int .u32 x)).setIfInBounds 24 (.int .i64 y) = R := ⟨_, rfl⟩
  rw [hR] at HRS HRO ⊢
  have HR : Hid _ := hR
  clear hR hs h1 h20 e20 e2 hRS hRO hy0
  go_enter Try.func24, Try.ntmps24
  go_wp2_with fail
  refine (putPort_l4 w.heap.size 24 k y hk _ _ HR1.out E20.out y0 E2.out).mono ?_
  rintro e W1 ⟨rfl, hw1⟩
  have hRW : W1.heap[w.heap.size]? = some (.cells R 41 (0, 0)) := by
    rw [← HR.out, hw1]; exact row_setCell HR1.out 24 _
  have hZW : W1.heap[w.heap.size + 1 + 1]? = some (.cells zeroPk 41 (0, 0)) := by
    rw [hw1]; exact (Below.heap_setCell _ _ _ _ (show w.heap.size + 1 + 1 ≠ w.heap.size by omega)).trans HR2.out
  have hBW : Below w.heap.size w W1 := by
    rw [hw1]; exact HB.out.setCell (Nat.le_refl _) _
  have RW : Hid _ := hRW
  have ZW : Hid _ := hZW
  have BW : Hid _ := hBW
  clear hw1 hRW hZW hBW HR1 HR2 HB
  go_wp2_with (first
    | refine wpList_load_row rfl 41 _ rfl w.heap.size rfl 41 R (0, 0) _ RW.out Try.underlying41 rfl (infoPk HRS.out) ?_
    | refine wpList_store_row rfl 41 _ _ rfl (w.heap.size + 1 + 1) zeroPk R 41 rfl rfl ZW.out (infoPk HRS.out) (Eq.trans (b := 36) rfl HRS.out.symm) HRO.out ?_
    | fail)
  intro W8 y1 y2 y3 y4
  go_wp2
  exact bodyPost_ret (results_cell_row (p := 6) (ty := 41) rfl _ _ (w.heap.size + 1 + 1) 41 _ (0, 0) _ rfl y1 Try.underlying41 rfl (infoPk HRS.out)) rfl ⟨rfl, BW.out.trans (y4.mono (by omega))⟩
set_option maxRecDepth 20000 in
set_option maxHeartbeats 1000000 in
theorem changed_back_icmp (ps cn : Array Value) (hs : ps.size = 36) (h1 : ps.all (·.oneCell') = true) (h20 : ps[20]? = some (.int .i64 1)) (re : Int) (hr : 0 ≤ re ∧ re ≤ 4294967295) (h23 : ps[23]? = some (.int .u32 re)) (x0 : Int) (hx0 : ps[17]? = some (.int .u32 x0)) (x : Int) (hx : cn[3]? = some (.int .u32 x)) (hy : cn[5]? = some (.int .i64 (re / 65536))) (w : World) :
    Calls Try.prog 24 #[.agg ps, .agg cn, .bool true] w fun e w' => e = .returned (.agg (ps.setIfInBounds 17 (.int .u32 x))) ∧ Below w.heap.size w w' := by
  have HR1 : Hid _ := three_first w (.cells (ps.setIfInBounds 17 (.int .u32 x)) 41) (.cells cn 51) (.cells zeroPk 41)
  have HR2 : Hid _ := three_last w (.cells (ps.setIfInBounds 17 (.int .u32 x)) 41) (.cells cn 51) (.cells zeroPk 41)
  have HB : Hid _ := below3 w (.cells (ps.setIfInBounds 17 (.int .u32 x)) 41) (.cells cn 51) (.cells zeroPk 41)
  have e20 : (ps.setIfInBounds 17 (.int .u32 x))[20]? = some (.int .i64 1) := by rw [Array.getElem?_setIfInBounds_ne (by decide)]; exact h20
  have E20 : Hid _ := e20
  have e2 : (ps.setIfInBounds 17 (.int .u32 x))[23]? = some (.int .u32 re) := by rw [Array.getElem?_setIfInBounds_ne (by decide)]; exact h23
  have E2 : Hid _ := e2
  have hRS : (ps.setIfInBounds 17 (.int .u32 x)).size = 36 := by simp [hs]
  have hRO : (ps.setIfInBounds 17 (.int .u32 x)).all (·.oneCell') = true := set_one h1 rfl
  have HRS : Hid _ := hRS
  have HRO : Hid _ := hRO
  have HSS : Hid ((ps.setIfInBounds 17 (.int .u32 x)).setIfInBounds 23 (.int .u32 re) = ps.setIfInBounds 17 (.int .u32 x)) := set_self e2
  obtain ⟨R, hR⟩ : ∃ R, ps.setIfInBounds 17 (.int .u32 x) = R := ⟨_, rfl⟩
  rw [hR] at HRS HRO ⊢
  have HR : Hid _ := hR
  clear hR hs h1 h20 e20 e2 hRS hRO h23
  go_enter Try.func24, Try.ntmps24
  go_wp2_with fail
  refine (putPort_icmp w.heap.size 24 re hr _ _ HR1.out E20.out E2.out).mono ?_
  rintro e W1 ⟨rfl, hw1⟩
  have hRW : W1.heap[w.heap.size]? = some (.cells R 41 (0, 0)) := by
    rw [← HR.out, hw1, row_setCell HR1.out 23, HSS.out]
  have hZW : W1.heap[w.heap.size + 1 + 1]? = some (.cells zeroPk 41 (0, 0)) := by
    rw [hw1]; exact (Below.heap_setCell _ _ _ _ (show w.heap.size + 1 + 1 ≠ w.heap.size by omega)).trans HR2.out
  have hBW : Below w.heap.size w W1 := by
    rw [hw1]; exact HB.out.setCell (Nat.le_refl _) _
  have RW : Hid _ := hRW
  have ZW : Hid _ := hZW
  have BW : Hid _ := hBW
  clear hw1 hRW hZW hBW HR1 HR2 HB
  go_wp2_with (first
    | refine wpList_load_row rfl 41 _ rfl w.heap.size rfl 41 R (0, 0) _ RW.out Try.underlying41 rfl (infoPk HRS.out) ?_
    | refine wpList_store_row rfl 41 _ _ rfl (w.heap.size + 1 + 1) zeroPk R 41 rfl rfl ZW.out (infoPk HRS.out) (Eq.trans (b := 36) rfl HRS.out.symm) HRO.out ?_
    | fail)
  intro W8 y1 y2 y3 y4
  go_wp2
  exact bodyPost_ret (results_cell_row (p := 6) (ty := 41) rfl _ _ (w.heap.size + 1 + 1) 41 _ (0, 0) _ rfl y1 Try.underlying41 rfl (infoPk HRS.out)) rfl ⟨rfl, BW.out.trans (y4.mono (by omega))⟩
end Go.Proofs.Ytjjehncnjcepkaa
