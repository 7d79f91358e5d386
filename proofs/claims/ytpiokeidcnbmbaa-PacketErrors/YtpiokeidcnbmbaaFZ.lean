/- PacketErrors: what a router answers to any packet, as the document says; and that answer is a frame. For every input; no condition beyond the given row's own. -/
import Derived.Test.YtpiokeidcnbmbaaFG1
import Derived.Deep.RegionHeld3
import Derived.Test.YtpiokeidcnbmbaaFG2
import Derived.Test.YtpiokeidcnbmbaaFY
import Derived.Test.YtpiokeidcnbmbaaFD1
import Derived.Test.YtpiokeidcnbmbaaIH
import Derived.Test.YtpiokeidcnbmbaaXG
import Derived.Test.YtpiokeidcnbmbaaIF
import Derived.ProofKit
import Derived.ShutString
import Derived.ChangeOld
import Derived.SizedLaws
import Derived.Deep.Slices
import Derived.Deep.RegionWith
import Derived.Deep.DrawnRows
namespace Go.Proofs.Ytpiokeidcnbmbaa
open Go.RowKit
set_option maxRecDepth 20000
set_option linter.unusedSimpArgs false
/-- A goal at which a walk stops. -/
@[irreducible] def StopP (p : Prop) : Prop := p
theorem StopP.out {p : Prop} (h : StopP p) : p := by unfold StopP at h; exact h
theorem StopP.mk {p : Prop} (h : p) : StopP p := by unfold StopP; exact h
set_option maxHeartbeats 4000000 in
theorem echo_0 (ps : Array Value) (h11 : ps[11]? = some (.bool false)) (w : World) :
    Calls Try.prog 15 #[.agg ps] w fun e w' => e = .returned (.tuple #[.agg zeroPk, .bool false]) ∧ Below w.heap.size w w' := by
  have L1 : Hid _ := Ca.two_first w (.cells ps 34) (.cells zeroPk 34)
  have L2 : Hid _ := Ca.two_last w (.cells ps 34) (.cells zeroPk 34)
  have LB : Hid _ := below2 w (.cells ps 34) (.cells zeroPk 34)

  go_enter Try.func15, Try.ntmps15
  go_wp2_with (first
    | refine Ca.wpList_build_as rfl 34 _ rfl zeroPk (by rw [List.map_toArray]; show Try.prog.built 34 [] = _; kernel_rfl) ?_
    | refine Ca.wpList_store_row rfl 34 _ _ rfl (w.heap.size + 1) zeroPk zeroPk 34 rfl rfl L2.out (info36 zsize) rfl one36 ?_
    | fail)
  intro W9 y1 y2 y3 y4
  go_wp2
  exact bodyPost_ret (results_pk (p := 2) (u := 3) rfl _ _ (w.heap.size + 1) zeroPk rfl y1 zsize) rfl ⟨rfl, LB.out.trans (y4.mono (by omega))⟩
set_option maxHeartbeats 4000000 in
theorem echo_1 (ps : Array Value) (tos id fr ttl pr src dst : Int) (io : List Int) (hI : ps.extract 12 (12 + 8) = #[.int .i64 tos, .int .i64 id, .int .i64 fr, .int .i64 ttl, .int .i64 pr, .int .u32 src, .int .u32 dst, .string (strOfNums io)]) (h11 : ps[11]? = some (.bool true)) (h1 : wholeB fr = false) (w : World) :
    Calls Try.prog 15 #[.agg ps] w fun e w' => e = .returned (.tuple #[.agg zeroPk, .bool false]) ∧ Below w.heap.size w w' := by
  have L1 : Hid _ := Ca.two_first w (.cells ps 34) (.cells zeroPk 34)
  have L2 : Hid _ := Ca.two_last w (.cells ps 34) (.cells zeroPk 34)
  have LB : Hid _ := below2 w (.cells ps 34) (.cells zeroPk 34)
  go_enter Try.func15, Try.ntmps15
  go_wp2_with (refine Ca.wpList_load_atw (by rfl) 30 _ rfl (w.heap.size) 12 8 rfl ps #[.int .i64 tos, .int .i64 id, .int .i64 fr, .int .i64 ttl, .int .i64 pr, .int .u32 src, .int .u32 dst, .string (strOfNums io)] 34 _ L1.out Try.underlying30 rfl hI rfl (by kernel_rfl) ?_)
  refine (ipwhole_any tos id fr ttl pr src dst io _).mono ?_
  rintro e W1 ⟨rfl, hb⟩
  rw [h1]
  have B_W1 : Hid (Below w.heap.size w W1) := LB.out.trans (hb.mono (by first | exact LB.out.size | (simp; omega)))
  have R1_W1 : Hid (W1.heap[w.heap.size]? = some (.cells ps 34 (0, 0))) := (hb.block _ (Ca.lt_of_heap L1.out)).trans L1.out
  have R2_W1 : Hid (W1.heap[w.heap.size + 1]? = some (.cells zeroPk 34 (0, 0))) := (hb.block _ (Ca.lt_of_heap L2.out)).trans L2.out
  clear hb L1 L2 LB
  go_wp2_with (first
    | refine Ca.wpList_build_as rfl 34 _ rfl zeroPk (by rw [List.map_toArray]; show Try.prog.built 34 [] = _; kernel_rfl) ?_
    | refine Ca.wpList_store_row rfl 34 _ _ rfl (w.heap.size + 1) zeroPk zeroPk 34 rfl rfl R2_W1.out (info36 zsize) rfl one36 ?_
    | fail)
  intro W9 y1 y2 y3 y4
  go_wp2
  exact bodyPost_ret (results_pk (p := 2) (u := 3) rfl _ _ (w.heap.size + 1) zeroPk rfl y1 zsize) rfl ⟨rfl, B_W1.out.trans (y4.mono (by omega))⟩
set_option maxHeartbeats 4000000 in
theorem echo_2 (ps : Array Value) (hs : ps.size = 36) (ho : ps.all (·.oneCell') = true) (tos id fr ttl pr src dst : Int) (io : List Int) (k ty co re sp dp : Int) (ns : Bool) (sq ak fl wi ur : Int) (lo ds : List Int) (hI : ps.extract 12 (12 + 8) = #[.int .i64 tos, .int .i64 id, .int .i64 fr, .int .i64 ttl, .int .i64 pr, .int .u32 src, .int .u32 dst, .string (strOfNums io)]) (hL : ps.extract 20 (20 + 14) = #[.int .i64 k, .int .i64 ty, .int .i64 co, .int .u32 re, .int .i64 sp, .int .i64 dp, .bool ns, .int .u32 sq, .int .u32 ak, .int .i64 fl, .int .i64 wi, .int .i64 ur, .string (strOfNums lo), .string (strOfNums ds)]) (h11 : ps[11]? = some (.bool true)) (h1 : wholeB fr = true) (h2 : askedB k ty co = false) (w : World) :
    Calls Try.prog 15 #[.agg ps] w fun e w' => e = .returned (.tuple #[.agg zeroPk, .bool false]) ∧ Below w.heap.size w w' := by
  have L1 : Hid _ := Ca.two_first w (.cells ps 34) (.cells zeroPk 34)
  have L2 : Hid _ := Ca.two_last w (.cells ps 34) (.cells zeroPk 34)
  have LB : Hid _ := below2 w (.cells ps 34) (.cells zeroPk 34)
  have HS : Hid (ps.size = 36) := hs
  have HO : Hid (ps.all (·.oneCell') = true) := ho
  clear hs ho
  go_enter Try.func15, Try.ntmps15
  go_wp2_with (refine Ca.wpList_load_atw (by rfl) 30 _ rfl (w.heap.size) 12 8 rfl ps #[.int .i64 tos, .int .i64 id, .int .i64 fr, .int .i64 ttl, .int .i64 pr, .int .u32 src, .int .u32 dst, .string (strOfNums io)] 34 _ L1.out Try.underlying30 rfl hI rfl (by kernel_rfl) ?_)
  refine (ipwhole_any tos id fr ttl pr src dst io _).mono ?_
  rintro e W1 ⟨rfl, hb⟩
  rw [h1]
  have B_W1 : Hid (Below w.heap.size w W1) := LB.out.trans (hb.mono (by first | exact LB.out.size | (simp; omega)))
  have R1_W1 : Hid (W1.heap[w.heap.size]? = some (.cells ps 34 (0, 0))) := (hb.block _ (Ca.lt_of_heap L1.out)).trans L1.out
  have R2_W1 : Hid (W1.heap[w.heap.size + 1]? = some (.cells zeroPk 34 (0, 0))) := (hb.block _ (Ca.lt_of_heap L2.out)).trans L2.out
  clear hb L1 L2 LB
  clear h11
  go_wp2_with (refine Ca.wpList_load_atw (by rfl) 32 _ rfl (w.heap.size) 20 14 rfl ps #[.int .i64 k, .int .i64 ty, .int .i64 co, .int .u32 re, .int .i64 sp, .int .i64 dp, .bool ns, .int .u32 sq, .int .u32 ak, .int .i64 fl, .int .i64 wi, .int .i64 ur, .string (strOfNums lo), .string (strOfNums ds)] 34 _ R1_W1.out Try.underlying32 rfl hL rfl (by kernel_rfl) ?_)
  refine (asked_any k ty co re sp dp ns sq ak fl wi ur lo ds _).mono ?_
  rintro e W2 ⟨rfl, hb⟩
  rw [h2]
  have B_W2 : Hid (Below w.heap.size w W2) := B_W1.out.trans (hb.mono (by first | exact B_W1.out.size | (simp; omega)))
  have R1_W2 : Hid (W2.heap[w.heap.size]? = some (.cells ps 34 (0, 0))) := (hb.block _ (Ca.lt_of_heap R1_W1.out)).trans R1_W1.out
  have R2_W2 : Hid (W2.heap[w.heap.size + 1]? = some (.cells zeroPk 34 (0, 0))) := (hb.block _ (Ca.lt_of_heap R2_W1.out)).trans R2_W1.out
  clear hb B_W1 R1_W1 R2_W1
  go_wp2_with (first
    | refine Ca.wpList_build_as rfl 34 _ rfl zeroPk (by rw [List.map_toArray]; show Try.prog.built 34 [] = _; kernel_rfl) ?_
    | refine Ca.wpList_store_row rfl 34 _ _ rfl (w.heap.size + 1) zeroPk zeroPk 34 rfl rfl R2_W2.out (info36 zsize) rfl one36 ?_
    | fail)
  intro W9 y1 y2 y3 y4
  go_wp2
  exact bodyPost_ret (results_pk (p := 2) (u := 3) rfl _ _ (w.heap.size + 1) zeroPk rfl y1 zsize) rfl ⟨rfl, B_W2.out.trans (y4.mono (by omega))⟩
/-- The reply to an echo. -/
def echoQ (ps : Array Value) (d s src dst : Int) : Array Value := ((((((ps.setIfInBounds 0 (.int .u64 s)).setIfInBounds 1 (.int .u64 d)).setIfInBounds 18 (.int .u32 src)).setIfInBounds 17 (.int .u32 dst)).setIfInBounds 15 (.int .i64 64)).setIfInBounds 21 (.int .i64 0))
theorem echoQ_size {ps : Array Value} (h : ps.size = 36) (d s src dst : Int) : (echoQ ps d s src dst).size = 36 := by simp [echoQ, h]
theorem echoQ_one {ps : Array Value} (ho : ps.all (·.oneCell') = true) (d s src dst : Int) : (echoQ ps d s src dst).all (·.oneCell') = true := (Ca.set_one (Ca.set_one (Ca.set_one (Ca.set_one (Ca.set_one (Ca.set_one ho rfl) rfl) rfl) rfl) rfl) rfl)
set_option maxHeartbeats 4000000 in
theorem echo_3 (ps : Array Value) (hs : ps.size = 36) (ho : ps.all (·.oneCell') = true) (tos id fr ttl pr src dst : Int) (io : List Int) (k ty co re sp dp : Int) (ns : Bool) (sq ak fl wi ur : Int) (lo ds : List Int) (hI : ps.extract 12 (12 + 8) = #[.int .i64 tos, .int .i64 id, .int .i64 fr, .int .i64 ttl, .int .i64 pr, .int .u32 src, .int .u32 dst, .string (strOfNums io)]) (hL : ps.extract 20 (20 + 14) = #[.int .i64 k, .int .i64 ty, .int .i64 co, .int .u32 re, .int .i64 sp, .int .i64 dp, .bool ns, .int .u32 sq, .int .u32 ak, .int .i64 fl, .int .i64 wi, .int .i64 ur, .string (strOfNums lo), .string (strOfNums ds)]) (d s : Int) (h11 : ps[11]? = some (.bool true)) (h1 : wholeB fr = true) (h2 : askedB k ty co = true) (g0 : ps[0]? = some (.int .u64 d)) (g1 : ps[1]? = some (.int .u64 s)) (g15 : ps[15]? = some (.int .i64 ttl)) (g17 : ps[17]? = some (.int .u32 src)) (g18 : ps[18]? = some (.int .u32 dst)) (g21 : ps[21]? = some (.int .i64 ty)) (w : World) :
    Calls Try.prog 15 #[.agg ps] w fun e w' => e = .returned (.tuple #[.agg (echoQ ps d s src dst), .bool true]) ∧ Below w.heap.size w w' := by
  have Zq : Hid ((echoQ ps d s src dst).size = 36) := echoQ_size hs d s src dst
  have Oq : Hid ((echoQ ps d s src dst).all (·.oneCell') = true) := echoQ_one ho d s src dst
  have G0 : Hid (ps[0]? = some (.int .u64 d)) := g0
  have G1 : Hid (ps[1]? = some (.int .u64 s)) := g1
  have G15 : Hid (ps[15]? = some (.int .i64 ttl)) := g15
  have G17 : Hid (ps[17]? = some (.int .u32 src)) := g17
  have G18 : Hid (ps[18]? = some (.int .u32 dst)) := g18
  have G21 : Hid (ps[21]? = some (.int .i64 ty)) := g21
  clear g0 g1 g15 g17 g18 g21
  have L1 : Hid _ := Ca.two_first w (.cells ps 34) (.cells zeroPk 34)
  have L2 : Hid _ := Ca.two_last w (.cells ps 34) (.cells zeroPk 34)
  have LB : Hid _ := below2 w (.cells ps 34) (.cells zeroPk 34)
  have HS : Hid (ps.size = 36) := hs
  clear hs ho
  go_enter Try.func15, Try.ntmps15
  go_wp2_with (refine Ca.wpList_load_atw (by rfl) 30 _ rfl (w.heap.size) 12 8 rfl ps #[.int .i64 tos, .int .i64 id, .int .i64 fr, .int .i64 ttl, .int .i64 pr, .int .u32 src, .int .u32 dst, .string (strOfNums io)] 34 _ L1.out Try.underlying30 rfl hI rfl (by kernel_rfl) ?_)
  refine (ipwhole_any tos id fr ttl pr src dst io _).mono ?_
  rintro e W1 ⟨rfl, hb⟩
  rw [h1]
  have B_W1 : Hid (Below w.heap.size w W1) := LB.out.trans (hb.mono (by first | exact LB.out.size | (simp; omega)))
  have R1_W1 : Hid (W1.heap[w.heap.size]? = some (.cells ps 34 (0, 0))) := (hb.block _ (Ca.lt_of_heap L1.out)).trans L1.out
  have R2_W1 : Hid (W1.heap[w.heap.size + 1]? = some (.cells zeroPk 34 (0, 0))) := (hb.block _ (Ca.lt_of_heap L2.out)).trans L2.out
  clear hb L1 L2 LB
  clear h11
  go_wp2_with (refine Ca.wpList_load_atw (by rfl) 32 _ rfl (w.heap.size) 20 14 rfl ps #[.int .i64 k, .int .i64 ty, .int .i64 co, .int .u32 re, .int .i64 sp, .int .i64 dp, .bool ns, .int .u32 sq, .int .u32 ak, .int .i64 fl, .int .i64 wi, .int .i64 ur, .string (strOfNums lo), .string (strOfNums ds)] 34 _ R1_W1.out Try.underlying32 rfl hL rfl (by kernel_rfl) ?_)
  refine (asked_any k ty co re sp dp ns sq ak fl wi ur lo ds _).mono ?_
  rintro e W2 ⟨rfl, hb⟩
  rw [h2]
  have B_W2 : Hid (Below w.heap.size w W2) := B_W1.out.trans (hb.mono (by first | exact B_W1.out.size | (simp; omega)))
  have R1_W2 : Hid (W2.heap[w.heap.size]? = some (.cells ps 34 (0, 0))) := (hb.block _ (Ca.lt_of_heap R1_W1.out)).trans R1_W1.out
  have R2_W2 : Hid (W2.heap[w.heap.size + 1]? = some (.cells zeroPk 34 (0, 0))) := (hb.block _ (Ca.lt_of_heap R2_W1.out)).trans R2_W1.out
  clear hb B_W1 R1_W1 R2_W1
  have c0 := (Ca.cell_row R1_W2.out 0).trans (show (ps)[0]? = some (.int .u64 d) from by exact G0.out)
  have f0 := frozen_of_row W2 _ 0 _ _ R1_W2.out
  have c1 := (Ca.cell_row R1_W2.out 1).trans (show (ps)[1]? = some (.int .u64 s) from by exact G1.out)
  have f1 := frozen_of_row W2 _ 1 _ _ R1_W2.out
  go_wp2_with (show wpList _ _ _ ({ dst := some 30, op := _, type := _, pos := _, after := _, guard := _ } :: _) _ _; refine StopP.out ?_)
  clear c0 f0 c1 f1
  have R1_W3 : Hid (((W2.setCell ⟨w.heap.size, 0, none⟩ (.int .u64 s)).setCell ⟨w.heap.size, 1, none⟩ (.int .u64 d)).heap[w.heap.size]? = some (.cells ((ps.setIfInBounds 0 (.int .u64 s)).setIfInBounds 1 (.int .u64 d)) 34 (0, 0))) := (Ca.row_setCell (Ca.row_setCell R1_W2.out 0 (.int .u64 s)) 1 (.int .u64 d))
  have R2_W3 : Hid (((W2.setCell ⟨w.heap.size, 0, none⟩ (.int .u64 s)).setCell ⟨w.heap.size, 1, none⟩ (.int .u64 d)).heap[w.heap.size + 1]? = some (.cells zeroPk 34 (0, 0))) := ((Below.heap_setCell _ _ _ _ (show w.heap.size + 1 ≠ w.heap.size by omega)).trans ((Below.heap_setCell _ _ _ _ (show w.heap.size + 1 ≠ w.heap.size by omega)).trans R2_W2.out))
  have B_W3 : Hid (Below w.heap.size w ((W2.setCell ⟨w.heap.size, 0, none⟩ (.int .u64 s)).setCell ⟨w.heap.size, 1, none⟩ (.int .u64 d))) := ((B_W2.out.setCell (Nat.le_refl _) _).setCell (Nat.le_refl _) _)
  obtain ⟨W3, hW⟩ : ∃ V, ((W2.setCell ⟨w.heap.size, 0, none⟩ (.int .u64 s)).setCell ⟨w.heap.size, 1, none⟩ (.int .u64 d)) = V := ⟨_, rfl⟩
  rw [hW] at R1_W3 R2_W3 B_W3 ⊢
  clear hW R1_W2 R2_W2 B_W2
  refine StopP.mk ?_
  have c17 := (Ca.cell_row R1_W3.out 17).trans (show (((ps.setIfInBounds 0 (.int .u64 s)).setIfInBounds 1 (.int .u64 d)))[17]? = some (.int .u32 src) from by rw [Array.getElem?_setIfInBounds_ne (by decide)]; rw [Array.getElem?_setIfInBounds_ne (by decide)]; exact G17.out)
  have f17 := frozen_of_row W3 _ 17 _ _ R1_W3.out
  have c18 := (Ca.cell_row R1_W3.out 18).trans (show (((ps.setIfInBounds 0 (.int .u64 s)).setIfInBounds 1 (.int .u64 d)))[18]? = some (.int .u32 dst) from by rw [Array.getElem?_setIfInBounds_ne (by decide)]; rw [Array.getElem?_setIfInBounds_ne (by decide)]; exact G18.out)
  have f18 := frozen_of_row W3 _ 18 _ _ R1_W3.out
  go_wp2_with (show wpList _ _ _ ({ dst := some 40, op := _, type := _, pos := _, after := _, guard := _ } :: _) _ _; refine StopP.out ?_)
  clear c17 f17 c18 f18
  have R1_W4 : Hid (((W3.setCell ⟨w.heap.size, 18, none⟩ (.int .u32 src)).setCell ⟨w.heap.size, 17, none⟩ (.int .u32 dst)).heap[w.heap.size]? = some (.cells ((((ps.setIfInBounds 0 (.int .u64 s)).setIfInBounds 1 (.int .u64 d)).setIfInBounds 18 (.int .u32 src)).setIfInBounds 17 (.int .u32 dst)) 34 (0, 0))) := (Ca.row_setCell (Ca.row_setCell R1_W3.out 18 (.int .u32 src)) 17 (.int .u32 dst))
  have R2_W4 : Hid (((W3.setCell ⟨w.heap.size, 18, none⟩ (.int .u32 src)).setCell ⟨w.heap.size, 17, none⟩ (.int .u32 dst)).heap[w.heap.size + 1]? = some (.cells zeroPk 34 (0, 0))) := ((Below.heap_setCell _ _ _ _ (show w.heap.size + 1 ≠ w.heap.size by omega)).trans ((Below.heap_setCell _ _ _ _ (show w.heap.size + 1 ≠ w.heap.size by omega)).trans R2_W3.out))
  have B_W4 : Hid (Below w.heap.size w ((W3.setCell ⟨w.heap.size, 18, none⟩ (.int .u32 src)).setCell ⟨w.heap.size, 17, none⟩ (.int .u32 dst))) := ((B_W3.out.setCell (Nat.le_refl _) _).setCell (Nat.le_refl _) _)
  obtain ⟨W4, hW⟩ : ∃ V, ((W3.setCell ⟨w.heap.size, 18, none⟩ (.int .u32 src)).setCell ⟨w.heap.size, 17, none⟩ (.int .u32 dst)) = V := ⟨_, rfl⟩
  rw [hW] at R1_W4 R2_W4 B_W4 ⊢
  clear hW R1_W3 R2_W3 B_W3
  refine StopP.mk ?_
  have c15 := (Ca.cell_row R1_W4.out 15).trans (show (((((ps.setIfInBounds 0 (.int .u64 s)).setIfInBounds 1 (.int .u64 d)).setIfInBounds 18 (.int .u32 src)).setIfInBounds 17 (.int .u32 dst)))[15]? = some (.int .i64 ttl) from by rw [Array.getElem?_setIfInBounds_ne (by decide)]; rw [Array.getElem?_setIfInBounds_ne (by decide)]; rw [Array.getElem?_setIfInBounds_ne (by decide)]; rw [Array.getElem?_setIfInBounds_ne (by decide)]; exact G15.out)
  have f15 := frozen_of_row W4 _ 15 _ _ R1_W4.out
  go_wp2_with (show wpList _ _ _ ({ dst := some 42, op := _, type := _, pos := _, after := _, guard := _ } :: _) _ _; refine StopP.out ?_)
  clear c15 f15
  have R1_W5 : Hid ((W4.setCell ⟨w.heap.size, 15, none⟩ (.int .i64 64)).heap[w.heap.size]? = some (.cells (((((ps.setIfInBounds 0 (.int .u64 s)).setIfInBounds 1 (.int .u64 d)).setIfInBounds 18 (.int .u32 src)).setIfInBounds 17 (.int .u32 dst)).setIfInBounds 15 (.int .i64 64)) 34 (0, 0))) := (Ca.row_setCell R1_W4.out 15 (.int .i64 64))
  have R2_W5 : Hid ((W4.setCell ⟨w.heap.size, 15, none⟩ (.int .i64 64)).heap[w.heap.size + 1]? = some (.cells zeroPk 34 (0, 0))) := ((Below.heap_setCell _ _ _ _ (show w.heap.size + 1 ≠ w.heap.size by omega)).trans R2_W4.out)
  have B_W5 : Hid (Below w.heap.size w (W4.setCell ⟨w.heap.size, 15, none⟩ (.int .i64 64))) := (B_W4.out.setCell (Nat.le_refl _) _)
  obtain ⟨W5, hW⟩ : ∃ V, (W4.setCell ⟨w.heap.size, 15, none⟩ (.int .i64 64)) = V := ⟨_, rfl⟩
  rw [hW] at R1_W5 R2_W5 B_W5 ⊢
  clear hW R1_W4 R2_W4 B_W4
  refine StopP.mk ?_
  have c21 := (Ca.cell_row R1_W5.out 21).trans (show ((((((ps.setIfInBounds 0 (.int .u64 s)).setIfInBounds 1 (.int .u64 d)).setIfInBounds 18 (.int .u32 src)).setIfInBounds 17 (.int .u32 dst)).setIfInBounds 15 (.int .i64 64)))[21]? = some (.int .i64 ty) from by rw [Array.getElem?_setIfInBounds_ne (by decide)]; rw [Array.getElem?_setIfInBounds_ne (by decide)]; rw [Array.getElem?_setIfInBounds_ne (by decide)]; rw [Array.getElem?_setIfInBounds_ne (by decide)]; rw [Array.getElem?_setIfInBounds_ne (by decide)]; exact G21.out)
  have f21 := frozen_of_row W5 _ 21 _ _ R1_W5.out
  go_wp2_with (show wpList _ _ _ ({ dst := some 44, op := _, type := _, pos := _, after := _, guard := _ } :: _) _ _; refine StopP.out ?_)
  clear c21 f21
  have R1_W6 : Hid ((W5.setCell ⟨w.heap.size, 21, none⟩ (.int .i64 0)).heap[w.heap.size]? = some (.cells ((((((ps.setIfInBounds 0 (.int .u64 s)).setIfInBounds 1 (.int .u64 d)).setIfInBounds 18 (.int .u32 src)).setIfInBounds 17 (.int .u32 dst)).setIfInBounds 15 (.int .i64 64)).setIfInBounds 21 (.int .i64 0)) 34 (0, 0))) := (Ca.row_setCell R1_W5.out 21 (.int .i64 0))
  have R2_W6 : Hid ((W5.setCell ⟨w.heap.size, 21, none⟩ (.int .i64 0)).heap[w.heap.size + 1]? = some (.cells zeroPk 34 (0, 0))) := ((Below.heap_setCell _ _ _ _ (show w.heap.size + 1 ≠ w.heap.size by omega)).trans R2_W5.out)
  have B_W6 : Hid (Below w.heap.size w (W5.setCell ⟨w.heap.size, 21, none⟩ (.int .i64 0))) := (B_W5.out.setCell (Nat.le_refl _) _)
  obtain ⟨W6, hW⟩ : ∃ V, (W5.setCell ⟨w.heap.size, 21, none⟩ (.int .i64 0)) = V := ⟨_, rfl⟩
  rw [hW] at R1_W6 R2_W6 B_W6 ⊢
  clear hW R1_W5 R2_W5 B_W5
  refine StopP.mk ?_
  go_wp2_with (first
    | refine wpList_load_row rfl 34 _ rfl (w.heap.size) rfl 34 (echoQ ps d s src dst) (0, 0) _ R1_W6.out Try.underlying34 rfl (info36 Zq.out) ?_
    | refine Ca.wpList_store_row rfl 34 _ _ rfl (w.heap.size + 1) zeroPk (echoQ ps d s src dst) 34 rfl rfl R2_W6.out (info36 Zq.out) (Eq.trans (b := 36) rfl Zq.out.symm) Oq.out ?_
    | fail)
  intro W9 y1 y2 y3 y4
  go_wp2
  exact bodyPost_ret (results_pk (p := 2) (u := 3) rfl _ _ (w.heap.size + 1) (echoQ ps d s src dst) rfl y1 Zq.out) rfl ⟨rfl, B_W6.out.trans (y4.mono (by omega))⟩
end Go.Proofs.Ytpiokeidcnbmbaa

namespace Go.Proofs.Ytpiokeidcnbmbaa
open Go.RowKit
set_option maxRecDepth 20000
def livePk : Array Value := #[.int .u64 1, .int .u64 2, .bool false, .int .i64 0, .int .i64 2048, .bool false, .int .i64 0, .int .u64 0, .int .u32 0, .int .u64 0, .int .u32 0, .bool true, .int .i64 0, .int .i64 0, .int .i64 0, .int .i64 9, .int .i64 1, .int .u32 167772161, .int .u32 167772162, .string (strOfNums []), .int .i64 1, .int .i64 8, .int .i64 0, .int .u32 458752, .int .i64 0, .int .i64 0, .bool false, .int .u32 0, .int .u32 0, .int .i64 0, .int .i64 0, .int .i64 0, .string (strOfNums []), .string (strOfNums [112, 105, 110, 103]), .string (strOfNums []), .string (strOfNums [112, 97, 100])]
def liveL : L4R := ⟨1, 8, 0, 458752, 0, 0, false, 0, 0, 0, 0, 0, [], [112, 105, 110, 103]⟩
theorem liveL_fine : liveL.Fine := ⟨by decide, by decide, by decide, fun i => by simp [liveL], fun i => by
  rcases i with _ | _ | _ | _ | i <;> simp [liveL], by decide⟩
theorem liveL_ok : liveL.ok = true := by decide +kernel
/-- The bytes of the IPv4 packet, and of the whole. -/
def liveE : List Int := liveL.enc 167772161 167772162
def liveI : List Int := Ip.ipB 0 0 0 9 1 167772161 167772162 [] 12
def liveB : List Int := Eth.headBytes 1 2 false 0 2048 ++ (liveI ++ liveE) ++ [] ++ [112, 97, 100]
theorem liveL_len : liveL.body.length = 12 := by decide +kernel
theorem live_eq (W : World) : (binOp .eql 34 (.agg livePk) (.agg livePk)).run Try.prog W = .ok (.bool true) W := by kernel_rfl
theorem live_form (w : World) : Calls Try.prog 28 #[.agg livePk] w fun e w' => e = .returned (.bool true) ∧ Below w.heap.size w w' :=
  form_ip livePk rfl 1 2 0 false 0 0 0 9 1 167772161 167772162 [] 1 8 0 458752 0 0 false 0 0 0 0 0 [] [112, 105, 110, 103] (strOfNums [112, 97, 100]) (by kernel_rfl) (by kernel_rfl) (by kernel_rfl) (by kernel_rfl) (by kernel_rfl) 1 true w
    (fun W => live_eq W) (fun W => kindOf_any 0 0 0 9 1 167772161 167772162 [] W)
theorem live_inner (w : World) : Calls Try.prog 30 #[.agg livePk] w fun e w' => ∃ a cap, e = .returned (.tuple #[.slice a 32 cap, .int .i64 0]) ∧ RB w w' (.slice a 32 cap) 32 (liveI ++ liveE) := by
  refine inner_ip livePk (by kernel_rfl) (by kernel_rfl) 0 0 0 9 1 167772161 167772162 [] 1 8 0 458752 0 0 false 0 0 0 0 0 [] [112, 105, 110, 103] (by kernel_rfl) (by kernel_rfl) 32 (liveI ++ liveE) w (fun W => ?_)
  refine printIp_ok 0 0 0 9 1 167772161 167772162 [] 1 8 0 458752 0 0 false 0 0 0 0 0 [] [112, 105, 110, 103] 12 20 liveE liveI (by omega) W (fun V => ?_) (fun V => ?_)
  · have := encode_ok liveL liveL_fine liveL_ok 167772161 167772162 (by omega) (by omega) V
    rw [liveL_len] at this
    exact this
  · exact Ip.encode_yes 0 0 0 9 1 167772161 167772162 [] 12 V (by omega) (by omega) (fun i => by simp) (by decide +kernel)
theorem fits_all {L : List Int} (h : L.all (fun z => decide (0 ≤ z ∧ z ≤ 255)) = true) : ∀ i, 0 ≤ L.getD i 0 ∧ L.getD i 0 ≤ 255 := by
  intro i
  by_cases hi : i < L.length
  · have := (List.all_eq_true.1 h) (L.getD i 0) (by simp [List.getD_eq_getElem?_getD, hi])
    simpa using this
  · simp [List.getD_eq_getElem?_getD, List.getElem?_eq_none (by omega : L.length ≤ i)]
theorem live_fits : ∀ i, 0 ≤ (liveI ++ liveE).getD i 0 ∧ (liveI ++ liveE).getD i 0 ≤ 255 := fits_all (by decide +kernel)
theorem live_print (w : World) : Calls Try.prog 11 #[.agg livePk] w fun e w' => ∃ a cap, e = .returned (.tuple #[.slice a 49 cap, .int .i64 0]) ∧ RB w w' (.slice a 49 cap) 49 liveB := by
  refine print_ok livePk rfl 1 2 0 2048 false (by kernel_rfl) [] [112, 97, 100] (by kernel_rfl) (by kernel_rfl) (fun i => by simp) (fun i => by rcases i with _ | _ | _ | i <;> simp) 14 32 (Eth.headBytes 1 2 false 0 2048) (liveI ++ liveE) live_fits (by decide) w (fun W => live_form W) (fun W => ?_) (fun W => live_inner W)
  have := Eth.encodeHead_plain 1 2 0 2048 W (by omega) (by omega) (by decide +kernel)
  rw [show (Eth.headBytes 1 2 false 0 2048).length = 14 by decide +kernel] at this
  exact this
end Go.Proofs.Ytpiokeidcnbmbaa

namespace Go.Proofs.Ytpiokeidcnbmbaa
open Go.RowKit
set_option maxRecDepth 20000
theorem live_mok : Ip.MOk (liveB.drop 14) ((49 - 14 : Nat) : Int) 20 := by
  constructor <;> decide +kernel
theorem live_dec : (liveB.drop 34).take (46 - 34) = liveE := by decide +kernel
theorem live_lenB : liveB.length = 49 := by decide +kernel
theorem live_parse (w : World) (b off cap : Nat) (h : BS w (some ⟨b, off, none⟩) 49 liveB) (hcap : 49 ≤ cap) (hm : cap ≤ 9223372036854775807) :
    Calls Try.prog 8 #[.slice (some ⟨b, off, none⟩) 49 cap] w fun e w' => e = .returned (.tuple #[.agg livePk, .int .i64 0]) ∧ Below w.heap.size w w' := by
  have := parse_ok14A w b off 49 cap 34 46 liveB h 20 32 rfl rfl (by omega) (by omega) (by omega) hcap (by omega) (by omega) 1 2 0 false 0 0 0 9 1 167772161 167772162 [] (by decide +kernel) 1 8 0 458752 0 0 false 0 0 0 0 0 [] [112, 105, 110, 103] (strOfNums [112, 97, 100]) (by kernel_rfl)
    (fun W hB => ?_) (fun W hB => ?_) (fun W hB => ?_)
  · exact this
  · have := Eth.head_plain W b off 49 cap liveB hB hcap hm (by omega) (by omega) (by decide +kernel)
    rw [show num (liveB.take 6) = 1 by decide +kernel, show num ((liveB.drop 6).take 6) = 2 by decide +kernel, show num ((liveB.drop 12).take 2) = 2048 by decide +kernel] at this
    exact this
  · have := (Ip.decode_any W (some ⟨b, off + 14, none⟩) (49 - 14) (cap - 14) (liveB.drop 14) hB (by omega)).2 20 live_mok
    rw [show (liveB.drop 14).getD 2 0 * 256 + (liveB.drop 14).getD 3 0 = 32 by decide +kernel, show Ip.ipF (liveB.drop 14) 20 = .agg #[.int .i64 0, .int .i64 0, .int .i64 0, .int .i64 9, .int .i64 1, .int .u32 167772161, .int .u32 167772162, .string (strOfNums [])] by kernel_rfl] at this
    exact this
  · have hE : BS W (some ⟨b, off + 34, none⟩) (46 - 34) liveE := by
      rw [← live_dec]
      exact (hB.drop (by omega) 34 (by omega)).take (46 - 34) (by omega)
    have := decode_any 167772161 167772162 1 (by omega) (by omega) (some ⟨b, off + 34, none⟩) (46 - 34) (cap - 34) liveE (by omega) (fun x e => ⟨b, off + 34, by cases e; rfl⟩) (fun e => by cases e) W hE
    have hd : decE 167772161 167772162 1 liveE = 0 ∧ decR 167772161 167772162 1 liveE = liveL := dec_own liveL_fine liveL_ok 167772161 167772162 (by omega) (by omega)
    rw [show kindV 1 = 1 from rfl, hd.1, hd.2] at this
    exact this
end Go.Proofs.Ytpiokeidcnbmbaa

namespace Go.Proofs.Ytpiokeidcnbmbaa
open Go.RowKit
set_option maxRecDepth 20000
theorem echoType_8 (w : World) : Calls Try.prog 56 #[.int .i64 8] w fun e w' => e = .returned (.bool true) ∧ w' = w := by
  go_enter Try.func56, Try.ntmps56
  go_wp2
  go_ret
  exact ⟨rfl, rfl⟩
set_option maxHeartbeats 2000000 in
theorem live_ports (w : World) : Calls Try.prog 27 #[.agg livePk] w fun e w' => e = .returned (.tuple #[.int .i64 7, .int .i64 7]) ∧ Below w.heap.size w w' := by
  obtain ⟨ps, hps⟩ : ∃ p, livePk = p := ⟨_, rfl⟩
  have h11 : ps[11]? = some (.bool true) := by rw [← hps]; kernel_rfl
  have h20 : ps[20]? = some (.int .i64 1) := by rw [← hps]; kernel_rfl
  have h21 : ps[21]? = some (.int .i64 8) := by rw [← hps]; kernel_rfl
  have h23 : ps[23]? = some (.int .u32 458752) := by rw [← hps]; kernel_rfl
  rw [hps]
  clear hps
  go_enter Try.func27, Try.ntmps27
  go_wp2_with (go_at_call 56; refine (echoType_8 _).mono ?_; rintro e w' ⟨rfl, rfl⟩)
  go_ret2
  exact ⟨rfl, below1 w _⟩
theorem live_echo (w : World) : Calls Try.prog 15 #[.agg livePk] w fun e w' => e = .returned (.tuple #[.agg (echoQ livePk 1 2 167772161 167772162), .bool true]) ∧ Below w.heap.size w w' :=
  echo_3 livePk rfl (by kernel_rfl) 0 0 0 9 1 167772161 167772162 [] 1 8 0 458752 0 0 false 0 0 0 0 0 [] [112, 105, 110, 103] (by kernel_rfl) (by kernel_rfl) 1 2 (by kernel_rfl) (by decide +kernel) (by decide +kernel) (by kernel_rfl) (by kernel_rfl) (by kernel_rfl) (by kernel_rfl) (by kernel_rfl) (by kernel_rfl) w
end Go.Proofs.Ytpiokeidcnbmbaa

namespace Go.Proofs.Ytpiokeidcnbmbaa
open Go.RowKit
set_option maxRecDepth 20000
theorem livePk_size : livePk.size = 36 := rfl
theorem livePk_one : livePk.all (·.oneCell') = true := by kernel_rfl
theorem liveB_fits : ∀ i, 0 ≤ liveB.getD i 0 ∧ liveB.getD i 0 ≤ 255 := fits_all (by decide +kernel)
set_option maxHeartbeats 4000000 in
theorem lives_any (w : World) : Calls Try.prog 10 #[] w fun e w' => e = .returned (.bool true) ∧ Below w.heap.size w w' := by
  have Zq : Hid ((echoQ livePk 1 2 167772161 167772162).size = 36) := echoQ_size livePk_size _ _ _ _
  have Oq : Hid ((echoQ livePk 1 2 167772161 167772162).all (·.oneCell') = true) := echoQ_one livePk_one _ _ _ _
  go_enter Try.func10, Try.ntmps10
  go_wp2_with (first
    | refine Ca.wpList_build_as rfl 34 _ rfl livePk (by rw [List.map_toArray]; kernel_rfl) ?_
    | refine Ca.wpList_store_new rfl 34 _ _ rfl zeroPk livePk _ rfl rfl rfl (info36 livePk_size) rfl livePk_one ?_
    | refine wpList_load_row rfl 34 _ rfl (w.heap.size) rfl 34 livePk (0, 0) _ (heap_alloc_new w _) Try.underlying34 rfl (info36 livePk_size) ?_
    | fail)
  refine (live_print _).mono ?_
  rintro e W1 ⟨a, cap, rfl, r1⟩
  have hb := r1.bel
  have hcc := own_caps r1.own
  obtain ⟨g, rfl, hg1, hg2⟩ := own_some r1.own (by omega)
  have H1 : Hid (BS W1 (some ⟨g, 0, none⟩) 49 liveB) := own_bs r1.own liveB_fits (by omega)
  have B_1 : Hid (Below w.heap.size w W1) := (below1 w _).trans (hb.mono (by simp))
  have R1_1 : Hid (W1.heap[w.heap.size]? = some (.cells livePk 34 (0, 0))) := (hb.block _ (Ca.lt_of_heap (heap_alloc_new w _))).trans (heap_alloc_new w _)
  clear hb r1 hg1 hg2
  go_wp2_with fail
  refine (live_parse _ g 0 cap H1.out hcc.1 hcc.2).mono ?_
  rintro e W2 ⟨rfl, hb⟩
  have B_2 : Hid (Below w.heap.size w W2) := B_1.out.trans (hb.mono B_1.out.size)
  have R1_2 : Hid (W2.heap[w.heap.size]? = some (.cells livePk 34 (0, 0))) := (hb.block _ (Ca.lt_of_heap R1_1.out)).trans R1_1.out
  have hlt2 : Hid (w.heap.size < W2.heap.size) := Ca.lt_of_heap R1_2.out
  have R1_3 : Hid ((W2.alloc (.cells livePk 34)).heap[w.heap.size]? = some (.cells livePk 34 (0, 0))) := (heap_alloc_old _ _ hlt2.out).trans R1_2.out
  clear hb B_1 R1_1 H1
  go_wp2_with (first
    | refine Ca.wpList_store_new rfl 34 _ _ rfl zeroPk livePk _ rfl rfl rfl (info36 livePk_size) rfl livePk_one ?_
    | refine wpList_load_row rfl 34 _ rfl (w.heap.size) rfl 34 livePk (0, 0) _ R1_3.out Try.underlying34 rfl (info36 livePk_size) ?_
    | fail)
  have B_3 : Hid (Below w.heap.size w (W2.alloc (.cells livePk 34))) := B_2.out.alloc B_2.out.size _
  have R4_3 : Hid ((W2.alloc (.cells livePk 34)).heap[W2.heap.size]? = some (.cells livePk 34 (0, 0))) := heap_alloc_new W2 _
  obtain ⟨W3, hW⟩ : ∃ V, W2.alloc (.cells livePk 34) = V := ⟨_, rfl⟩
  obtain ⟨g4, hg⟩ : ∃ g, W2.heap.size = g := ⟨_, rfl⟩
  rw [hW] at R1_3 B_3 R4_3 ⊢
  rw [hg] at R4_3 hlt2 ⊢
  clear hW hg B_2 R1_2
  refine (live_echo _).mono ?_
  rintro e W4 ⟨rfl, hb⟩
  have B_4 : Hid (Below w.heap.size w W4) := B_3.out.trans (hb.mono B_3.out.size)
  have R1_4 : Hid (W4.heap[w.heap.size]? = some (.cells livePk 34 (0, 0))) := (hb.block _ (Ca.lt_of_heap R1_3.out)).trans R1_3.out
  have R4_4 : Hid (W4.heap[g4]? = some (.cells livePk 34 (0, 0))) := (hb.block _ (Ca.lt_of_heap R4_3.out)).trans R4_3.out
  have R1_5 : Hid ((W4.alloc (.cells (echoQ livePk 1 2 167772161 167772162) 34)).heap[w.heap.size]? = some (.cells livePk 34 (0, 0))) := (heap_alloc_old _ _ (Ca.lt_of_heap R1_4.out)).trans R1_4.out
  have R4_5 : Hid ((W4.alloc (.cells (echoQ livePk 1 2 167772161 167772162) 34)).heap[g4]? = some (.cells livePk 34 (0, 0))) := (heap_alloc_old _ _ (Ca.lt_of_heap R4_4.out)).trans R4_4.out
  clear hb B_3 R1_3 R4_3
  go_wp2_with (first
    | refine Ca.wpList_store_new rfl 34 _ _ rfl zeroPk (echoQ livePk 1 2 167772161 167772162) _ rfl rfl rfl (info36 Zq.out) (Eq.trans (b := 36) rfl Zq.out.symm) Oq.out ?_
    | refine wpList_load_row rfl 34 _ rfl (w.heap.size) rfl 34 livePk (0, 0) _ R1_5.out Try.underlying34 rfl (info36 livePk_size) ?_
    | fail)
  have B_5 : Hid (Below w.heap.size w (W4.alloc (.cells (echoQ livePk 1 2 167772161 167772162) 34))) := B_4.out.alloc B_4.out.size _
  have R6_5 : Hid ((W4.alloc (.cells (echoQ livePk 1 2 167772161 167772162) 34)).heap[W4.heap.size]? = some (.cells (echoQ livePk 1 2 167772161 167772162) 34 (0, 0))) := heap_alloc_new W4 _
  obtain ⟨W5, hW⟩ : ∃ V, W4.alloc (.cells (echoQ livePk 1 2 167772161 167772162) 34) = V := ⟨_, rfl⟩
  obtain ⟨g6, hg⟩ : ∃ g, W4.heap.size = g := ⟨_, rfl⟩
  rw [hW] at R1_5 R4_5 B_5 R6_5 ⊢
  rw [hg] at R6_5 ⊢
  clear hW hg B_4 R1_4 R4_4
  refine (live_ports _).mono ?_
  rintro e W6 ⟨rfl, hb⟩
  have B_6 : Hid (Below w.heap.size w W6) := B_5.out.trans (hb.mono B_5.out.size)
  have R1_6 : Hid (W6.heap[w.heap.size]? = some (.cells livePk 34 (0, 0))) := (hb.block _ (Ca.lt_of_heap R1_5.out)).trans R1_5.out
  have R4_6 : Hid (W6.heap[g4]? = some (.cells livePk 34 (0, 0))) := (hb.block _ (Ca.lt_of_heap R4_5.out)).trans R4_5.out
  have R6_6 : Hid (W6.heap[g6]? = some (.cells (echoQ livePk 1 2 167772161 167772162) 34 (0, 0))) := (hb.block _ (Ca.lt_of_heap R6_5.out)).trans R6_5.out
  clear hb B_5 R1_5 R4_5 R6_5
  have c21 := (Ca.cell_row R6_6.out 21).trans (show _ = some (Value.int .i64 0) by kernel_rfl)
  have c18 := (Ca.cell_row R6_6.out 18).trans (show _ = some (Value.int .u32 167772161) by kernel_rfl)
  have hq := live_eq
  go_wp2_with (first
    | refine Ca.wpList_load_want (by rfl) 34 _ rfl (w.heap.size) rfl 34 livePk (0, 0) _ R1_6.out Try.underlying34 rfl (info36 livePk_size) ?_
    | refine Ca.wpList_load_want (by rfl) 34 _ rfl g4 rfl 34 livePk (0, 0) _ R4_6.out Try.underlying34 rfl (info36 livePk_size) ?_
    | fail)
  go_ret
  exact ⟨rfl, B_6.out⟩
end Go.Proofs.Ytpiokeidcnbmbaa

namespace Go.Proofs.Ytpiokeidcnbmbaa.Ca
open Go.ChangeShapes Go.WideShapes Go.ChangeAt Go.RowKit
def OU64 (v : Value) : Prop := ∃ x, v = .int .u64 x ∧ 0 ≤ x ∧ x ≤ 18446744073709551615
def OI64 (v : Value) : Prop := ∃ x, v = .int .i64 x ∧ -9223372036854775808 ≤ x ∧ x ≤ 9223372036854775807
def OU32 (v : Value) : Prop := ∃ x, v = .int .u32 x ∧ 0 ≤ x ∧ x ≤ 4294967295
def OBool (v : Value) : Prop := ∃ x, v = .bool x
def OStr (v : Value) : Prop := ∃ x, v = .string x
theorem cells_u64 : Try.prog.cellsOf 23 = 1 := by kernel_rfl
theorem cells_i64 : Try.prog.cellsOf 3 = 1 := by kernel_rfl
theorem cells_u32 : Try.prog.cellsOf 26 = 1 := by kernel_rfl
theorem cells_b : Try.prog.cellsOf 4 = 1 := by kernel_rfl
theorem cells_s : Try.prog.cellsOf 9 = 1 := by kernel_rfl
theorem cells_eth : Try.prog.cellsOf 25 = 5 := by kernel_rfl
theorem cells_arp : Try.prog.cellsOf 28 = 5 := by kernel_rfl
theorem cells_ip : Try.prog.cellsOf 30 = 8 := by kernel_rfl
theorem cells_l4 : Try.prog.cellsOf 32 = 14 := by kernel_rfl
theorem cells_packet : Try.prog.cellsOf 34 = 36 := by kernel_rfl
section
variable {H : Type} {enc : TypeId × Value → H} {W : World} {n : Nat} {c : Value} {y : DataW H × List MemPlace}
theorem leaf_u64 (g : DataW.trod enc Try.prog W 0 (fun _ => true) true n 23 [c] = some y) : OU64 c := by
  obtain ⟨x, e, _, w⟩ := DataW.trod_int Try.underlying23 g
  simp at e; subst e
  exact ⟨x, rfl, bounds_u64 w⟩
theorem leaf_i64 (g : DataW.trod enc Try.prog W 0 (fun _ => true) true n 3 [c] = some y) : OI64 c := by
  obtain ⟨x, e, _, w⟩ := DataW.trod_int Try.underlying3 g
  simp at e; subst e
  exact ⟨x, rfl, bounds_i64 w⟩
theorem leaf_u32 (g : DataW.trod enc Try.prog W 0 (fun _ => true) true n 26 [c] = some y) : OU32 c := by
  obtain ⟨x, e, _, w⟩ := DataW.trod_int Try.underlying26 g
  simp at e; subst e
  exact ⟨x, rfl, bounds_u32 w⟩
theorem leaf_b (g : DataW.trod enc Try.prog W 0 (fun _ => true) true n 4 [c] = some y) : OBool c := by
  obtain ⟨x, e, _⟩ := DataW.trod_bool Try.underlying4 g
  simp at e; subst e
  exact ⟨x, rfl⟩
theorem leaf_s (g : DataW.trod enc Try.prog W 0 (fun _ => true) true n 9 [c] = some y) : OStr c := by
  obtain ⟨x, e, _⟩ := DataW.trod_string Try.underlying9 g
  simp at e; subst e
  exact ⟨x, rfl⟩
theorem open_eth {c0v c1v c2v c3v c4v : Value} (g : DataW.trod enc Try.prog W 0 (fun _ => true) true n 25 [c0v, c1v, c2v, c3v, c4v] = some y) : OU64 c0v ∧ OU64 c1v ∧ OBool c2v ∧ OI64 c3v ∧ OI64 c4v := by
  obtain ⟨xs, m, _, _, _, hlen, hf⟩ := DataW.trod_struct Try.underlying25 g
  match xs, hlen with
  | [y0, y1, y2, y3, y4], _ =>
    have g0 : DataW.trod enc Try.prog W 0 (fun _ => true) true m 23 (([c0v, c1v, c2v, c3v, c4v].drop 0).take (Try.prog.cellsOf 23)) = some y0 := hf 0 _ rfl
    rw [cells_u64] at g0
    have g1 : DataW.trod enc Try.prog W 0 (fun _ => true) true m 23 (([c0v, c1v, c2v, c3v, c4v].drop 1).take (Try.prog.cellsOf 23)) = some y1 := hf 1 _ rfl
    rw [cells_u64] at g1
    have g2 : DataW.trod enc Try.prog W 0 (fun _ => true) true m 4 (([c0v, c1v, c2v, c3v, c4v].drop 2).take (Try.prog.cellsOf 4)) = some y2 := hf 2 _ rfl
    rw [cells_b] at g2
    have g3 : DataW.trod enc Try.prog W 0 (fun _ => true) true m 3 (([c0v, c1v, c2v, c3v, c4v].drop 3).take (Try.prog.cellsOf 3)) = some y3 := hf 3 _ rfl
    rw [cells_i64] at g3
    have g4 : DataW.trod enc Try.prog W 0 (fun _ => true) true m 3 (([c0v, c1v, c2v, c3v, c4v].drop 4).take (Try.prog.cellsOf 3)) = some y4 := hf 4 _ rfl
    rw [cells_i64] at g4
    exact ⟨leaf_u64 g0, leaf_u64 g1, leaf_b g2, leaf_i64 g3, leaf_i64 g4⟩
theorem open_arp {c0v c1v c2v c3v c4v : Value} (g : DataW.trod enc Try.prog W 0 (fun _ => true) true n 28 [c0v, c1v, c2v, c3v, c4v] = some y) : OI64 c0v ∧ OU64 c1v ∧ OU32 c2v ∧ OU64 c3v ∧ OU32 c4v := by
  obtain ⟨xs, m, _, _, _, hlen, hf⟩ := DataW.trod_struct Try.underlying28 g
  match xs, hlen with
  | [y0, y1, y2, y3, y4], _ =>
    have g0 : DataW.trod enc Try.prog W 0 (fun _ => true) true m 3 (([c0v, c1v, c2v, c3v, c4v].drop 0).take (Try.prog.cellsOf 3)) = some y0 := hf 0 _ rfl
    rw [cells_i64] at g0
    have g1 : DataW.trod enc Try.prog W 0 (fun _ => true) true m 23 (([c0v, c1v, c2v, c3v, c4v].drop 1).take (Try.prog.cellsOf 23)) = some y1 := hf 1 _ rfl
    rw [cells_u64] at g1
    have g2 : DataW.trod enc Try.prog W 0 (fun _ => true) true m 26 (([c0v, c1v, c2v, c3v, c4v].drop 2).take (Try.prog.cellsOf 26)) = some y2 := hf 2 _ rfl
    rw [cells_u32] at g2
    have g3 : DataW.trod enc Try.prog W 0 (fun _ => true) true m 23 (([c0v, c1v, c2v, c3v, c4v].drop 3).take (Try.prog.cellsOf 23)) = some y3 := hf 3 _ rfl
    rw [cells_u64] at g3
    have g4 : DataW.trod enc Try.prog W 0 (fun _ => true) true m 26 (([c0v, c1v, c2v, c3v, c4v].drop 4).take (Try.prog.cellsOf 26)) = some y4 := hf 4 _ rfl
    rw [cells_u32] at g4
    exact ⟨leaf_i64 g0, leaf_u64 g1, leaf_u32 g2, leaf_u64 g3, leaf_u32 g4⟩
theorem open_ip {c0v c1v c2v c3v c4v c5v c6v c7v : Value} (g : DataW.trod enc Try.prog W 0 (fun _ => true) true n 30 [c0v, c1v, c2v, c3v, c4v, c5v, c6v, c7v] = some y) : OI64 c0v ∧ OI64 c1v ∧ OI64 c2v ∧ OI64 c3v ∧ OI64 c4v ∧ OU32 c5v ∧ OU32 c6v ∧ OStr c7v := by
  obtain ⟨xs, m, _, _, _, hlen, hf⟩ := DataW.trod_struct Try.underlying30 g
  match xs, hlen with
  | [y0, y1, y2, y3, y4, y5, y6, y7], _ =>
    have g0 : DataW.trod enc Try.prog W 0 (fun _ => true) true m 3 (([c0v, c1v, c2v, c3v, c4v, c5v, c6v, c7v].drop 0).take (Try.prog.cellsOf 3)) = some y0 := hf 0 _ rfl
    rw [cells_i64] at g0
    have g1 : DataW.trod enc Try.prog W 0 (fun _ => true) true m 3 (([c0v, c1v, c2v, c3v, c4v, c5v, c6v, c7v].drop 1).take (Try.prog.cellsOf 3)) = some y1 := hf 1 _ rfl
    rw [cells_i64] at g1
    have g2 : DataW.trod enc Try.prog W 0 (fun _ => true) true m 3 (([c0v, c1v, c2v, c3v, c4v, c5v, c6v, c7v].drop 2).take (Try.prog.cellsOf 3)) = some y2 := hf 2 _ rfl
    rw [cells_i64] at g2
    have g3 : DataW.trod enc Try.prog W 0 (fun _ => true) true m 3 (([c0v, c1v, c2v, c3v, c4v, c5v, c6v, c7v].drop 3).take (Try.prog.cellsOf 3)) = some y3 := hf 3 _ rfl
    rw [cells_i64] at g3
    have g4 : DataW.trod enc Try.prog W 0 (fun _ => true) true m 3 (([c0v, c1v, c2v, c3v, c4v, c5v, c6v, c7v].drop 4).take (Try.prog.cellsOf 3)) = some y4 := hf 4 _ rfl
    rw [cells_i64] at g4
    have g5 : DataW.trod enc Try.prog W 0 (fun _ => true) true m 26 (([c0v, c1v, c2v, c3v, c4v, c5v, c6v, c7v].drop 5).take (Try.prog.cellsOf 26)) = some y5 := hf 5 _ rfl
    rw [cells_u32] at g5
    have g6 : DataW.trod enc Try.prog W 0 (fun _ => true) true m 26 (([c0v, c1v, c2v, c3v, c4v, c5v, c6v, c7v].drop 6).take (Try.prog.cellsOf 26)) = some y6 := hf 6 _ rfl
    rw [cells_u32] at g6
    have g7 : DataW.trod enc Try.prog W 0 (fun _ => true) true m 9 (([c0v, c1v, c2v, c3v, c4v, c5v, c6v, c7v].drop 7).take (Try.prog.cellsOf 9)) = some y7 := hf 7 _ rfl
    rw [cells_s] at g7
    exact ⟨leaf_i64 g0, leaf_i64 g1, leaf_i64 g2, leaf_i64 g3, leaf_i64 g4, leaf_u32 g5, leaf_u32 g6, leaf_s g7⟩
theorem open_l4 {c0v c1v c2v c3v c4v c5v c6v c7v c8v c9v c10v c11v c12v c13v : Value} (g : DataW.trod enc Try.prog W 0 (fun _ => true) true n 32 [c0v, c1v, c2v, c3v, c4v, c5v, c6v, c7v, c8v, c9v, c10v, c11v, c12v, c13v] = some y) : OI64 c0v ∧ OI64 c1v ∧ OI64 c2v ∧ OU32 c3v ∧ OI64 c4v ∧ OI64 c5v ∧ OBool c6v ∧ OU32 c7v ∧ OU32 c8v ∧ OI64 c9v ∧ OI64 c10v ∧ OI64 c11v ∧ OStr c12v ∧ OStr c13v := by
  obtain ⟨xs, m, _, _, _, hlen, hf⟩ := DataW.trod_struct Try.underlying32 g
  match xs, hlen with
  | [y0, y1, y2, y3, y4, y5, y6, y7, y8, y9, y10, y11, y12, y13], _ =>
    have g0 : DataW.trod enc Try.prog W 0 (fun _ => true) true m 3 (([c0v, c1v, c2v, c3v, c4v, c5v, c6v, c7v, c8v, c9v, c10v, c11v, c12v, c13v].drop 0).take (Try.prog.cellsOf 3)) = some y0 := hf 0 _ rfl
    rw [cells_i64] at g0
    have g1 : DataW.trod enc Try.prog W 0 (fun _ => true) true m 3 (([c0v, c1v, c2v, c3v, c4v, c5v, c6v, c7v, c8v, c9v, c10v, c11v, c12v, c13v].drop 1).take (Try.prog.cellsOf 3)) = some y1 := hf 1 _ rfl
    rw [cells_i64] at g1
    have g2 : DataW.trod enc Try.prog W 0 (fun _ => true) true m 3 (([c0v, c1v, c2v, c3v, c4v, c5v, c6v, c7v, c8v, c9v, c10v, c11v, c12v, c13v].drop 2).take (Try.prog.cellsOf 3)) = some y2 := hf 2 _ rfl
    rw [cells_i64] at g2
    have g3 : DataW.trod enc Try.prog W 0 (fun _ => true) true m 26 (([c0v, c1v, c2v, c3v, c4v, c5v, c6v, c7v, c8v, c9v, c10v, c11v, c12v, c13v].drop 3).take (Try.prog.cellsOf 26)) = some y3 := hf 3 _ rfl
    rw [cells_u32] at g3
    have g4 : DataW.trod enc Try.prog W 0 (fun _ => true) true m 3 (([c0v, c1v, c2v, c3v, c4v, c5v, c6v, c7v, c8v, c9v, c10v, c11v, c12v, c13v].drop 4).take (Try.prog.cellsOf 3)) = some y4 := hf 4 _ rfl
    rw [cells_i64] at g4
    have g5 : DataW.trod enc Try.prog W 0 (fun _ => true) true m 3 (([c0v, c1v, c2v, c3v, c4v, c5v, c6v, c7v, c8v, c9v, c10v, c11v, c12v, c13v].drop 5).take (Try.prog.cellsOf 3)) = some y5 := hf 5 _ rfl
    rw [cells_i64] at g5
    have g6 : DataW.trod enc Try.prog W 0 (fun _ => true) true m 4 (([c0v, c1v, c2v, c3v, c4v, c5v, c6v, c7v, c8v, c9v, c10v, c11v, c12v, c13v].drop 6).take (Try.prog.cellsOf 4)) = some y6 := hf 6 _ rfl
    rw [cells_b] at g6
    have g7 : DataW.trod enc Try.prog W 0 (fun _ => true) true m 26 (([c0v, c1v, c2v, c3v, c4v, c5v, c6v, c7v, c8v, c9v, c10v, c11v, c12v, c13v].drop 7).take (Try.prog.cellsOf 26)) = some y7 := hf 7 _ rfl
    rw [cells_u32] at g7
    have g8 : DataW.trod enc Try.prog W 0 (fun _ => true) true m 26 (([c0v, c1v, c2v, c3v, c4v, c5v, c6v, c7v, c8v, c9v, c10v, c11v, c12v, c13v].drop 8).take (Try.prog.cellsOf 26)) = some y8 := hf 8 _ rfl
    rw [cells_u32] at g8
    have g9 : DataW.trod enc Try.prog W 0 (fun _ => true) true m 3 (([c0v, c1v, c2v, c3v, c4v, c5v, c6v, c7v, c8v, c9v, c10v, c11v, c12v, c13v].drop 9).take (Try.prog.cellsOf 3)) = some y9 := hf 9 _ rfl
    rw [cells_i64] at g9
    have g10 : DataW.trod enc Try.prog W 0 (fun _ => true) true m 3 (([c0v, c1v, c2v, c3v, c4v, c5v, c6v, c7v, c8v, c9v, c10v, c11v, c12v, c13v].drop 10).take (Try.prog.cellsOf 3)) = some y10 := hf 10 _ rfl
    rw [cells_i64] at g10
    have g11 : DataW.trod enc Try.prog W 0 (fun _ => true) true m 3 (([c0v, c1v, c2v, c3v, c4v, c5v, c6v, c7v, c8v, c9v, c10v, c11v, c12v, c13v].drop 11).take (Try.prog.cellsOf 3)) = some y11 := hf 11 _ rfl
    rw [cells_i64] at g11
    have g12 : DataW.trod enc Try.prog W 0 (fun _ => true) true m 9 (([c0v, c1v, c2v, c3v, c4v, c5v, c6v, c7v, c8v, c9v, c10v, c11v, c12v, c13v].drop 12).take (Try.prog.cellsOf 9)) = some y12 := hf 12 _ rfl
    rw [cells_s] at g12
    have g13 : DataW.trod enc Try.prog W 0 (fun _ => true) true m 9 (([c0v, c1v, c2v, c3v, c4v, c5v, c6v, c7v, c8v, c9v, c10v, c11v, c12v, c13v].drop 13).take (Try.prog.cellsOf 9)) = some y13 := hf 13 _ rfl
    rw [cells_s] at g13
    exact ⟨leaf_i64 g0, leaf_i64 g1, leaf_i64 g2, leaf_u32 g3, leaf_i64 g4, leaf_i64 g5, leaf_b g6, leaf_u32 g7, leaf_u32 g8, leaf_i64 g9, leaf_i64 g10, leaf_i64 g11, leaf_s g12, leaf_s g13⟩
theorem open_packet {c0v c1v c2v c3v c4v c5v c6v c7v c8v c9v c10v c11v c12v c13v c14v c15v c16v c17v c18v c19v c20v c21v c22v c23v c24v c25v c26v c27v c28v c29v c30v c31v c32v c33v c34v c35v : Value} (g : DataW.trod enc Try.prog W 0 (fun _ => true) true n 34 [c0v, c1v, c2v, c3v, c4v, c5v, c6v, c7v, c8v, c9v, c10v, c11v, c12v, c13v, c14v, c15v, c16v, c17v, c18v, c19v, c20v, c21v, c22v, c23v, c24v, c25v, c26v, c27v, c28v, c29v, c30v, c31v, c32v, c33v, c34v, c35v] = some y) : OU64 c0v ∧ OU64 c1v ∧ OBool c2v ∧ OI64 c3v ∧ OI64 c4v ∧ OBool c5v ∧ OI64 c6v ∧ OU64 c7v ∧ OU32 c8v ∧ OU64 c9v ∧ OU32 c10v ∧ OBool c11v ∧ OI64 c12v ∧ OI64 c13v ∧ OI64 c14v ∧ OI64 c15v ∧ OI64 c16v ∧ OU32 c17v ∧ OU32 c18v ∧ OStr c19v ∧ OI64 c20v ∧ OI64 c21v ∧ OI64 c22v ∧ OU32 c23v ∧ OI64 c24v ∧ OI64 c25v ∧ OBool c26v ∧ OU32 c27v ∧ OU32 c28v ∧ OI64 c29v ∧ OI64 c30v ∧ OI64 c31v ∧ OStr c32v ∧ OStr c33v ∧ OStr c34v ∧ OStr c35v := by
  obtain ⟨xs, m, _, _, _, hlen, hf⟩ := DataW.trod_struct Try.underlying34 g
  match xs, hlen with
  | [y0, y1, y2, y3, y4, y5, y6, y7], _ =>
    have g0 : DataW.trod enc Try.prog W 0 (fun _ => true) true m 25 (([c0v, c1v, c2v, c3v, c4v, c5v, c6v, c7v, c8v, c9v, c10v, c11v, c12v, c13v, c14v, c15v, c16v, c17v, c18v, c19v, c20v, c21v, c22v, c23v, c24v, c25v, c26v, c27v, c28v, c29v, c30v, c31v, c32v, c33v, c34v, c35v].drop 0).take (Try.prog.cellsOf 25)) = some y0 := hf 0 _ rfl
    rw [cells_eth] at g0
    have q0 := open_eth g0
    have g1 : DataW.trod enc Try.prog W 0 (fun _ => true) true m 4 (([c0v, c1v, c2v, c3v, c4v, c5v, c6v, c7v, c8v, c9v, c10v, c11v, c12v, c13v, c14v, c15v, c16v, c17v, c18v, c19v, c20v, c21v, c22v, c23v, c24v, c25v, c26v, c27v, c28v, c29v, c30v, c31v, c32v, c33v, c34v, c35v].drop 5).take (Try.prog.cellsOf 4)) = some y1 := hf 1 _ rfl
    rw [cells_b] at g1
    have g2 : DataW.trod enc Try.prog W 0 (fun _ => true) true m 28 (([c0v, c1v, c2v, c3v, c4v, c5v, c6v, c7v, c8v, c9v, c10v, c11v, c12v, c13v, c14v, c15v, c16v, c17v, c18v, c19v, c20v, c21v, c22v, c23v, c24v, c25v, c26v, c27v, c28v, c29v, c30v, c31v, c32v, c33v, c34v, c35v].drop 6).take (Try.prog.cellsOf 28)) = some y2 := hf 2 _ rfl
    rw [cells_arp] at g2
    have q2 := open_arp g2
    have g3 : DataW.trod enc Try.prog W 0 (fun _ => true) true m 4 (([c0v, c1v, c2v, c3v, c4v, c5v, c6v, c7v, c8v, c9v, c10v, c11v, c12v, c13v, c14v, c15v, c16v, c17v, c18v, c19v, c20v, c21v, c22v, c23v, c24v, c25v, c26v, c27v, c28v, c29v, c30v, c31v, c32v, c33v, c34v, c35v].drop 11).take (Try.prog.cellsOf 4)) = some y3 := hf 3 _ rfl
    rw [cells_b] at g3
    have g4 : DataW.trod enc Try.prog W 0 (fun _ => true) true m 30 (([c0v, c1v, c2v, c3v, c4v, c5v, c6v, c7v, c8v, c9v, c10v, c11v, c12v, c13v, c14v, c15v, c16v, c17v, c18v, c19v, c20v, c21v, c22v, c23v, c24v, c25v, c26v, c27v, c28v, c29v, c30v, c31v, c32v, c33v, c34v, c35v].drop 12).take (Try.prog.cellsOf 30)) = some y4 := hf 4 _ rfl
    rw [cells_ip] at g4
    have q4 := open_ip g4
    have g5 : DataW.trod enc Try.prog W 0 (fun _ => true) true m 32 (([c0v, c1v, c2v, c3v, c4v, c5v, c6v, c7v, c8v, c9v, c10v, c11v, c12v, c13v, c14v, c15v, c16v, c17v, c18v, c19v, c20v, c21v, c22v, c23v, c24v, c25v, c26v, c27v, c28v, c29v, c30v, c31v, c32v, c33v, c34v, c35v].drop 20).take (Try.prog.cellsOf 32)) = some y5 := hf 5 _ rfl
    rw [cells_l4] at g5
    have q5 := open_l4 g5
    have g6 : DataW.trod enc Try.prog W 0 (fun _ => true) true m 9 (([c0v, c1v, c2v, c3v, c4v, c5v, c6v, c7v, c8v, c9v, c10v, c11v, c12v, c13v, c14v, c15v, c16v, c17v, c18v, c19v, c20v, c21v, c22v, c23v, c24v, c25v, c26v, c27v, c28v, c29v, c30v, c31v, c32v, c33v, c34v, c35v].drop 34).take (Try.prog.cellsOf 9)) = some y6 := hf 6 _ rfl
    rw [cells_s] at g6
    have g7 : DataW.trod enc Try.prog W 0 (fun _ => true) true m 9 (([c0v, c1v, c2v, c3v, c4v, c5v, c6v, c7v, c8v, c9v, c10v, c11v, c12v, c13v, c14v, c15v, c16v, c17v, c18v, c19v, c20v, c21v, c22v, c23v, c24v, c25v, c26v, c27v, c28v, c29v, c30v, c31v, c32v, c33v, c34v, c35v].drop 35).take (Try.prog.cellsOf 9)) = some y7 := hf 7 _ rfl
    rw [cells_s] at g7
    exact ⟨q0.1, q0.2.1, q0.2.2.1, q0.2.2.2.1, q0.2.2.2.2, leaf_b g1, q2.1, q2.2.1, q2.2.2.1, q2.2.2.2.1, q2.2.2.2.2, leaf_b g3, q4.1, q4.2.1, q4.2.2.1, q4.2.2.2.1, q4.2.2.2.2.1, q4.2.2.2.2.2.1, q4.2.2.2.2.2.2.1, q4.2.2.2.2.2.2.2, q5.1, q5.2.1, q5.2.2.1, q5.2.2.2.1, q5.2.2.2.2.1, q5.2.2.2.2.2.1, q5.2.2.2.2.2.2.1, q5.2.2.2.2.2.2.2.1, q5.2.2.2.2.2.2.2.2.1, q5.2.2.2.2.2.2.2.2.2.1, q5.2.2.2.2.2.2.2.2.2.2.1, q5.2.2.2.2.2.2.2.2.2.2.2.1, q5.2.2.2.2.2.2.2.2.2.2.2.2.1, q5.2.2.2.2.2.2.2.2.2.2.2.2.2, leaf_s g6, leaf_s g7⟩
end
theorem own : ownKnob Try.prog.godebug = none := by kernel_rfl
theorem laidOut : laidOutB Try.prog = true := by kernel_rfl
set_option maxRecDepth 20000 in
set_option maxHeartbeats 2000000 in
theorem pst_of {H : Type} {enc : TypeId × Value → H} {W : World} {y : DataW H × List MemPlace} {n : Nat} {ps : Array Value} (hs : ps.size = 36) (hf : DataW.trod enc Try.prog W 0 (fun _ => true) true n 34 ps.toList = some y) : PSt ps := by
  obtain ⟨c0v, c1v, c2v, c3v, c4v, c5v, c6v, c7v, c8v, c9v, c10v, c11v, c12v, c13v, c14v, c15v, c16v, c17v, c18v, c19v, c20v, c21v, c22v, c23v, c24v, c25v, c26v, c27v, c28v, c29v, c30v, c31v, c32v, c33v, c34v, c35v, rfl⟩ := thirtysix hs
  have q := open_packet (show DataW.trod enc Try.prog W 0 (fun _ => true) true n 34 [c0v, c1v, c2v, c3v, c4v, c5v, c6v, c7v, c8v, c9v, c10v, c11v, c12v, c13v, c14v, c15v, c16v, c17v, c18v, c19v, c20v, c21v, c22v, c23v, c24v, c25v, c26v, c27v, c28v, c29v, c30v, c31v, c32v, c33v, c34v, c35v] = some y from hf)
  clear hf hs
  obtain ⟨⟨x0, rfl, b0⟩, ⟨x1, rfl, b1⟩, ⟨x2, rfl⟩, ⟨x3, rfl, b3⟩, ⟨x4, rfl, b4⟩, ⟨x5, rfl⟩, ⟨x6, rfl, b6⟩, ⟨x7, rfl, b7⟩, ⟨x8, rfl, b8⟩, ⟨x9, rfl, b9⟩, ⟨x10, rfl, b10⟩, ⟨x11, rfl⟩, ⟨x12, rfl, b12⟩, ⟨x13, rfl, b13⟩, ⟨x14, rfl, b14⟩, ⟨x15, rfl, b15⟩, ⟨x16, rfl, b16⟩, ⟨x17, rfl, b17⟩, ⟨x18, rfl, b18⟩, ⟨x19, rfl⟩, ⟨x20, rfl, b20⟩, ⟨x21, rfl, b21⟩, ⟨x22, rfl, b22⟩, ⟨x23, rfl, b23⟩, ⟨x24, rfl, b24⟩, ⟨x25, rfl, b25⟩, ⟨x26, rfl⟩, ⟨x27, rfl, b27⟩, ⟨x28, rfl, b28⟩, ⟨x29, rfl, b29⟩, ⟨x30, rfl, b30⟩, ⟨x31, rfl, b31⟩, ⟨x32, rfl⟩, ⟨x33, rfl⟩, ⟨x34, rfl⟩, ⟨x35, rfl⟩⟩ := q
  refine ⟨rfl, by simp [Value.oneCell'], fun i hi => ?_, fun i hi => ?_, fun i hi => ?_, fun i hi => ?_, fun i hi => ?_⟩ <;> simp only [List.mem_cons, List.not_mem_nil, or_false] at hi
  · rcases hi with rfl | rfl | rfl | rfl
    · exact ⟨x0, rfl, b0⟩
    · exact ⟨x1, rfl, b1⟩
    · exact ⟨x7, rfl, b7⟩
    · exact ⟨x9, rfl, b9⟩
  · rcases hi with rfl | rfl | rfl | rfl | rfl | rfl | rfl | rfl | rfl | rfl | rfl | rfl | rfl | rfl | rfl | rfl
    · exact ⟨x3, rfl, b3⟩
    · exact ⟨x4, rfl, b4⟩
    · exact ⟨x6, rfl, b6⟩
    · exact ⟨x12, rfl, b12⟩
    · exact ⟨x13, rfl, b13⟩
    · exact ⟨x14, rfl, b14⟩
    · exact ⟨x15, rfl, b15⟩
    · exact ⟨x16, rfl, b16⟩
    · exact ⟨x20, rfl, b20⟩
    · exact ⟨x21, rfl, b21⟩
    · exact ⟨x22, rfl, b22⟩
    · exact ⟨x24, rfl, b24⟩
    · exact ⟨x25, rfl, b25⟩
    · exact ⟨x29, rfl, b29⟩
    · exact ⟨x30, rfl, b30⟩
    · exact ⟨x31, rfl, b31⟩
  · rcases hi with rfl | rfl | rfl | rfl | rfl | rfl | rfl
    · exact ⟨x8, rfl, b8⟩
    · exact ⟨x10, rfl, b10⟩
    · exact ⟨x17, rfl, b17⟩
    · exact ⟨x18, rfl, b18⟩
    · exact ⟨x23, rfl, b23⟩
    · exact ⟨x27, rfl, b27⟩
    · exact ⟨x28, rfl, b28⟩
  · rcases hi with rfl | rfl | rfl | rfl
    · exact ⟨x2, rfl⟩
    · exact ⟨x5, rfl⟩
    · exact ⟨x11, rfl⟩
    · exact ⟨x26, rfl⟩
  · rcases hi with rfl | rfl | rfl | rfl | rfl
    · exact ⟨x19, rfl⟩
    · exact ⟨x32, rfl⟩
    · exact ⟨x33, rfl⟩
    · exact ⟨x34, rfl⟩
    · exact ⟨x35, rfl⟩
set_option maxRecDepth 20000 in
theorem open_pk {H : Type} {enc : TypeId × Value → H} {W : World} {v : Value} {d : DataW H} {p : List MemPlace} {r : Reach} {base : Nat}
    (hv : Value.okWide Try.prog W r base 34 v) (h : DataW.Trod enc Try.prog W 0 (fun _ => true) true 34 v d p) : ∃ ps, v = .agg ps ∧ PSt ps := by
  obtain ⟨ps, rfl, hps⟩ := okWide_struct Try.underlying34 hv
  obtain ⟨fuel, hf⟩ := h
  exact ⟨ps, rfl, pst_of (hps.trans cells_packet) hf⟩
theorem str_nums (s : ByteArray) : ∃ os : List Int, s = strOfNums os ∧ os.length = s.size ∧ (∀ i, 0 ≤ os.getD i 0 ∧ os.getD i 0 ≤ 255) := by
  refine ⟨s.data.toList.map fun x => (x.toNat : Int), ?_, by rw [List.length_map]; rfl, fun i => ?_⟩
  · cases s with
    | mk d =>
      have h : ∀ l : List UInt8, l.map ((fun n : Int => UInt8.ofNat n.toNat) ∘ fun x : UInt8 => (x.toNat : Int)) = l := by
        intro l
        induction l with
        | nil => rfl
        | cons x r ih => simp [ih]
      simp [strOfNums, h]
  · rw [List.getD_eq_getElem?_getD, List.getElem?_map]
    rcases hx : s.data.toList[i]? with _ | x
    · simp
    · have := x.toNat_lt
      simp; omega
set_option maxRecDepth 20000 in
set_option maxHeartbeats 4000000 in
theorem pst_letters {ps : Array Value} (h : PSt ps) : ∃ d s tag et op sha spa tha tpa tos id fr ttl pr src dst k ty co re sp dp sq ak fl wi ur : Int, ∃ tg ia ii ns : Bool, ∃ io lo ds bd pd : List Int, ps = #[.int .u64 d, .int .u64 s, .bool tg, .int .i64 tag, .int .i64 et, .bool ia, .int .i64 op, .int .u64 sha, .int .u32 spa, .int .u64 tha, .int .u32 tpa, .bool ii, .int .i64 tos, .int .i64 id, .int .i64 fr, .int .i64 ttl, .int .i64 pr, .int .u32 src, .int .u32 dst, .string (strOfNums io), .int .i64 k, .int .i64 ty, .int .i64 co, .int .u32 re, .int .i64 sp, .int .i64 dp, .bool ns, .int .u32 sq, .int .u32 ak, .int .i64 fl, .int .i64 wi, .int .i64 ur, .string (strOfNums lo), .string (strOfNums ds), .string (strOfNums bd), .string (strOfNums pd)] := by
  obtain ⟨c0v, c1v, c2v, c3v, c4v, c5v, c6v, c7v, c8v, c9v, c10v, c11v, c12v, c13v, c14v, c15v, c16v, c17v, c18v, c19v, c20v, c21v, c22v, c23v, c24v, c25v, c26v, c27v, c28v, c29v, c30v, c31v, c32v, c33v, c34v, c35v, rfl⟩ := thirtysix h.size
  obtain ⟨x0, hx0, _⟩ := h.u64 0 (by decide)
  obtain ⟨x1, hx1, _⟩ := h.u64 1 (by decide)
  obtain ⟨x2, hx2⟩ := h.bool 2 (by decide)
  obtain ⟨x3, hx3, _⟩ := h.i64 3 (by decide)
  obtain ⟨x4, hx4, _⟩ := h.i64 4 (by decide)
  obtain ⟨x5, hx5⟩ := h.bool 5 (by decide)
  obtain ⟨x6, hx6, _⟩ := h.i64 6 (by decide)
  obtain ⟨x7, hx7, _⟩ := h.u64 7 (by decide)
  obtain ⟨x8, hx8, _⟩ := h.u32 8 (by decide)
  obtain ⟨x9, hx9, _⟩ := h.u64 9 (by decide)
  obtain ⟨x10, hx10, _⟩ := h.u32 10 (by decide)
  obtain ⟨x11, hx11⟩ := h.bool 11 (by decide)
  obtain ⟨x12, hx12, _⟩ := h.i64 12 (by decide)
  obtain ⟨x13, hx13, _⟩ := h.i64 13 (by decide)
  obtain ⟨x14, hx14, _⟩ := h.i64 14 (by decide)
  obtain ⟨x15, hx15, _⟩ := h.i64 15 (by decide)
  obtain ⟨x16, hx16, _⟩ := h.i64 16 (by decide)
  obtain ⟨x17, hx17, _⟩ := h.u32 17 (by decide)
  obtain ⟨x18, hx18, _⟩ := h.u32 18 (by decide)
  obtain ⟨x19, hx19⟩ := h.str 19 (by decide)
  obtain ⟨x20, hx20, _⟩ := h.i64 20 (by decide)
  obtain ⟨x21, hx21, _⟩ := h.i64 21 (by decide)
  obtain ⟨x22, hx22, _⟩ := h.i64 22 (by decide)
  obtain ⟨x23, hx23, _⟩ := h.u32 23 (by decide)
  obtain ⟨x24, hx24, _⟩ := h.i64 24 (by decide)
  obtain ⟨x25, hx25, _⟩ := h.i64 25 (by decide)
  obtain ⟨x26, hx26⟩ := h.bool 26 (by decide)
  obtain ⟨x27, hx27, _⟩ := h.u32 27 (by decide)
  obtain ⟨x28, hx28, _⟩ := h.u32 28 (by decide)
  obtain ⟨x29, hx29, _⟩ := h.i64 29 (by decide)
  obtain ⟨x30, hx30, _⟩ := h.i64 30 (by decide)
  obtain ⟨x31, hx31, _⟩ := h.i64 31 (by decide)
  obtain ⟨x32, hx32⟩ := h.str 32 (by decide)
  obtain ⟨x33, hx33⟩ := h.str 33 (by decide)
  obtain ⟨x34, hx34⟩ := h.str 34 (by decide)
  obtain ⟨x35, hx35⟩ := h.str 35 (by decide)
  simp only [List.getElem?_toArray, List.getElem?_cons_zero, List.getElem?_cons_succ, Option.some.injEq] at hx0 hx1 hx2 hx3 hx4 hx5 hx6 hx7 hx8 hx9 hx10 hx11 hx12 hx13 hx14 hx15 hx16 hx17 hx18 hx19 hx20 hx21 hx22 hx23 hx24 hx25 hx26 hx27 hx28 hx29 hx30 hx31 hx32 hx33 hx34 hx35
  subst hx0 hx1 hx2 hx3 hx4 hx5 hx6 hx7 hx8 hx9 hx10 hx11 hx12 hx13 hx14 hx15 hx16 hx17 hx18 hx19 hx20 hx21 hx22 hx23 hx24 hx25 hx26 hx27 hx28 hx29 hx30 hx31 hx32 hx33 hx34 hx35
  obtain ⟨l19, rfl, _⟩ := str_nums x19
  obtain ⟨l32, rfl, _⟩ := str_nums x32
  obtain ⟨l33, rfl, _⟩ := str_nums x33
  obtain ⟨l34, rfl, _⟩ := str_nums x34
  obtain ⟨l35, rfl, _⟩ := str_nums x35
  exact ⟨x0, x1, x3, x4, x6, x7, x8, x9, x10, x12, x13, x14, x15, x16, x17, x18, x20, x21, x22, x23, x24, x25, x27, x28, x29, x30, x31, x2, x5, x11, x26, l19, l32, l33, l34, l35, rfl⟩
end Go.Proofs.Ytpiokeidcnbmbaa.Ca

namespace Go.Proofs.Ytpiokeidcnbmbaa.Ca
open Go.ChangeShapes Go.WideShapes Go.ChangeAt Go.RowKit
set_option maxRecDepth 20000
section
variable {H : Type} {enc : TypeId × Value → H} {W : World} {n : Nat} {c : Value} {y : DataW H × List MemPlace}
theorem w_leaf (g : DataW.trod enc Try.prog W 0 (fun _ => true) true n 9 [c] = some y) : ∃ s, c = .string s ∧ s.size ∈ y.1.weights Try.prog 9 := by
  obtain ⟨x, e, hy, _⟩ := DataW.trod_string Try.underlying9 g
  simp at e
  refine ⟨x, e, ?_⟩
  rw [hy]
  exact List.mem_singleton_self _
theorem w_ip {c0v c1v c2v c3v c4v c5v c6v c7v : Value} (g : DataW.trod enc Try.prog W 0 (fun _ => true) true n 30 [c0v, c1v, c2v, c3v, c4v, c5v, c6v, c7v] = some y) : (∃ s, c7v = .string s ∧ s.size ∈ y.1.weights Try.prog 30) := by
  obtain ⟨xs, m, _, hx, _, hlen, hf⟩ := DataW.trod_struct Try.underlying30 g
  match xs, hlen with
  | [y0, y1, y2, y3, y4, y5, y6, y7], _ =>
    have hd : y.1 = .agg [y0.1, y1.1, y2.1, y3.1, y4.1, y5.1, y6.1, y7.1] := by
      have := congrArg Prod.fst hx
      simpa using this
    have g7 : DataW.trod enc Try.prog W 0 (fun _ => true) true m 9 (([c0v, c1v, c2v, c3v, c4v, c5v, c6v, c7v].drop 7).take (Try.prog.cellsOf 9)) = some y7 := hf 7 _ rfl
    rw [cells_s] at g7
    obtain ⟨s7, e7, m7⟩ := w_leaf g7
    rw [hd]
    simp only [DataW.weights, Try.underlying30]
    exact ⟨s7, e7, DataW.weights_mem_each (j := 7) (t := 9) (d := y7.1) rfl rfl _ m7⟩
theorem w_l4 {c0v c1v c2v c3v c4v c5v c6v c7v c8v c9v c10v c11v c12v c13v : Value} (g : DataW.trod enc Try.prog W 0 (fun _ => true) true n 32 [c0v, c1v, c2v, c3v, c4v, c5v, c6v, c7v, c8v, c9v, c10v, c11v, c12v, c13v] = some y) : (∃ s, c12v = .string s ∧ s.size ∈ y.1.weights Try.prog 32) ∧ (∃ s, c13v = .string s ∧ s.size ∈ y.1.weights Try.prog 32) := by
  obtain ⟨xs, m, _, hx, _, hlen, hf⟩ := DataW.trod_struct Try.underlying32 g
  match xs, hlen with
  | [y0, y1, y2, y3, y4, y5, y6, y7, y8, y9, y10, y11, y12, y13], _ =>
    have hd : y.1 = .agg [y0.1, y1.1, y2.1, y3.1, y4.1, y5.1, y6.1, y7.1, y8.1, y9.1, y10.1, y11.1, y12.1, y13.1] := by
      have := congrArg Prod.fst hx
      simpa using this
    have g12 : DataW.trod enc Try.prog W 0 (fun _ => true) true m 9 (([c0v, c1v, c2v, c3v, c4v, c5v, c6v, c7v, c8v, c9v, c10v, c11v, c12v, c13v].drop 12).take (Try.prog.cellsOf 9)) = some y12 := hf 12 _ rfl
    rw [cells_s] at g12
    obtain ⟨s12, e12, m12⟩ := w_leaf g12
    have g13 : DataW.trod enc Try.prog W 0 (fun _ => true) true m 9 (([c0v, c1v, c2v, c3v, c4v, c5v, c6v, c7v, c8v, c9v, c10v, c11v, c12v, c13v].drop 13).take (Try.prog.cellsOf 9)) = some y13 := hf 13 _ rfl
    rw [cells_s] at g13
    obtain ⟨s13, e13, m13⟩ := w_leaf g13
    rw [hd]
    simp only [DataW.weights, Try.underlying32]
    exact ⟨⟨s12, e12, DataW.weights_mem_each (j := 12) (t := 9) (d := y12.1) rfl rfl _ m12⟩, ⟨s13, e13, DataW.weights_mem_each (j := 13) (t := 9) (d := y13.1) rfl rfl _ m13⟩⟩
theorem w_pk {c0v c1v c2v c3v c4v c5v c6v c7v c8v c9v c10v c11v c12v c13v c14v c15v c16v c17v c18v c19v c20v c21v c22v c23v c24v c25v c26v c27v c28v c29v c30v c31v c32v c33v c34v c35v : Value} (g : DataW.trod enc Try.prog W 0 (fun _ => true) true n 34 [c0v, c1v, c2v, c3v, c4v, c5v, c6v, c7v, c8v, c9v, c10v, c11v, c12v, c13v, c14v, c15v, c16v, c17v, c18v, c19v, c20v, c21v, c22v, c23v, c24v, c25v, c26v, c27v, c28v, c29v, c30v, c31v, c32v, c33v, c34v, c35v] = some y) : (∃ s, c19v = .string s ∧ s.size ∈ y.1.weights Try.prog 34) ∧ (∃ s, c32v = .string s ∧ s.size ∈ y.1.weights Try.prog 34) ∧ (∃ s, c33v = .string s ∧ s.size ∈ y.1.weights Try.prog 34) ∧ (∃ s, c34v = .string s ∧ s.size ∈ y.1.weights Try.prog 34) ∧ (∃ s, c35v = .string s ∧ s.size ∈ y.1.weights Try.prog 34) := by
  obtain ⟨xs, m, _, hx, _, hlen, hf⟩ := DataW.trod_struct Try.underlying34 g
  match xs, hlen with
  | [y0, y1, y2, y3, y4, y5, y6, y7], _ =>
    have hd : y.1 = .agg [y0.1, y1.1, y2.1, y3.1, y4.1, y5.1, y6.1, y7.1] := by
      have := congrArg Prod.fst hx
      simpa using this
    have g4 : DataW.trod enc Try.prog W 0 (fun _ => true) true m 30 (([c0v, c1v, c2v, c3v, c4v, c5v, c6v, c7v, c8v, c9v, c10v, c11v, c12v, c13v, c14v, c15v, c16v, c17v, c18v, c19v, c20v, c21v, c22v, c23v, c24v, c25v, c26v, c27v, c28v, c29v, c30v, c31v, c32v, c33v, c34v, c35v].drop 12).take (Try.prog.cellsOf 30)) = some y4 := hf 4 _ rfl
    rw [cells_ip] at g4
    have g5 : DataW.trod enc Try.prog W 0 (fun _ => true) true m 32 (([c0v, c1v, c2v, c3v, c4v, c5v, c6v, c7v, c8v, c9v, c10v, c11v, c12v, c13v, c14v, c15v, c16v, c17v, c18v, c19v, c20v, c21v, c22v, c23v, c24v, c25v, c26v, c27v, c28v, c29v, c30v, c31v, c32v, c33v, c34v, c35v].drop 20).take (Try.prog.cellsOf 32)) = some y5 := hf 5 _ rfl
    rw [cells_l4] at g5
    have g6 : DataW.trod enc Try.prog W 0 (fun _ => true) true m 9 (([c0v, c1v, c2v, c3v, c4v, c5v, c6v, c7v, c8v, c9v, c10v, c11v, c12v, c13v, c14v, c15v, c16v, c17v, c18v, c19v, c20v, c21v, c22v, c23v, c24v, c25v, c26v, c27v, c28v, c29v, c30v, c31v, c32v, c33v, c34v, c35v].drop 34).take (Try.prog.cellsOf 9)) = some y6 := hf 6 _ rfl
    rw [cells_s] at g6
    have g7 : DataW.trod enc Try.prog W 0 (fun _ => true) true m 9 (([c0v, c1v, c2v, c3v, c4v, c5v, c6v, c7v, c8v, c9v, c10v, c11v, c12v, c13v, c14v, c15v, c16v, c17v, c18v, c19v, c20v, c21v, c22v, c23v, c24v, c25v, c26v, c27v, c28v, c29v, c30v, c31v, c32v, c33v, c34v, c35v].drop 35).take (Try.prog.cellsOf 9)) = some y7 := hf 7 _ rfl
    rw [cells_s] at g7
    obtain ⟨s19, e19, m19⟩ := w_ip g4
    obtain ⟨⟨s32, e32, m32⟩, ⟨s33, e33, m33⟩⟩ := w_l4 g5
    obtain ⟨s34, e34, m34⟩ := w_leaf g6
    obtain ⟨s35, e35, m35⟩ := w_leaf g7
    rw [hd]
    simp only [DataW.weights, Try.underlying34]
    exact ⟨⟨s19, e19, DataW.weights_mem_each (j := 4) (t := 30) (d := y4.1) rfl rfl _ m19⟩, ⟨s32, e32, DataW.weights_mem_each (j := 5) (t := 32) (d := y5.1) rfl rfl _ m32⟩, ⟨s33, e33, DataW.weights_mem_each (j := 5) (t := 32) (d := y5.1) rfl rfl _ m33⟩, ⟨s34, e34, DataW.weights_mem_each (j := 6) (t := 9) (d := y6.1) rfl rfl _ m34⟩, ⟨s35, e35, DataW.weights_mem_each (j := 7) (t := 9) (d := y7.1) rfl rfl _ m35⟩⟩
end
theorem small_of {ts : List TypeId} {H : Type} {ds : List (DataW H)} {d : DataW H} (j : Nat) (hsz : (DataW.weightsEach Try.prog ts ds).all (· ≤ reachBytes) = true) (ht : ts[j]? = some 34) (hd : ds[j]? = some d) {k : Nat} (h : k ∈ d.weights Try.prog 34) : k ≤ 140737488351232 := by
  have q := of_decide_eq_true (List.all_eq_true.1 hsz _ (DataW.weights_mem_each ht hd _ h))
  unfold reachBytes at q
  omega
set_option maxHeartbeats 4000000 in
theorem open_pkR {H : Type} {enc : TypeId × Value → H} {W : World} {v : Value} {d : DataW H} {p : List MemPlace} {r : Reach} {base : Nat} {ts : List TypeId} {ds : List (DataW H)} (j : Nat)
    (hv : Value.okWide Try.prog W r base 34 v) (h : DataW.Trod enc Try.prog W 0 (fun _ => true) true 34 v d p) (hsz : (DataW.weightsEach Try.prog ts ds).all (· ≤ reachBytes) = true) (ht : ts[j]? = some 34) (hd : ds[j]? = some d) :
    ∃ x : PkR, v = .agg x.ps ∧ x.Fine ∧ x.l.os.length ≤ 140737488355328 := by
  obtain ⟨ps, rfl, hps⟩ := okWide_struct Try.underlying34 hv
  obtain ⟨fuel, hf⟩ := h
  have P := pst_of (hps.trans cells_packet) hf
  obtain ⟨c0v, c1v, c2v, c3v, c4v, c5v, c6v, c7v, c8v, c9v, c10v, c11v, c12v, c13v, c14v, c15v, c16v, c17v, c18v, c19v, c20v, c21v, c22v, c23v, c24v, c25v, c26v, c27v, c28v, c29v, c30v, c31v, c32v, c33v, c34v, c35v, rfl⟩ := thirtysix P.size
  have Z := w_pk hf
  obtain ⟨⟨s19, e19, m19⟩, ⟨s32, e32, m32⟩, ⟨s33, e33, m33⟩, ⟨s34, e34, m34⟩, ⟨s35, e35, m35⟩⟩ := Z
  have z19 := small_of j hsz ht hd m19
  have z32 := small_of j hsz ht hd m32
  have z33 := small_of j hsz ht hd m33
  have z34 := small_of j hsz ht hd m34
  have z35 := small_of j hsz ht hd m35
  clear m19 m32 m33 m34 m35 hf hv hsz ht hd
  obtain ⟨x0, hx0, r0⟩ := P.u64 0 (by decide)
  obtain ⟨x1, hx1, r1⟩ := P.u64 1 (by decide)
  obtain ⟨x2, hx2⟩ := P.bool 2 (by decide)
  obtain ⟨x3, hx3, r3⟩ := P.i64 3 (by decide)
  obtain ⟨x4, hx4, r4⟩ := P.i64 4 (by decide)
  obtain ⟨x5, hx5⟩ := P.bool 5 (by decide)
  obtain ⟨x6, hx6, r6⟩ := P.i64 6 (by decide)
  obtain ⟨x7, hx7, r7⟩ := P.u64 7 (by decide)
  obtain ⟨x8, hx8, r8⟩ := P.u32 8 (by decide)
  obtain ⟨x9, hx9, r9⟩ := P.u64 9 (by decide)
  obtain ⟨x10, hx10, r10⟩ := P.u32 10 (by decide)
  obtain ⟨x11, hx11⟩ := P.bool 11 (by decide)
  obtain ⟨x12, hx12, r12⟩ := P.i64 12 (by decide)
  obtain ⟨x13, hx13, r13⟩ := P.i64 13 (by decide)
  obtain ⟨x14, hx14, r14⟩ := P.i64 14 (by decide)
  obtain ⟨x15, hx15, r15⟩ := P.i64 15 (by decide)
  obtain ⟨x16, hx16, r16⟩ := P.i64 16 (by decide)
  obtain ⟨x17, hx17, r17⟩ := P.u32 17 (by decide)
  obtain ⟨x18, hx18, r18⟩ := P.u32 18 (by decide)
  obtain ⟨x20, hx20, r20⟩ := P.i64 20 (by decide)
  obtain ⟨x21, hx21, r21⟩ := P.i64 21 (by decide)
  obtain ⟨x22, hx22, r22⟩ := P.i64 22 (by decide)
  obtain ⟨x23, hx23, r23⟩ := P.u32 23 (by decide)
  obtain ⟨x24, hx24, r24⟩ := P.i64 24 (by decide)
  obtain ⟨x25, hx25, r25⟩ := P.i64 25 (by decide)
  obtain ⟨x26, hx26⟩ := P.bool 26 (by decide)
  obtain ⟨x27, hx27, r27⟩ := P.u32 27 (by decide)
  obtain ⟨x28, hx28, r28⟩ := P.u32 28 (by decide)
  obtain ⟨x29, hx29, r29⟩ := P.i64 29 (by decide)
  obtain ⟨x30, hx30, r30⟩ := P.i64 30 (by decide)
  obtain ⟨x31, hx31, r31⟩ := P.i64 31 (by decide)
  simp only [List.getElem?_toArray, List.getElem?_cons_zero, List.getElem?_cons_succ, Option.some.injEq] at hx0 hx1 hx2 hx3 hx4 hx5 hx6 hx7 hx8 hx9 hx10 hx11 hx12 hx13 hx14 hx15 hx16 hx17 hx18 hx20 hx21 hx22 hx23 hx24 hx25 hx26 hx27 hx28 hx29 hx30 hx31
  subst hx0 hx1 hx2 hx3 hx4 hx5 hx6 hx7 hx8 hx9 hx10 hx11 hx12 hx13 hx14 hx15 hx16 hx17 hx18 hx20 hx21 hx22 hx23 hx24 hx25 hx26 hx27 hx28 hx29 hx30 hx31 e19 e32 e33 e34 e35
  clear P
  obtain ⟨o19, rfl, l19, f19⟩ := str_nums s19
  obtain ⟨o32, rfl, l32, f32⟩ := str_nums s32
  obtain ⟨o33, rfl, l33, f33⟩ := str_nums s33
  obtain ⟨o34, rfl, l34, f34⟩ := str_nums s34
  obtain ⟨o35, rfl, l35, f35⟩ := str_nums s35
  refine ⟨⟨x0, x1, x2, x3, x4, x5, x6, x7, x8, x9, x10, x11, x12, x13, x14, x15, x16, x17, x18, o19, ⟨x20, x21, x22, x23, x24, x25, x26, x27, x28, x29, x30, x31, o32, o33⟩, o34, o35⟩, rfl, ?_⟩
  exact ⟨⟨r0, r1, r7, r9, r8, r10, r17, r18, f19, f34, f35, by show o19.length ≤ _; omega, by show o34.length ≤ _; omega, by show o35.length ≤ _; omega, ⟨r23, r27, r28, f32, f33, by show o33.length ≤ _; omega⟩⟩, by show o32.length ≤ _; omega⟩
end Go.Proofs.Ytpiokeidcnbmbaa.Ca

namespace Go.Proofs.Ytpiokeidcnbmbaa
open Go.RowKit
set_option maxRecDepth 20000
set_option linter.unusedSimpArgs false
def multB (m : Int) : Bool := m / 1099511627776 % 2 == 1
theorem multi_any (m : Int) (h : 0 ≤ m ∧ m ≤ 18446744073709551615) (w : World) : Calls Try.prog 71 #[.int .u64 m] w fun e w' => e = .returned (.bool (multB m)) ∧ w' = w := by
  have hb : bits .and .u64 (m / 1099511627776) 1 = m / 1099511627776 % 2 := and_one_u64 _ (by omega) (by omega)
  unfold multB
  go_enter Try.func71, Try.ntmps71
  go_wp2
  go_ret
  exact ⟨rfl, rfl⟩
def echoT (ty : Int) : Bool := ty == 0 || ty == 8
theorem echoType_any (ty : Int) (w : World) : Calls Try.prog 56 #[.int .i64 ty] w fun e w' => e = .returned (.bool (echoT ty)) ∧ w' = w := by
  unfold echoT
  cases h : (ty == 0)
  · go_enter Try.func56, Try.ntmps56
    go_wp2
    go_ret
    exact ⟨rfl, rfl⟩
  · go_enter Try.func56, Try.ntmps56
    go_wp2
    go_ret
    exact ⟨rfl, rfl⟩
def firstB (fr : Int) : Bool := bits .and .i64 fr 8191 == 0
def PkR.may (x : PkR) : Bool := x.ii && (firstB x.fr && (!(x.l.k == 1 && !echoT x.l.ty) && (!(x.src == 0) && (decide (x.src < 3758096384) && !multB x.s))))
theorem PkR.get20 (x : PkR) : x.ps[20]? = some (.int .i64 x.l.k) := rfl
theorem PkR.get21 (x : PkR) : x.ps[21]? = some (.int .i64 x.l.ty) := rfl
theorem PkR.get17 (x : PkR) : x.ps[17]? = some (.int .u32 x.src) := rfl
theorem PkR.get1 (x : PkR) : x.ps[1]? = some (.int .u64 x.s) := rfl
set_option maxHeartbeats 4000000 in
theorem PkR.mayAny {x : PkR} (hx : x.Fine) (w : World) : Calls Try.prog 36 #[.agg x.ps] w fun e w' => e = .returned (.bool x.may) ∧ Below w.heap.size w w' := by
  have R1 : Hid ((w.alloc (.cells x.ps 34)).heap[w.heap.size]? = some (.cells x.ps 34 (0, 0))) := heap_alloc_new w _
  have c11 := (Ca.cell_row R1.out 11).trans (PkR.get11 x)
  have hI := PkR.exI x
  have hI9 : (x.ps.extract 12 (12 + 8)).size = 8 := by rw [hI]; rfl
  have hs := hx.s
  unfold PkR.may
  obtain ⟨ps, hps⟩ : ∃ p, x.ps = p := ⟨_, rfl⟩
  have C20 : Hid _ := (Ca.cell_row R1.out 20).trans (PkR.get20 x)
  have C21 : Hid _ := (Ca.cell_row R1.out 21).trans (PkR.get21 x)
  have C17 : Hid _ := (Ca.cell_row R1.out 17).trans (PkR.get17 x)
  have C1 : Hid _ := (Ca.cell_row R1.out 1).trans (PkR.get1 x)
  have HF : Hid (∀ W, Calls Try.prog 46 #[.agg #[.int .i64 x.tos, .int .i64 x.id, .int .i64 x.fr, .int .i64 x.ttl, .int .i64 x.pr, .int .u32 x.src, .int .u32 x.dst, .string (strOfNums x.io)]] W fun e w' => e = .returned (.bool (firstB x.fr)) ∧ Below W.heap.size W w') := fun W => Ip.ip_First_any _ _ _ _ _ _ _ _ W
  rw [hps] at R1 c11 hI hI9 C20 C21 C17 C1 ⊢
  generalize x.l.k = k at *
  generalize x.l.ty = ty at *
  generalize x.s = s at *
  cases h1 : x.ii
  · rw [h1] at c11
    clear C20 C21 C17 C1
    go_enter Try.func36, Try.ntmps36
    go_wp2
    go_ret
    exact ⟨rfl, below1 w _⟩
  rw [h1] at c11
  have hW : ∀ W, Below (w.alloc (.cells ps 34)).heap.size (w.alloc (.cells ps 34)) W → W.heap[w.heap.size]? = some (.cells ps 34 (0, 0)) := fun W hb => (hb.block _ (Ca.lt_of_heap R1.out)).trans R1.out
  have HW : Hid _ := hW
  clear hW
  go_enter Try.func36, Try.ntmps36
  go_wp2_with (first
    | refine Ca.wpList_load_atw (by rfl) 30 _ rfl w.heap.size 12 8 rfl ps #[.int .i64 x.tos, .int .i64 x.id, .int .i64 x.fr, .int .i64 x.ttl, .int .i64 x.pr, .int .u32 x.src, .int .u32 x.dst, .string (strOfNums x.io)] 34 _ R1.out Try.underlying30 rfl hI rfl (by kernel_rfl) ?_
    | fail)
  refine (HF.out _).mono ?_
  rintro e W1 ⟨rfl, hb⟩
  have B1 : Hid (Below w.heap.size w W1) := (below1 w _).trans (hb.mono (by simp))
  have bc := Ca.bcell hb
  have c1 := (bc.1 w.heap.size 1 (by simp)).trans C1.out
  have c17 := (bc.1 w.heap.size 17 (by simp)).trans C17.out
  have c20 := (bc.1 w.heap.size 20 (by simp)).trans C20.out
  have c21 := (bc.1 w.heap.size 21 (by simp)).trans C21.out
  clear hb bc R1 C1 C17 C20 C21 c11 HF HW
  cases h2 : firstB x.fr
  · go_wp2
    go_ret
    exact ⟨by first | (simp [h2, bne]; done) | (simp [h2, bne]; omega), B1.out⟩
  cases h3 : (k == 1)
  · have h3n : ¬ k = 1 := by simpa using h3
    by_cases h5 : x.src = 0
    · have h5b : (x.src == 0) = true := by simpa using h5
      go_wp2
      go_ret
      exact ⟨by first | (simp [h2, h3n, h3, h5, h5b, bne]; done) | (simp [h2, h3n, h3, h5, h5b, bne]; omega), B1.out⟩
    have h5b : (x.src == 0) = false := by simpa using h5
    by_cases h6 : x.src < 3758096384
    · go_wp2_with fail
      refine (multi_any _ hs _).mono ?_
      rintro e w' ⟨rfl, rfl⟩
      go_wp2
      go_ret
      exact ⟨by first | (simp [h2, h3n, h3, h5, h5b, h6, bne]; done) | (simp [h2, h3n, h3, h5, h5b, h6, bne]; omega), B1.out⟩
    · have h6b : (3758096384 : Int) ≤ x.src := by omega
      go_wp2
      go_ret
      exact ⟨by first | (simp [h2, h3n, h3, h5, h5b, h6, bne]; done) | (simp [h2, h3n, h3, h5, h5b, h6, bne]; omega), B1.out⟩
  · have h3n : k = 1 := by simpa using h3
    go_wp2_with fail
    refine (echoType_any _ _).mono ?_
    rintro e w' ⟨rfl, rfl⟩
    cases h4 : echoT ty
    · go_wp2
      go_ret
      exact ⟨by first | (simp [h2, h3n, h3, h4, bne]; done) | (simp [h2, h3n, h3, h4, bne]; omega), B1.out⟩
    by_cases h5 : x.src = 0
    · have h5b : (x.src == 0) = true := by simpa using h5
      go_wp2
      go_ret
      exact ⟨by first | (simp [h2, h3n, h3, h4, h5, h5b, bne]; done) | (simp [h2, h3n, h3, h4, h5, h5b, bne]; omega), B1.out⟩
    have h5b : (x.src == 0) = false := by simpa using h5
    by_cases h6 : x.src < 3758096384
    · go_wp2_with fail
      refine (multi_any _ hs _).mono ?_
      rintro e w' ⟨rfl, rfl⟩
      go_wp2
      go_ret
      exact ⟨by first | (simp [h2, h3n, h3, h4, h5, h5b, h6, bne]; done) | (simp [h2, h3n, h3, h4, h5, h5b, h6, bne]; omega), B1.out⟩
    · have h6b : (3758096384 : Int) ≤ x.src := by omega
      go_wp2
      go_ret
      exact ⟨by first | (simp [h2, h3n, h3, h4, h5, h5b, h6, bne]; done) | (simp [h2, h3n, h3, h4, h5, h5b, h6, bne]; omega), B1.out⟩
end Go.Proofs.Ytpiokeidcnbmbaa

namespace Go.Proofs.Ytpiokeidcnbmbaa
open Go.RowKit
set_option maxRecDepth 20000
set_option maxHeartbeats 4000000 in
theorem quote14m (ps : Array Value) (hs : ps.size = 36) (n m T : Nat) (B : List Int) (hB : ∀ i, 0 ≤ B.getD i 0 ∧ B.getD i 0 ≤ 255) (d s tag et : Int) (tg : Bool) (hn : 14 + T ≤ n) (hn9 : n ≤ 9018) (h20 : 20 ≤ m ∧ m ≤ 60) (_hmT : m ≤ T) (hc : m + 8 ≤ T) (tos id fr ttl pr src dst : Int) (io : List Int) (w : World)
    (HP : Hid (∀ W, Calls Try.prog 11 #[.agg ps] W fun e w' => ∃ a cap, e = .returned (.tuple #[.slice a n cap, .int .i64 0]) ∧ RB W w' (.slice a n cap) n B))
    (HV : Hid (Eth.headV B = Eth.ethV d s tg tag et 14 0))
    (HM : Hid (Ip.MOk (B.drop 14) ((n - 14 : Nat) : Int) m)) (HT : Hid ((B.drop 14).getD 2 0 * 256 + (B.drop 14).getD 3 0 = (T : Int))) (HI : Hid (Ip.ipF (B.drop 14) m = .agg #[.int .i64 tos, .int .i64 id, .int .i64 fr, .int .i64 ttl, .int .i64 pr, .int .u32 src, .int .u32 dst, .string (strOfNums io)])) :
    Calls Try.prog 37 #[.agg ps] w fun e w' => e = .returned (.tuple #[.string (strOfNums ((B.drop 14).take (m + 8))), .bool true]) ∧ Below w.heap.size w w' := by
  have HS : Hid (ps.size = 36) := hs
  have FB : Hid _ := hB
  clear hs hB
  go_enter Try.func37, Try.ntmps37
  go_wp2_with (refine wpList_load_row rfl 34 _ rfl (w.heap.size) rfl 34 ps (0, 0) _ (heap_alloc_new w _) Try.underlying34 rfl (info36 HS.out) ?_)
  refine (HP.out _).mono ?_
  rintro e W1 ⟨a, cap, rfl, r1⟩
  have hcc := own_caps r1.own
  obtain ⟨g, rfl, hg1, hg2⟩ := own_some r1.own (by omega)
  have H1 : Hid (BS W1 (some ⟨g, 0, none⟩) n B) := own_bs r1.own FB.out (by omega)
  have B1 : Hid (Below w.heap.size w W1) := (below1 w _).trans (r1.bel.mono (by simp))
  clear r1 HP hg1 hg2
  go_wp2_with fail
  refine (Eth.head_any cap H1.out hcc.1 hcc.2).mono ?_
  rw [HV.out]
  unfold Eth.ethV
  rintro e W2 ⟨rfl, hb⟩
  have B2 : Hid (Below w.heap.size w W2) := B1.out.trans (hb.mono B1.out.size)
  have H2 : Hid (BS W2 (some ⟨g, 0, none⟩) n B) := H1.out.below hb
  clear hb B1 H1
  have hc1 : 14 ≤ n := by omega
  have hc2 : (14 : Int) ≤ n := by omega
  have hc3 : (14 : Int) ≤ cap := by omega
  have hc4 : (n : Int) ≤ cap := by omega
  have hc5 : ¬ cap = 14 := by omega
  go_wp2_with fail
  have B3 : Hid (Below w.heap.size w (W2.alloc (.cells #[.int .u64 d, .int .u64 s, .bool tg, .int .i64 tag, .int .i64 et] 25))) := B2.out.alloc B2.out.size _
  have H3 : Hid (BS (W2.alloc (.cells #[.int .u64 d, .int .u64 s, .bool tg, .int .i64 tag, .int .i64 et] 25)) (some ⟨g, 0, none⟩) n B) := H2.out.below ((Below.refl _ _).alloc (Nat.le_refl _) _)
  obtain ⟨W3, hW⟩ : ∃ V, W2.alloc (.cells #[.int .u64 d, .int .u64 s, .bool tg, .int .i64 tag, .int .i64 et] 25) = V := ⟨_, rfl⟩
  rw [hW] at B3 H3 ⊢
  clear hW B2 H2
  have H3d : BS W3 (some ⟨g, 0 + 14, none⟩) (n - 14) (B.drop 14) := H3.out.drop (by omega) 14 (by omega)
  refine ((Ip.decode_any W3 (some ⟨g, 0 + 14, none⟩) (n - 14) (cap - 14) (B.drop 14) H3d (by omega)).2 m HM.out).mono ?_
  rw [HT.out, HI.out]
  rintro e W4 ⟨rfl, hb⟩
  have B4 : Hid (Below w.heap.size w W4) := B3.out.trans (hb.mono B3.out.size)
  have H4 : Hid (BS W4 (some ⟨g, 0, none⟩) n B) := H3.out.below hb
  clear hb B3 H3 H3d
  have B5 : Hid (Below w.heap.size w (W4.alloc (.cells #[.int .i64 tos, .int .i64 id, .int .i64 fr, .int .i64 ttl, .int .i64 pr, .int .u32 src, .int .u32 dst, .string (strOfNums io)] 30))) := B4.out.alloc B4.out.size _
  have H5 : Hid (BS (W4.alloc (.cells #[.int .i64 tos, .int .i64 id, .int .i64 fr, .int .i64 ttl, .int .i64 pr, .int .u32 src, .int .u32 dst, .string (strOfNums io)] 30)) (some ⟨g, 0, none⟩) n B) := H4.out.below ((Below.refl _ _).alloc (Nat.le_refl _) _)
  have w1 : IntKind.i64.wrap ((m : Int) + 8) = (m : Int) + 8 := by simp [IntKind.wrap, IntKind.bits, IntKind.signed]; omega
  have w2 : IntKind.i64.wrap (14 + ((m : Int) + 8)) = 14 + ((m : Int) + 8) := by simp [IntKind.wrap, IntKind.bits, IntKind.signed]; omega
  have w3 : IntKind.i64.wrap (14 + (T : Int)) = 14 + (T : Int) := by simp [IntKind.wrap, IntKind.bits, IntKind.signed]; omega
  have hcI : (m : Int) + 8 ≤ T := by omega
  have hcN : (14 : Int) + (T : Int) ≤ cap := by omega
  have hd5 : BS (W4.alloc (.cells #[.int .i64 tos, .int .i64 id, .int .i64 fr, .int .i64 ttl, .int .i64 pr, .int .u32 src, .int .u32 dst, .string (strOfNums io)] 30)) (some ⟨g, 0 + 14, none⟩) (m + 8) ((B.drop 14).take (m + 8)) := (H5.out.drop (by omega) 14 (by omega)).take (m + 8) (by omega)
  have cv := run_conv_bs (cap - 14) hd5 22 9 5 Try.underlying22 Try.underlying5 Try.underlying9
  clear hd5 B4 H4
  go_wp2
  go_ret2
  exact ⟨rfl, B5.out⟩
set_option maxHeartbeats 4000000 in
theorem quote14T (ps : Array Value) (hs : ps.size = 36) (n m T : Nat) (B : List Int) (hB : ∀ i, 0 ≤ B.getD i 0 ∧ B.getD i 0 ≤ 255) (d s tag et : Int) (tg : Bool) (hn : 14 + T ≤ n) (hn9 : n ≤ 9018) (h20 : 20 ≤ m ∧ m ≤ 60) (_hmT : m ≤ T) (hc : T < m + 8) (tos id fr ttl pr src dst : Int) (io : List Int) (w : World)
    (HP : Hid (∀ W, Calls Try.prog 11 #[.agg ps] W fun e w' => ∃ a cap, e = .returned (.tuple #[.slice a n cap, .int .i64 0]) ∧ RB W w' (.slice a n cap) n B))
    (HV : Hid (Eth.headV B = Eth.ethV d s tg tag et 14 0))
    (HM : Hid (Ip.MOk (B.drop 14) ((n - 14 : Nat) : Int) m)) (HT : Hid ((B.drop 14).getD 2 0 * 256 + (B.drop 14).getD 3 0 = (T : Int))) (HI : Hid (Ip.ipF (B.drop 14) m = .agg #[.int .i64 tos, .int .i64 id, .int .i64 fr, .int .i64 ttl, .int .i64 pr, .int .u32 src, .int .u32 dst, .string (strOfNums io)])) :
    Calls Try.prog 37 #[.agg ps] w fun e w' => e = .returned (.tuple #[.string (strOfNums ((B.drop 14).take T)), .bool true]) ∧ Below w.heap.size w w' := by
  have HS : Hid (ps.size = 36) := hs
  have FB : Hid _ := hB
  clear hs hB
  go_enter Try.func37, Try.ntmps37
  go_wp2_with (refine wpList_load_row rfl 34 _ rfl (w.heap.size) rfl 34 ps (0, 0) _ (heap_alloc_new w _) Try.underlying34 rfl (info36 HS.out) ?_)
  refine (HP.out _).mono ?_
  rintro e W1 ⟨a, cap, rfl, r1⟩
  have hcc := own_caps r1.own
  obtain ⟨g, rfl, hg1, hg2⟩ := own_some r1.own (by omega)
  have H1 : Hid (BS W1 (some ⟨g, 0, none⟩) n B) := own_bs r1.own FB.out (by omega)
  have B1 : Hid (Below w.heap.size w W1) := (below1 w _).trans (r1.bel.mono (by simp))
  clear r1 HP hg1 hg2
  go_wp2_with fail
  refine (Eth.head_any cap H1.out hcc.1 hcc.2).mono ?_
  rw [HV.out]
  unfold Eth.ethV
  rintro e W2 ⟨rfl, hb⟩
  have B2 : Hid (Below w.heap.size w W2) := B1.out.trans (hb.mono B1.out.size)
  have H2 : Hid (BS W2 (some ⟨g, 0, none⟩) n B) := H1.out.below hb
  clear hb B1 H1
  have hc1 : 14 ≤ n := by omega
  have hc2 : (14 : Int) ≤ n := by omega
  have hc3 : (14 : Int) ≤ cap := by omega
  have hc4 : (n : Int) ≤ cap := by omega
  have hc5 : ¬ cap = 14 := by omega
  go_wp2_with fail
  have B3 : Hid (Below w.heap.size w (W2.alloc (.cells #[.int .u64 d, .int .u64 s, .bool tg, .int .i64 tag, .int .i64 et] 25))) := B2.out.alloc B2.out.size _
  have H3 : Hid (BS (W2.alloc (.cells #[.int .u64 d, .int .u64 s, .bool tg, .int .i64 tag, .int .i64 et] 25)) (some ⟨g, 0, none⟩) n B) := H2.out.below ((Below.refl _ _).alloc (Nat.le_refl _) _)
  obtain ⟨W3, hW⟩ : ∃ V, W2.alloc (.cells #[.int .u64 d, .int .u64 s, .bool tg, .int .i64 tag, .int .i64 et] 25) = V := ⟨_, rfl⟩
  rw [hW] at B3 H3 ⊢
  clear hW B2 H2
  have H3d : BS W3 (some ⟨g, 0 + 14, none⟩) (n - 14) (B.drop 14) := H3.out.drop (by omega) 14 (by omega)
  refine ((Ip.decode_any W3 (some ⟨g, 0 + 14, none⟩) (n - 14) (cap - 14) (B.drop 14) H3d (by omega)).2 m HM.out).mono ?_
  rw [HT.out, HI.out]
  rintro e W4 ⟨rfl, hb⟩
  have B4 : Hid (Below w.heap.size w W4) := B3.out.trans (hb.mono B3.out.size)
  have H4 : Hid (BS W4 (some ⟨g, 0, none⟩) n B) := H3.out.below hb
  clear hb B3 H3 H3d
  have B5 : Hid (Below w.heap.size w (W4.alloc (.cells #[.int .i64 tos, .int .i64 id, .int .i64 fr, .int .i64 ttl, .int .i64 pr, .int .u32 src, .int .u32 dst, .string (strOfNums io)] 30))) := B4.out.alloc B4.out.size _
  have H5 : Hid (BS (W4.alloc (.cells #[.int .i64 tos, .int .i64 id, .int .i64 fr, .int .i64 ttl, .int .i64 pr, .int .u32 src, .int .u32 dst, .string (strOfNums io)] 30)) (some ⟨g, 0, none⟩) n B) := H4.out.below ((Below.refl _ _).alloc (Nat.le_refl _) _)
  have w1 : IntKind.i64.wrap ((m : Int) + 8) = (m : Int) + 8 := by simp [IntKind.wrap, IntKind.bits, IntKind.signed]; omega
  have w2 : IntKind.i64.wrap (14 + ((m : Int) + 8)) = 14 + ((m : Int) + 8) := by simp [IntKind.wrap, IntKind.bits, IntKind.signed]; omega
  have w3 : IntKind.i64.wrap (14 + (T : Int)) = 14 + (T : Int) := by simp [IntKind.wrap, IntKind.bits, IntKind.signed]; omega
  have hcI : (T : Int) < (m : Int) + 8 := by omega
  have hcN : (14 : Int) + (T : Int) ≤ cap := by omega
  have hd5 : BS (W4.alloc (.cells #[.int .i64 tos, .int .i64 id, .int .i64 fr, .int .i64 ttl, .int .i64 pr, .int .u32 src, .int .u32 dst, .string (strOfNums io)] 30)) (some ⟨g, 0 + 14, none⟩) T ((B.drop 14).take T) := (H5.out.drop (by omega) 14 (by omega)).take T (by omega)
  have cv := run_conv_bs (cap - 14) hd5 22 9 5 Try.underlying22 Try.underlying5 Try.underlying9
  clear hd5 B4 H4
  go_wp2
  go_ret2
  exact ⟨rfl, B5.out⟩
set_option maxHeartbeats 4000000 in
theorem quote18m (ps : Array Value) (hs : ps.size = 36) (n m T : Nat) (B : List Int) (hB : ∀ i, 0 ≤ B.getD i 0 ∧ B.getD i 0 ≤ 255) (d s tag et : Int) (tg : Bool) (hn : 18 + T ≤ n) (hn9 : n ≤ 9018) (h20 : 20 ≤ m ∧ m ≤ 60) (_hmT : m ≤ T) (hc : m + 8 ≤ T) (tos id fr ttl pr src dst : Int) (io : List Int) (w : World)
    (HP : Hid (∀ W, Calls Try.prog 11 #[.agg ps] W fun e w' => ∃ a cap, e = .returned (.tuple #[.slice a n cap, .int .i64 0]) ∧ RB W w' (.slice a n cap) n B))
    (HV : Hid (Eth.headV B = Eth.ethV d s tg tag et 18 0))
    (HM : Hid (Ip.MOk (B.drop 18) ((n - 18 : Nat) : Int) m)) (HT : Hid ((B.drop 18).getD 2 0 * 256 + (B.drop 18).getD 3 0 = (T : Int))) (HI : Hid (Ip.ipF (B.drop 18) m = .agg #[.int .i64 tos, .int .i64 id, .int .i64 fr, .int .i64 ttl, .int .i64 pr, .int .u32 src, .int .u32 dst, .string (strOfNums io)])) :
    Calls Try.prog 37 #[.agg ps] w fun e w' => e = .returned (.tuple #[.string (strOfNums ((B.drop 18).take (m + 8))), .bool true]) ∧ Below w.heap.size w w' := by
  have HS : Hid (ps.size = 36) := hs
  have FB : Hid _ := hB
  clear hs hB
  go_enter Try.func37, Try.ntmps37
  go_wp2_with (refine wpList_load_row rfl 34 _ rfl (w.heap.size) rfl 34 ps (0, 0) _ (heap_alloc_new w _) Try.underlying34 rfl (info36 HS.out) ?_)
  refine (HP.out _).mono ?_
  rintro e W1 ⟨a, cap, rfl, r1⟩
  have hcc := own_caps r1.own
  obtain ⟨g, rfl, hg1, hg2⟩ := own_some r1.own (by omega)
  have H1 : Hid (BS W1 (some ⟨g, 0, none⟩) n B) := own_bs r1.own FB.out (by omega)
  have B1 : Hid (Below w.heap.size w W1) := (below1 w _).trans (r1.bel.mono (by simp))
  clear r1 HP hg1 hg2
  go_wp2_with fail
  refine (Eth.head_any cap H1.out hcc.1 hcc.2).mono ?_
  rw [HV.out]
  unfold Eth.ethV
  rintro e W2 ⟨rfl, hb⟩
  have B2 : Hid (Below w.heap.size w W2) := B1.out.trans (hb.mono B1.out.size)
  have H2 : Hid (BS W2 (some ⟨g, 0, none⟩) n B) := H1.out.below hb
  clear hb B1 H1
  have hc1 : 18 ≤ n := by omega
  have hc2 : (18 : Int) ≤ n := by omega
  have hc3 : (18 : Int) ≤ cap := by omega
  have hc4 : (n : Int) ≤ cap := by omega
  have hc5 : ¬ cap = 18 := by omega
  go_wp2_with fail
  have B3 : Hid (Below w.heap.size w (W2.alloc (.cells #[.int .u64 d, .int .u64 s, .bool tg, .int .i64 tag, .int .i64 et] 25))) := B2.out.alloc B2.out.size _
  have H3 : Hid (BS (W2.alloc (.cells #[.int .u64 d, .int .u64 s, .bool tg, .int .i64 tag, .int .i64 et] 25)) (some ⟨g, 0, none⟩) n B) := H2.out.below ((Below.refl _ _).alloc (Nat.le_refl _) _)
  obtain ⟨W3, hW⟩ : ∃ V, W2.alloc (.cells #[.int .u64 d, .int .u64 s, .bool tg, .int .i64 tag, .int .i64 et] 25) = V := ⟨_, rfl⟩
  rw [hW] at B3 H3 ⊢
  clear hW B2 H2
  have H3d : BS W3 (some ⟨g, 0 + 18, none⟩) (n - 18) (B.drop 18) := H3.out.drop (by omega) 18 (by omega)
  refine ((Ip.decode_any W3 (some ⟨g, 0 + 18, none⟩) (n - 18) (cap - 18) (B.drop 18) H3d (by omega)).2 m HM.out).mono ?_
  rw [HT.out, HI.out]
  rintro e W4 ⟨rfl, hb⟩
  have B4 : Hid (Below w.heap.size w W4) := B3.out.trans (hb.mono B3.out.size)
  have H4 : Hid (BS W4 (some ⟨g, 0, none⟩) n B) := H3.out.below hb
  clear hb B3 H3 H3d
  have B5 : Hid (Below w.heap.size w (W4.alloc (.cells #[.int .i64 tos, .int .i64 id, .int .i64 fr, .int .i64 ttl, .int .i64 pr, .int .u32 src, .int .u32 dst, .string (strOfNums io)] 30))) := B4.out.alloc B4.out.size _
  have H5 : Hid (BS (W4.alloc (.cells #[.int .i64 tos, .int .i64 id, .int .i64 fr, .int .i64 ttl, .int .i64 pr, .int .u32 src, .int .u32 dst, .string (strOfNums io)] 30)) (some ⟨g, 0, none⟩) n B) := H4.out.below ((Below.refl _ _).alloc (Nat.le_refl _) _)
  have w1 : IntKind.i64.wrap ((m : Int) + 8) = (m : Int) + 8 := by simp [IntKind.wrap, IntKind.bits, IntKind.signed]; omega
  have w2 : IntKind.i64.wrap (18 + ((m : Int) + 8)) = 18 + ((m : Int) + 8) := by simp [IntKind.wrap, IntKind.bits, IntKind.signed]; omega
  have w3 : IntKind.i64.wrap (18 + (T : Int)) = 18 + (T : Int) := by simp [IntKind.wrap, IntKind.bits, IntKind.signed]; omega
  have hcI : (m : Int) + 8 ≤ T := by omega
  have hcN : (18 : Int) + (T : Int) ≤ cap := by omega
  have hd5 : BS (W4.alloc (.cells #[.int .i64 tos, .int .i64 id, .int .i64 fr, .int .i64 ttl, .int .i64 pr, .int .u32 src, .int .u32 dst, .string (strOfNums io)] 30)) (some ⟨g, 0 + 18, none⟩) (m + 8) ((B.drop 18).take (m + 8)) := (H5.out.drop (by omega) 18 (by omega)).take (m + 8) (by omega)
  have cv := run_conv_bs (cap - 18) hd5 22 9 5 Try.underlying22 Try.underlying5 Try.underlying9
  clear hd5 B4 H4
  go_wp2
  go_ret2
  exact ⟨rfl, B5.out⟩
set_option maxHeartbeats 4000000 in
theorem quote18T (ps : Array Value) (hs : ps.size = 36) (n m T : Nat) (B : List Int) (hB : ∀ i, 0 ≤ B.getD i 0 ∧ B.getD i 0 ≤ 255) (d s tag et : Int) (tg : Bool) (hn : 18 + T ≤ n) (hn9 : n ≤ 9018) (h20 : 20 ≤ m ∧ m ≤ 60) (_hmT : m ≤ T) (hc : T < m + 8) (tos id fr ttl pr src dst : Int) (io : List Int) (w : World)
    (HP : Hid (∀ W, Calls Try.prog 11 #[.agg ps] W fun e w' => ∃ a cap, e = .returned (.tuple #[.slice a n cap, .int .i64 0]) ∧ RB W w' (.slice a n cap) n B))
    (HV : Hid (Eth.headV B = Eth.ethV d s tg tag et 18 0))
    (HM : Hid (Ip.MOk (B.drop 18) ((n - 18 : Nat) : Int) m)) (HT : Hid ((B.drop 18).getD 2 0 * 256 + (B.drop 18).getD 3 0 = (T : Int))) (HI : Hid (Ip.ipF (B.drop 18) m = .agg #[.int .i64 tos, .int .i64 id, .int .i64 fr, .int .i64 ttl, .int .i64 pr, .int .u32 src, .int .u32 dst, .string (strOfNums io)])) :
    Calls Try.prog 37 #[.agg ps] w fun e w' => e = .returned (.tuple #[.string (strOfNums ((B.drop 18).take T)), .bool true]) ∧ Below w.heap.size w w' := by
  have HS : Hid (ps.size = 36) := hs
  have FB : Hid _ := hB
  clear hs hB
  go_enter Try.func37, Try.ntmps37
  go_wp2_with (refine wpList_load_row rfl 34 _ rfl (w.heap.size) rfl 34 ps (0, 0) _ (heap_alloc_new w _) Try.underlying34 rfl (info36 HS.out) ?_)
  refine (HP.out _).mono ?_
  rintro e W1 ⟨a, cap, rfl, r1⟩
  have hcc := own_caps r1.own
  obtain ⟨g, rfl, hg1, hg2⟩ := own_some r1.own (by omega)
  have H1 : Hid (BS W1 (some ⟨g, 0, none⟩) n B) := own_bs r1.own FB.out (by omega)
  have B1 : Hid (Below w.heap.size w W1) := (below1 w _).trans (r1.bel.mono (by simp))
  clear r1 HP hg1 hg2
  go_wp2_with fail
  refine (Eth.head_any cap H1.out hcc.1 hcc.2).mono ?_
  rw [HV.out]
  unfold Eth.ethV
  rintro e W2 ⟨rfl, hb⟩
  have B2 : Hid (Below w.heap.size w W2) := B1.out.trans (hb.mono B1.out.size)
  have H2 : Hid (BS W2 (some ⟨g, 0, none⟩) n B) := H1.out.below hb
  clear hb B1 H1
  have hc1 : 18 ≤ n := by omega
  have hc2 : (18 : Int) ≤ n := by omega
  have hc3 : (18 : Int) ≤ cap := by omega
  have hc4 : (n : Int) ≤ cap := by omega
  have hc5 : ¬ cap = 18 := by omega
  go_wp2_with fail
  have B3 : Hid (Below w.heap.size w (W2.alloc (.cells #[.int .u64 d, .int .u64 s, .bool tg, .int .i64 tag, .int .i64 et] 25))) := B2.out.alloc B2.out.size _
  have H3 : Hid (BS (W2.alloc (.cells #[.int .u64 d, .int .u64 s, .bool tg, .int .i64 tag, .int .i64 et] 25)) (some ⟨g, 0, none⟩) n B) := H2.out.below ((Below.refl _ _).alloc (Nat.le_refl _) _)
  obtain ⟨W3, hW⟩ : ∃ V, W2.alloc (.cells #[.int .u64 d, .int .u64 s, .bool tg, .int .i64 tag, .int .i64 et] 25) = V := ⟨_, rfl⟩
  rw [hW] at B3 H3 ⊢
  clear hW B2 H2
  have H3d : BS W3 (some ⟨g, 0 + 18, none⟩) (n - 18) (B.drop 18) := H3.out.drop (by omega) 18 (by omega)
  refine ((Ip.decode_any W3 (some ⟨g, 0 + 18, none⟩) (n - 18) (cap - 18) (B.drop 18) H3d (by omega)).2 m HM.out).mono ?_
  rw [HT.out, HI.out]
  rintro e W4 ⟨rfl, hb⟩
  have B4 : Hid (Below w.heap.size w W4) := B3.out.trans (hb.mono B3.out.size)
  have H4 : Hid (BS W4 (some ⟨g, 0, none⟩) n B) := H3.out.below hb
  clear hb B3 H3 H3d
  have B5 : Hid (Below w.heap.size w (W4.alloc (.cells #[.int .i64 tos, .int .i64 id, .int .i64 fr, .int .i64 ttl, .int .i64 pr, .int .u32 src, .int .u32 dst, .string (strOfNums io)] 30))) := B4.out.alloc B4.out.size _
  have H5 : Hid (BS (W4.alloc (.cells #[.int .i64 tos, .int .i64 id, .int .i64 fr, .int .i64 ttl, .int .i64 pr, .int .u32 src, .int .u32 dst, .string (strOfNums io)] 30)) (some ⟨g, 0, none⟩) n B) := H4.out.below ((Below.refl _ _).alloc (Nat.le_refl _) _)
  have w1 : IntKind.i64.wrap ((m : Int) + 8) = (m : Int) + 8 := by simp [IntKind.wrap, IntKind.bits, IntKind.signed]; omega
  have w2 : IntKind.i64.wrap (18 + ((m : Int) + 8)) = 18 + ((m : Int) + 8) := by simp [IntKind.wrap, IntKind.bits, IntKind.signed]; omega
  have w3 : IntKind.i64.wrap (18 + (T : Int)) = 18 + (T : Int) := by simp [IntKind.wrap, IntKind.bits, IntKind.signed]; omega
  have hcI : (T : Int) < (m : Int) + 8 := by omega
  have hcN : (18 : Int) + (T : Int) ≤ cap := by omega
  have hd5 : BS (W4.alloc (.cells #[.int .i64 tos, .int .i64 id, .int .i64 fr, .int .i64 ttl, .int .i64 pr, .int .u32 src, .int .u32 dst, .string (strOfNums io)] 30)) (some ⟨g, 0 + 18, none⟩) T ((B.drop 18).take T) := (H5.out.drop (by omega) 18 (by omega)).take T (by omega)
  have cv := run_conv_bs (cap - 18) hd5 22 9 5 Try.underlying22 Try.underlying5 Try.underlying9
  clear hd5 B4 H4
  go_wp2
  go_ret2
  exact ⟨rfl, B5.out⟩
set_option maxHeartbeats 4000000 in
theorem quoteNo (ps : Array Value) (hs : ps.size = 36) (f : Int) (hf : (f != 0) = true) (w : World)
    (HP : Hid (∀ W, Calls Try.prog 11 #[.agg ps] W fun e w' => e = .returned (.tuple #[.slice none 0 0, .int .i64 f]) ∧ Below W.heap.size W w')) :
    Calls Try.prog 37 #[.agg ps] w fun e w' => e = .returned (.tuple #[.string ⟨#[]⟩, .bool false]) ∧ Below w.heap.size w w' := by
  have HS : Hid (ps.size = 36) := hs
  clear hs
  go_enter Try.func37, Try.ntmps37
  go_wp2_with (refine wpList_load_row rfl 34 _ rfl (w.heap.size) rfl 34 ps (0, 0) _ (heap_alloc_new w _) Try.underlying34 rfl (info36 HS.out) ?_)
  refine (HP.out _).mono ?_
  rintro e W1 ⟨rfl, hb⟩
  have B1 : Hid (Below w.heap.size w W1) := (below1 w _).trans (hb.mono (by simp))
  clear hb HP
  go_wp2
  go_ret2
  exact ⟨rfl, B1.out⟩
end Go.Proofs.Ytpiokeidcnbmbaa

namespace Go.Proofs.Ytpiokeidcnbmbaa
open Go.RowKit
set_option maxRecDepth 20000
set_option linter.unusedSimpArgs false
set_option maxHeartbeats 4000000 in
theorem PkR.error0 (x : PkR) (mac ip kind code : Int) (w : World)
    (HM : Hid (∀ W, Calls Try.prog 36 #[.agg x.ps] W fun e w' => e = .returned (.bool false) ∧ Below W.heap.size W w')) :
    Calls Try.prog 13 #[.agg x.ps, .int .u64 mac, .int .u32 ip, .int .i64 kind, .int .i64 code] w fun e w' => e = .returned (.tuple #[.agg zeroPk, .bool false]) ∧ Below w.heap.size w w' := by
  have G1 : Hid _ := PkR.get1 x
  have G17 : Hid _ := PkR.get17 x
  have GE : Hid _ := PkR.exE x
  have HS : Hid (x.ps.size = 36) := PkR.size x
  obtain ⟨ps, hps⟩ : ∃ p, x.ps = p := ⟨_, rfl⟩
  rw [hps] at G1 G17 GE HS HM ⊢
  clear hps
  have L1 : Hid _ := Ca.two_first w (.cells ps 34) (.cells zeroPk 34)
  have L2 : Hid _ := Ca.two_last w (.cells ps 34) (.cells zeroPk 34)
  have LB : Hid _ := below2 w (.cells ps 34) (.cells zeroPk 34)
  go_enter Try.func13, Try.ntmps13
  go_wp2_with (refine wpList_load_row rfl 34 _ rfl (w.heap.size) rfl 34 ps (0, 0) _ L1.out Try.underlying34 rfl (info36 HS.out) ?_)
  refine (HM.out _).mono ?_
  rintro e W1 ⟨rfl, hb⟩
  have B_W1 : Hid (Below w.heap.size w W1) := LB.out.trans (hb.mono (by first | exact LB.out.size | (simp; omega)))
  have R1_W1 : Hid (W1.heap[w.heap.size]? = some (.cells ps 34 (0, 0))) := (hb.block _ (Ca.lt_of_heap L1.out)).trans L1.out
  have R2_W1 : Hid (W1.heap[w.heap.size + 1]? = some (.cells zeroPk 34 (0, 0))) := (hb.block _ (Ca.lt_of_heap L2.out)).trans L2.out
  clear hb L1 L2 LB HM
  clear R1_W1
  go_wp2_with (first
    | refine Ca.wpList_build_as rfl 34 _ rfl zeroPk (by rw [List.map_toArray]; show Try.prog.built 34 [] = _; kernel_rfl) ?_
    | refine Ca.wpList_store_row rfl 34 _ _ rfl (w.heap.size + 1) zeroPk zeroPk 34 rfl rfl R2_W1.out (info36 zsize) rfl one36 ?_
    | fail)
  intro W9 y1 y2 y3 y4
  go_wp2
  exact bodyPost_ret (results_pk (p := 10) (u := 11) rfl _ _ (w.heap.size + 1) zeroPk rfl y1 zsize) rfl ⟨rfl, B_W1.out.trans (y4.mono (by omega))⟩
set_option maxHeartbeats 4000000 in
theorem PkR.error1 (x : PkR) (mac ip kind code : Int) (w : World)
    (HM : Hid (∀ W, Calls Try.prog 36 #[.agg x.ps] W fun e w' => e = .returned (.bool true) ∧ Below W.heap.size W w'))
    (HQ : Hid (∀ W, Calls Try.prog 37 #[.agg x.ps] W fun e w' => e = .returned (.tuple #[.string ⟨#[]⟩, .bool false]) ∧ Below W.heap.size W w')) :
    Calls Try.prog 13 #[.agg x.ps, .int .u64 mac, .int .u32 ip, .int .i64 kind, .int .i64 code] w fun e w' => e = .returned (.tuple #[.agg zeroPk, .bool false]) ∧ Below w.heap.size w w' := by
  have G1 : Hid _ := PkR.get1 x
  have G17 : Hid _ := PkR.get17 x
  have GE : Hid _ := PkR.exE x
  have HS : Hid (x.ps.size = 36) := PkR.size x
  obtain ⟨ps, hps⟩ : ∃ p, x.ps = p := ⟨_, rfl⟩
  rw [hps] at G1 G17 GE HS HM HQ ⊢
  clear hps
  have L1 : Hid _ := Ca.two_first w (.cells ps 34) (.cells zeroPk 34)
  have L2 : Hid _ := Ca.two_last w (.cells ps 34) (.cells zeroPk 34)
  have LB : Hid _ := below2 w (.cells ps 34) (.cells zeroPk 34)
  go_enter Try.func13, Try.ntmps13
  go_wp2_with (refine wpList_load_row rfl 34 _ rfl (w.heap.size) rfl 34 ps (0, 0) _ L1.out Try.underlying34 rfl (info36 HS.out) ?_)
  refine (HM.out _).mono ?_
  rintro e W1 ⟨rfl, hb⟩
  have B_W1 : Hid (Below w.heap.size w W1) := LB.out.trans (hb.mono (by first | exact LB.out.size | (simp; omega)))
  have R1_W1 : Hid (W1.heap[w.heap.size]? = some (.cells ps 34 (0, 0))) := (hb.block _ (Ca.lt_of_heap L1.out)).trans L1.out
  have R2_W1 : Hid (W1.heap[w.heap.size + 1]? = some (.cells zeroPk 34 (0, 0))) := (hb.block _ (Ca.lt_of_heap L2.out)).trans L2.out
  clear hb L1 L2 LB HM
  go_wp2_with (refine wpList_load_row rfl 34 _ rfl (w.heap.size) rfl 34 ps (0, 0) _ R1_W1.out Try.underlying34 rfl (info36 HS.out) ?_)
  refine (HQ.out _).mono ?_
  rintro e W2 ⟨rfl, hb⟩
  have B_W2 : Hid (Below w.heap.size w W2) := B_W1.out.trans (hb.mono (by first | exact B_W1.out.size | (simp; omega)))
  have R1_W2 : Hid (W2.heap[w.heap.size]? = some (.cells ps 34 (0, 0))) := (hb.block _ (Ca.lt_of_heap R1_W1.out)).trans R1_W1.out
  have R2_W2 : Hid (W2.heap[w.heap.size + 1]? = some (.cells zeroPk 34 (0, 0))) := (hb.block _ (Ca.lt_of_heap R2_W1.out)).trans R2_W1.out
  clear hb B_W1 R1_W1 R2_W1 HQ
  clear R1_W2
  go_wp2_with (first
    | refine Ca.wpList_build_as rfl 34 _ rfl zeroPk (by rw [List.map_toArray]; show Try.prog.built 34 [] = _; kernel_rfl) ?_
    | refine Ca.wpList_store_row rfl 34 _ _ rfl (w.heap.size + 1) zeroPk zeroPk 34 rfl rfl R2_W2.out (info36 zsize) rfl one36 ?_
    | fail)
  intro W9 y1 y2 y3 y4
  go_wp2
  exact bodyPost_ret (results_pk (p := 10) (u := 11) rfl _ _ (w.heap.size + 1) zeroPk rfl y1 zsize) rfl ⟨rfl, B_W2.out.trans (y4.mono (by omega))⟩
/-- What a router answers. -/
def PkR.errR (x : PkR) (mm ip kk cc : Int) (Q : List Int) : PkR := { zeroPkR with d := x.s, s := mm, tg := x.tg, tag := x.tag, et := x.et, ii := true, ttl := 64, pr := 1, src := ip, dst := x.src, l := { zeroR with k := 1, ty := kk, co := cc, ds := Q } }
def PkR.err1 (x : PkR) : PkR := { zeroPkR with d := x.d, s := x.s, tg := x.tg, tag := x.tag, et := x.et, ii := true }
theorem PkR.one (x : PkR) : x.ps.all (·.oneCell') = true := by kernel_rfl
set_option maxHeartbeats 4000000 in
theorem PkR.error2 (x : PkR) (mac ip kind code : Int) (w : World) (mm kk cc : Int) (Q : List Int) (hm : bits .and .u64 mac 281474976710655 = mm) (hk : bits .and .i64 kind 255 = kk) (hc : bits .and .i64 code 255 = cc)
    (HM : Hid (∀ W, Calls Try.prog 36 #[.agg x.ps] W fun e w' => e = .returned (.bool true) ∧ Below W.heap.size W w'))
    (HQ : Hid (∀ W, Calls Try.prog 37 #[.agg x.ps] W fun e w' => e = .returned (.tuple #[.string (strOfNums Q), .bool true]) ∧ Below W.heap.size W w')) :
    Calls Try.prog 13 #[.agg x.ps, .int .u64 mac, .int .u32 ip, .int .i64 kind, .int .i64 code] w fun e w' => e = .returned (.tuple #[.agg (x.errR mm ip kk cc Q).ps, .bool true]) ∧ Below w.heap.size w w' := by
  obtain ⟨o1, ho1⟩ : ∃ p, x.err1.ps = p := ⟨_, rfl⟩
  have Zo1 : Hid (o1.size = 36) := by show _ = _; rw [← ho1]; exact PkR.size _
  have Oo1 : Hid (o1.all (·.oneCell') = true) := by show _ = _; rw [← ho1]; exact PkR.one _
  have hbld : Try.prog.built 34 [(0, .agg #[.int .u64 x.d, .int .u64 x.s, .bool x.tg, .int .i64 x.tag, .int .i64 x.et]), (3, .bool true)] = some o1 := by rw [← ho1]; kernel_rfl
  have D0 : Hid (o1[0]? = some (.int .u64 x.d)) := by show _ = _; rw [← ho1]; rfl
  have D1 : Hid (o1[1]? = some (.int .u64 x.s)) := by show _ = _; rw [← ho1]; rfl
  obtain ⟨o2, ho2⟩ : ∃ p, (o1.setIfInBounds 0 (.int .u64 x.s)).setIfInBounds 1 (.int .u64 mm) = p := ⟨_, rfl⟩
  have Eo2 : Hid ((o1.setIfInBounds 0 (.int .u64 x.s)).setIfInBounds 1 (.int .u64 mm) = o2) := ho2
  have Zo2 : Hid (o2.size = 36) := by show _ = _; rw [← ho2, Array.size_setIfInBounds, Array.size_setIfInBounds]; exact Zo1.out
  obtain ⟨o3, ho3⟩ : ∃ p, Ca.putC o2 12 (#[.int .i64 0, .int .i64 0, .int .i64 0, .int .i64 64, .int .i64 1, .int .u32 ip, .int .u32 x.src, .string ⟨#[]⟩] : Array Value).toList = p := ⟨_, rfl⟩
  have Eo3 : Hid (Ca.putC o2 12 (#[.int .i64 0, .int .i64 0, .int .i64 0, .int .i64 64, .int .i64 1, .int .u32 ip, .int .u32 x.src, .string ⟨#[]⟩] : Array Value).toList = o3) := ho3
  have Zo3 : Hid (o3.size = 36) := by show _ = _; rw [← ho3, Ca.putC_size]; exact Zo2.out
  obtain ⟨o4, ho4⟩ : ∃ p, Ca.putC o3 20 (#[.int .i64 1, .int .i64 kk, .int .i64 cc, .int .u32 0, .int .i64 0, .int .i64 0, .bool false, .int .u32 0, .int .u32 0, .int .i64 0, .int .i64 0, .int .i64 0, .string ⟨#[]⟩, .string (strOfNums Q)] : Array Value).toList = p := ⟨_, rfl⟩
  have Eo4 : Hid (Ca.putC o3 20 (#[.int .i64 1, .int .i64 kk, .int .i64 cc, .int .u32 0, .int .i64 0, .int .i64 0, .bool false, .int .u32 0, .int .u32 0, .int .i64 0, .int .i64 0, .int .i64 0, .string ⟨#[]⟩, .string (strOfNums Q)] : Array Value).toList = o4) := ho4
  have Zo4 : Hid (o4.size = 36) := by show _ = _; rw [← ho4, Ca.putC_size]; exact Zo3.out
  have EY : Hid (o4 = (x.errR mm ip kk cc Q).ps) := by show _ = _; rw [← ho4, ← ho3, ← ho2, ← ho1]; kernel_rfl
  have Oo4 : Hid (o4.all (·.oneCell') = true) := by show _ = _; rw [EY.out]; exact PkR.one _
  clear ho1 ho2 ho3 ho4
  have G1 : Hid _ := PkR.get1 x
  have G17 : Hid _ := PkR.get17 x
  have GE : Hid _ := PkR.exE x
  have HS : Hid (x.ps.size = 36) := PkR.size x
  obtain ⟨ps, hps⟩ : ∃ p, x.ps = p := ⟨_, rfl⟩
  rw [hps] at G1 G17 GE HS HM HQ ⊢
  clear hps
  have L1 : Hid _ := Ca.two_first w (.cells ps 34) (.cells zeroPk 34)
  have L2 : Hid _ := Ca.two_last w (.cells ps 34) (.cells zeroPk 34)
  have LB : Hid _ := below2 w (.cells ps 34) (.cells zeroPk 34)
  go_enter Try.func13, Try.ntmps13
  go_wp2_with (refine wpList_load_row rfl 34 _ rfl (w.heap.size) rfl 34 ps (0, 0) _ L1.out Try.underlying34 rfl (info36 HS.out) ?_)
  refine (HM.out _).mono ?_
  rintro e W1 ⟨rfl, hb⟩
  have B_W1 : Hid (Below w.heap.size w W1) := LB.out.trans (hb.mono (by first | exact LB.out.size | (simp; omega)))
  have R1_W1 : Hid (W1.heap[w.heap.size]? = some (.cells ps 34 (0, 0))) := (hb.block _ (Ca.lt_of_heap L1.out)).trans L1.out
  have R2_W1 : Hid (W1.heap[w.heap.size + 1]? = some (.cells zeroPk 34 (0, 0))) := (hb.block _ (Ca.lt_of_heap L2.out)).trans L2.out
  clear hb L1 L2 LB HM
  go_wp2_with (refine wpList_load_row rfl 34 _ rfl (w.heap.size) rfl 34 ps (0, 0) _ R1_W1.out Try.underlying34 rfl (info36 HS.out) ?_)
  refine (HQ.out _).mono ?_
  rintro e W2 ⟨rfl, hb⟩
  have B_W2 : Hid (Below w.heap.size w W2) := B_W1.out.trans (hb.mono (by first | exact B_W1.out.size | (simp; omega)))
  have R1_W2 : Hid (W2.heap[w.heap.size]? = some (.cells ps 34 (0, 0))) := (hb.block _ (Ca.lt_of_heap R1_W1.out)).trans R1_W1.out
  have R2_W2 : Hid (W2.heap[w.heap.size + 1]? = some (.cells zeroPk 34 (0, 0))) := (hb.block _ (Ca.lt_of_heap R2_W1.out)).trans R2_W1.out
  clear hb B_W1 R1_W1 R2_W1 HQ
  go_wp2_with (first
    | (refine Ca.wpList_load_at rfl 25 _ rfl w.heap.size 0 5 rfl ps 34 _ R1_W2.out Try.underlying25 rfl (by rw [GE.out]; rfl) (by kernel_rfl) ?_; rw [GE.out]; refine Ca.wpList_build_as rfl 34 _ rfl o1 (by rw [List.map_toArray]; show Try.prog.built 34 [(0, .agg #[.int .u64 x.d, .int .u64 x.s, .bool x.tg, .int .i64 x.tag, .int .i64 x.et]), (3, .bool true)] = _; exact hbld) ?_)
    | (refine Ca.wpList_store_new rfl 34 _ _ rfl zeroPk o1 _ rfl rfl rfl (info36 Zo1.out) (Eq.trans (b := 36) rfl Zo1.out.symm) Oo1.out ?_; refine StopP.out ?_)
    | fail)
  have hb3 := below1 W2 (.cells o1 34)
  have B_W3 : Hid (Below w.heap.size w (W2.alloc (.cells o1 34))) := B_W2.out.trans (hb3.mono B_W2.out.size)
  have R1_W3 : Hid ((W2.alloc (.cells o1 34)).heap[w.heap.size]? = some (.cells ps 34 (0, 0))) := (hb3.block _ (Ca.lt_of_heap R1_W2.out)).trans R1_W2.out
  have R2_W3 : Hid ((W2.alloc (.cells o1 34)).heap[w.heap.size + 1]? = some (.cells zeroPk 34 (0, 0))) := (hb3.block _ (Ca.lt_of_heap R2_W2.out)).trans R2_W2.out
  have R3_W3 : Hid ((W2.alloc (.cells o1 34)).heap[W2.heap.size]? = some (.cells o1 34 (0, 0))) := heap_alloc_new W2 _
  have hg2 : Hid (w.heap.size + 1 < W2.heap.size) := Ca.lt_of_heap R2_W2.out
  obtain ⟨W3, hW⟩ : ∃ V, (W2.alloc (.cells o1 34)) = V := ⟨_, rfl⟩
  obtain ⟨g, hg⟩ : ∃ n, W2.heap.size = n := ⟨_, rfl⟩
  rw [hW] at B_W3 R1_W3 R2_W3 R3_W3 ⊢
  rw [hg] at R3_W3 hg2 ⊢
  have hgg := hg2.out
  clear hW hg hb3 B_W2 R1_W2 R2_W2 hbld
  refine StopP.mk ?_
  have c1p := (Ca.cell_row R1_W3.out 1).trans G1.out
  have c0 := (Ca.cell_row R3_W3.out 0).trans D0.out
  have c1 := (Ca.cell_row R3_W3.out 1).trans D1.out
  have f0 := frozen_of_row W3 _ 0 _ _ R3_W3.out
  have f1 := frozen_of_row W3 _ 1 _ _ R3_W3.out
  have hne1 : ¬ w.heap.size = g := by omega
  have hne2 : ¬ g = w.heap.size := by omega
  go_wp2_with (show wpList _ _ _ ({ dst := some 40, op := _, type := _, pos := _, after := _, guard := _ } :: _) _ _; refine StopP.out ?_)
  clear c1p c0 c1 f0 f1
  have B_W4 : Hid (Below w.heap.size w ((W3.setCell ⟨g, 0, none⟩ (.int .u64 x.s)).setCell ⟨g, 1, none⟩ (.int .u64 mm))) := (B_W3.out.setCell (show w.heap.size ≤ g by omega) _).setCell (show w.heap.size ≤ g by omega) _
  have R1_W4 : Hid (((W3.setCell ⟨g, 0, none⟩ (.int .u64 x.s)).setCell ⟨g, 1, none⟩ (.int .u64 mm)).heap[w.heap.size]? = some (.cells ps 34 (0, 0))) := ((Below.heap_setCell _ _ _ _ (show w.heap.size ≠ g by omega)).trans ((Below.heap_setCell _ _ _ _ (show w.heap.size ≠ g by omega)).trans R1_W3.out))
  have R2_W4 : Hid (((W3.setCell ⟨g, 0, none⟩ (.int .u64 x.s)).setCell ⟨g, 1, none⟩ (.int .u64 mm)).heap[w.heap.size + 1]? = some (.cells zeroPk 34 (0, 0))) := ((Below.heap_setCell _ _ _ _ (show w.heap.size + 1 ≠ g by omega)).trans ((Below.heap_setCell _ _ _ _ (show w.heap.size + 1 ≠ g by omega)).trans R2_W3.out))
  have R3_W4 : Hid (((W3.setCell ⟨g, 0, none⟩ (.int .u64 x.s)).setCell ⟨g, 1, none⟩ (.int .u64 mm)).heap[g]? = some (.cells o2 34 (0, 0))) := by show _ = _; rw [← Eo2.out]; exact Ca.row_setCell (Ca.row_setCell R3_W3.out 0 _) 1 _
  obtain ⟨W4, hW⟩ : ∃ V, ((W3.setCell ⟨g, 0, none⟩ (.int .u64 x.s)).setCell ⟨g, 1, none⟩ (.int .u64 mm)) = V := ⟨_, rfl⟩
  rw [hW] at B_W4 R1_W4 R2_W4 R3_W4 ⊢
  clear hW B_W3 R1_W3 R2_W3 R3_W3
  refine StopP.mk ?_
  have c17 := (Ca.cell_row R1_W4.out 17).trans G17.out
  have hs_W5 : 12 + (#[.int .i64 0, .int .i64 0, .int .i64 0, .int .i64 64, .int .i64 1, .int .u32 ip, .int .u32 x.src, .string ⟨#[]⟩] : Array Value).size ≤ o2.size := by rw [Zo2.out]; exact Nat.le_of_ble_eq_true (by kernel_rfl)
  go_wp2_with (first
    | refine Ca.wpList_store_at rfl 30 _ _ rfl g 12 o2 #[.int .i64 0, .int .i64 0, .int .i64 0, .int .i64 64, .int .i64 1, .int .u32 ip, .int .u32 x.src, .string ⟨#[]⟩] 34 rfl rfl R3_W4.out (by kernel_rfl) hs_W5 (by kernel_rfl) ?_
    | fail)
  intro W5 y1 y2 y3 y4
  have B_W5 : Hid (Below w.heap.size w W5) := B_W4.out.trans (y4.mono (by omega))
  have R1_W5 : Hid (W5.heap[w.heap.size]? = some (.cells ps 34 (0, 0))) := (y2 _ (by omega)).trans R1_W4.out
  have R2_W5 : Hid (W5.heap[w.heap.size + 1]? = some (.cells zeroPk 34 (0, 0))) := (y2 _ (by omega)).trans R2_W4.out
  have R3_W5 : Hid (W5.heap[g]? = some (.cells o3 34 (0, 0))) := by show _ = _; rw [← Eo3.out]; exact y1
  clear y1 y2 y3 y4 B_W4 R1_W4 R2_W4 R3_W4 hs_W5
  clear c17
  have hs_W6 : 20 + (#[.int .i64 1, .int .i64 kk, .int .i64 cc, .int .u32 0, .int .i64 0, .int .i64 0, .bool false, .int .u32 0, .int .u32 0, .int .i64 0, .int .i64 0, .int .i64 0, .string ⟨#[]⟩, .string (strOfNums Q)] : Array Value).size ≤ o3.size := by rw [Zo3.out]; exact Nat.le_of_ble_eq_true (by kernel_rfl)
  go_wp2_with (first
    | refine Ca.wpList_store_at rfl 32 _ _ rfl g 20 o3 #[.int .i64 1, .int .i64 kk, .int .i64 cc, .int .u32 0, .int .i64 0, .int .i64 0, .bool false, .int .u32 0, .int .u32 0, .int .i64 0, .int .i64 0, .int .i64 0, .string ⟨#[]⟩, .string (strOfNums Q)] 34 rfl rfl R3_W5.out (by kernel_rfl) hs_W6 (by kernel_rfl) ?_
    | fail)
  intro W6 y1 y2 y3 y4
  have B_W6 : Hid (Below w.heap.size w W6) := B_W5.out.trans (y4.mono (by omega))
  have R1_W6 : Hid (W6.heap[w.heap.size]? = some (.cells ps 34 (0, 0))) := (y2 _ (by omega)).trans R1_W5.out
  have R2_W6 : Hid (W6.heap[w.heap.size + 1]? = some (.cells zeroPk 34 (0, 0))) := (y2 _ (by omega)).trans R2_W5.out
  have R3_W6 : Hid (W6.heap[g]? = some (.cells o4 34 (0, 0))) := by show _ = _; rw [← Eo4.out]; exact y1
  clear y1 y2 y3 y4 B_W5 R1_W5 R2_W5 R3_W5 hs_W6
  go_wp2_with (first
    | refine wpList_load_row rfl 34 _ rfl g rfl 34 o4 (0, 0) _ R3_W6.out Try.underlying34 rfl (info36 Zo4.out) ?_
    | refine Ca.wpList_store_row rfl 34 _ _ rfl (w.heap.size + 1) zeroPk o4 34 rfl rfl R2_W6.out (info36 Zo4.out) (Eq.trans (b := 36) rfl Zo4.out.symm) Oo4.out ?_
    | fail)
  intro W9 y1 y2 y3 y4
  go_wp2
  rw [← EY.out]
  exact bodyPost_ret (results_pk (p := 10) (u := 11) rfl _ _ (w.heap.size + 1) o4 rfl y1 Zo4.out) rfl ⟨rfl, B_W6.out.trans (y4.mono (by omega))⟩
end Go.Proofs.Ytpiokeidcnbmbaa

namespace Go.Proofs.Ytpiokeidcnbmbaa
open Go.RowKit
set_option maxRecDepth 20000
theorem PkR.head_len (x : PkR) : x.head.length = if x.tg = true then 18 else 14 := headBytes_len _ _ _ _ _
theorem PkR.et_of {x : PkR} (h : x = x.own) (hi : x.ii = true) : x.et = 2048 := by
  by_cases e1 : x.et = 2054
  · have := (PkR.flagsA h e1).2
    rw [hi] at this; cases this
  by_cases e2 : x.et = 2048
  · exact e2
  · have := (PkR.flagsP h e1 e2).2.1
    rw [hi] at this; cases this
theorem PkR.innerI {x : PkR} (e : x.et = 2048) : x.inner = x.ipb ++ x.l.enc x.src x.dst := by unfold PkR.inner; rw [if_neg (by omega), if_pos e]
theorem PkR.innerI_len {x : PkR} (e : x.et = 2048) : x.inner.length = 20 + x.io.length + x.l.body.length := by rw [PkR.innerI e, List.length_append, PkR.ipb_len, L4R.enc_len]
theorem PkR.bytesI {x : PkR} (h : x.Fits) (e : x.et = 2048) : x.bytes = x.head ++ (x.inner ++ x.pd) := by
  unfold PkR.bytes
  rw [(PkR.flagsI h.own e).2.2.1]; simp
theorem PkR.dropI {x : PkR} (h : x.Fits) (e : x.et = 2048) (A : Nat) (hA : x.head.length = A) : x.bytes.drop A = x.inner ++ x.pd := by
  rw [PkR.bytesI h e, List.drop_append_of_le_length (by omega), List.drop_of_length_le (by omega)]; rfl
theorem PkR.headV {x : PkR} (hx : x.Fine) (h : x.Fits) (hl : x.bytes.length ≤ 9018) (A : Nat) (hA : x.head.length = A) : Eth.headV x.bytes = Eth.ethV x.d x.s x.tg x.tag x.et A 0 := by
  have hb : x.bytes = Eth.headBytes x.d x.s x.tg x.tag x.et ++ (x.inner ++ x.bd ++ x.pd) := by unfold PkR.bytes PkR.head; simp
  have hn : x.bytes.length = x.head.length + (x.inner ++ x.bd ++ x.pd).length := by rw [hb, List.length_append]; rfl
  have := Eth.head_back x.d x.s x.tg x.tag x.et (x.inner ++ x.bd ++ x.pd) hx.d.1 hx.s.1 h.head (by have e1 : (Eth.headBytes x.d x.s x.tg x.tag x.et).length = x.head.length := rfl; omega)
  rw [← hb] at this
  rw [this, ← hA]; rfl
theorem PkR.mok {x : PkR} (hx : x.Fine) (h : x.Fits) (e : x.et = 2048) (A : Nat) (hA : x.head.length = A) : Ip.MOk (x.bytes.drop A) ((x.bytes.length - A : Nat) : Int) (20 + x.io.length) := by
  have hf := Ip.encOk_yes (h.ip e)
  have hn : x.bytes.length = x.head.length + (x.inner.length + x.pd.length) := by rw [PkR.bytesI h e, List.length_append, List.length_append]
  have := PkR.innerI_len e
  rw [PkR.dropI h e A hA, PkR.innerI e, List.append_assoc]
  exact Ip.hb_msr _ _ hf hx.src hx.dst hx.io (by omega)
theorem PkR.total {x : PkR} (h : x.Fits) (e : x.et = 2048) (A : Nat) (hA : x.head.length = A) : (x.bytes.drop A).getD 2 0 * 256 + (x.bytes.drop A).getD 3 0 = ((20 + x.io.length + x.l.body.length : Nat) : Int) := by
  rw [PkR.dropI h e A hA, PkR.innerI e, List.append_assoc]
  have := Ip.ipB_total x.tos x.id x.fr x.ttl x.pr x.src x.dst x.io x.l.body.length (x.l.enc x.src x.dst ++ x.pd)
  rw [show x.ipb = Ip.ipB x.tos x.id x.fr x.ttl x.pr x.src x.dst x.io x.l.body.length from rfl, this]
  omega
theorem PkR.ipRead {x : PkR} (h : x.Fits) (e : x.et = 2048) (A : Nat) (hA : x.head.length = A) : Ip.ipF (x.bytes.drop A) (20 + x.io.length) = .agg #[.int .i64 x.tos, .int .i64 x.id, .int .i64 x.fr, .int .i64 x.ttl, .int .i64 x.pr, .int .u32 x.src, .int .u32 x.dst, .string (strOfNums x.io)] := by
  rw [PkR.dropI h e A hA, PkR.innerI e, List.append_assoc]
  exact Ip.hb_read ..
def PkR.quoted (x : PkR) : List Int := x.inner.take (28 + x.io.length)
theorem PkR.quoted_len {x : PkR} (e : x.et = 2048) : x.quoted.length = min (28 + x.io.length) (20 + x.io.length + x.l.body.length) := by
  unfold PkR.quoted; rw [List.length_take, PkR.innerI_len e]
theorem PkR.quoted_cut {x : PkR} (h : x.Fits) (e : x.et = 2048) (A : Nat) (hA : x.head.length = A) (t : Nat) (ht : t = min (28 + x.io.length) (20 + x.io.length + x.l.body.length)) : (x.bytes.drop A).take t = x.quoted := by
  have hl := PkR.innerI_len e
  rw [PkR.dropI h e A hA, List.take_append_of_le_length (by omega)]
  unfold PkR.quoted
  by_cases c : 28 + x.io.length ≤ 20 + x.io.length + x.l.body.length
  · rw [show t = 28 + x.io.length by omega]
  · rw [List.take_of_length_le (by omega), List.take_of_length_le (by omega)]
theorem PkR.quoteAny {x : PkR} (hx : x.Fine) (h : x.Fits) (hl : x.bytes.length ≤ 9018) (e : x.et = 2048) (w : World) : Calls Try.prog 37 #[.agg x.ps] w fun e w' => e = .returned (.tuple #[.string (strOfNums x.quoted), .bool true]) ∧ Below w.heap.size w w' := by
  have hf := Ip.encOk_yes (h.ip e)
  have h4 := hf.most
  have hn : x.bytes.length = x.head.length + (x.inner.length + x.pd.length) := by rw [PkR.bytesI h e, List.length_append, List.length_append]
  have hi := PkR.innerI_len e
  have hh := x.head_len
  cases g : x.tg
  · have hA : x.head.length = 14 := by rw [hh, g]; rfl
    by_cases c : 20 + x.io.length + 8 ≤ 20 + x.io.length + x.l.body.length
    · have := quote14m x.ps (PkR.size x) x.bytes.length (20 + x.io.length) (20 + x.io.length + x.l.body.length) x.bytes (PkR.bytes_bd hx h) x.d x.s x.tag x.et x.tg (by omega) hl (by omega) (by omega) c x.tos x.id x.fr x.ttl x.pr x.src x.dst x.io w (fun W => PkR.printYes hx h hl W) (PkR.headV hx h hl 14 hA) (PkR.mok hx h e 14 hA) (PkR.total h e 14 hA) (PkR.ipRead h e 14 hA)
      rw [PkR.quoted_cut h e 14 hA _ (by omega)] at this
      exact this
    · have := quote14T x.ps (PkR.size x) x.bytes.length (20 + x.io.length) (20 + x.io.length + x.l.body.length) x.bytes (PkR.bytes_bd hx h) x.d x.s x.tag x.et x.tg (by omega) hl (by omega) (by omega) (by omega) x.tos x.id x.fr x.ttl x.pr x.src x.dst x.io w (fun W => PkR.printYes hx h hl W) (PkR.headV hx h hl 14 hA) (PkR.mok hx h e 14 hA) (PkR.total h e 14 hA) (PkR.ipRead h e 14 hA)
      rw [PkR.quoted_cut h e 14 hA _ (by omega)] at this
      exact this
  · have hA : x.head.length = 18 := by rw [hh, g]; rfl
    by_cases c : 20 + x.io.length + 8 ≤ 20 + x.io.length + x.l.body.length
    · have := quote18m x.ps (PkR.size x) x.bytes.length (20 + x.io.length) (20 + x.io.length + x.l.body.length) x.bytes (PkR.bytes_bd hx h) x.d x.s x.tag x.et x.tg (by omega) hl (by omega) (by omega) c x.tos x.id x.fr x.ttl x.pr x.src x.dst x.io w (fun W => PkR.printYes hx h hl W) (PkR.headV hx h hl 18 hA) (PkR.mok hx h e 18 hA) (PkR.total h e 18 hA) (PkR.ipRead h e 18 hA)
      rw [PkR.quoted_cut h e 18 hA _ (by omega)] at this
      exact this
    · have := quote18T x.ps (PkR.size x) x.bytes.length (20 + x.io.length) (20 + x.io.length + x.l.body.length) x.bytes (PkR.bytes_bd hx h) x.d x.s x.tag x.et x.tg (by omega) hl (by omega) (by omega) (by omega) x.tos x.id x.fr x.ttl x.pr x.src x.dst x.io w (fun W => PkR.printYes hx h hl W) (PkR.headV hx h hl 18 hA) (PkR.mok hx h e 18 hA) (PkR.total h e 18 hA) (PkR.ipRead h e 18 hA)
      rw [PkR.quoted_cut h e 18 hA _ (by omega)] at this
      exact this
/-- Is the fault of a packet told? -/
structure PkR.Told (x : PkR) : Prop where
  may : x.may = true
  fits : x.Fits
  len : x.bytes.length ≤ 9018
theorem PkR.Told.et {x : PkR} (h : x.Told) : x.et = 2048 := by
  refine PkR.et_of h.fits.own ?_
  have := h.may
  unfold PkR.may at this
  simp only [Bool.and_eq_true] at this
  exact this.1
theorem PkR.errorYes {x : PkR} (hx : x.Fine) (h : x.Told) (mac ip kind code mm kk cc : Int) (hm : bits .and .u64 mac 281474976710655 = mm) (hk : bits .and .i64 kind 255 = kk) (hc : bits .and .i64 code 255 = cc) (w : World) :
    Calls Try.prog 13 #[.agg x.ps, .int .u64 mac, .int .u32 ip, .int .i64 kind, .int .i64 code] w fun e w' => e = .returned (.tuple #[.agg (x.errR mm ip kk cc x.quoted).ps, .bool true]) ∧ Below w.heap.size w w' := by
  refine PkR.error2 x mac ip kind code w mm kk cc x.quoted hm hk hc (fun W => ?_) (fun W => PkR.quoteAny hx h.fits h.len h.et W)
  have := PkR.mayAny hx W
  rw [h.may] at this
  exact this
theorem PkR.errorNo {x : PkR} (hx : x.Fine) (h : ¬ x.Told) (mac ip kind code : Int) (w : World) :
    Calls Try.prog 13 #[.agg x.ps, .int .u64 mac, .int .u32 ip, .int .i64 kind, .int .i64 code] w fun e w' => e = .returned (.tuple #[.agg zeroPk, .bool false]) ∧ Below w.heap.size w w' := by
  cases hm : x.may
  · refine PkR.error0 x mac ip kind code w (fun W => ?_)
    have := PkR.mayAny hx W
    rw [hm] at this
    exact this
  · refine PkR.error1 x mac ip kind code w (fun W => ?_) (fun W => ?_)
    · have := PkR.mayAny hx W
      rw [hm] at this
      exact this
    by_cases hf : x.Fits
    · refine quoteNo x.ps (PkR.size x) 3 rfl W (fun V => PkR.printLong hx hf ?_ V)
      refine Nat.lt_of_not_le fun hl => h ⟨hm, hf, hl⟩
    · exact quoteNo x.ps (PkR.size x) 1 rfl W (fun V => PkR.printNo hx hf V)
end Go.Proofs.Ytpiokeidcnbmbaa

namespace Go.Proofs.Ytpiokeidcnbmbaa.Eth
open Go.RowKit
attribute [local go_sem ↓] Go.wp_at_zero Go.wp_at_succ

theorem rnum_at {w W : World} {b off n : Nat} {zs : List Int} (h : BS w (some ⟨b, off, none⟩) n zs) (hW : Below w.heap.size w W) (l s c : Nat) (hs : 0 < s) (hs6 : s ≤ 6) (hl : l + s ≤ n) :
    Calls Try.prog 51 #[.slice (some ⟨b, off + l, none⟩) s c] W fun e w' => e = .returned (.int .u64 (num ((zs.drop l).take s))) ∧ w' = W :=
  rnum_any c (((h.drop (by omega) l (by omega)).take s (by omega)).below hW) hs6
theorem rnum_at0 {w W : World} {b off n : Nat} {zs : List Int} (h : BS w (some ⟨b, off, none⟩) n zs) (hW : Below w.heap.size w W) (s c : Nat) (hs6 : s ≤ 6) (hl : s ≤ n) :
    Calls Try.prog 51 #[.slice (some ⟨b, off, none⟩) s c] W fun e w' => e = .returned (.int .u64 (num (zs.take s))) ∧ w' = W :=
  rnum_any c ((h.take s hl).below hW) hs6

set_option maxHeartbeats 2000000 in
theorem rhead_plain (w : World) (b off n cap : Nat) (zs : List Int) (h : BS w (some ⟨b, off, none⟩) n zs) (hcap : n ≤ cap) (hm : cap ≤ 9223372036854775807) (h14 : 14 ≤ n) (h9 : n ≤ 9018) (hT : num ((zs.drop 12).take 2) ≠ 33024) :
    Calls Try.prog 22 #[.slice (some ⟨b, off, none⟩) n cap] w fun e w' => e = .returned (ethV (num (zs.take 6)) (num ((zs.drop 6).take 6)) false 0 (num ((zs.drop 12).take 2)) 14 0) ∧ Below w.heap.size w w' := by
  have h1 : ¬ (9018 : Int) < n := by omega
  have h2 : ¬ (n : Int) < 14 := by omega
  have hT' : (num ((zs.drop 12).take 2) != 33024) = true := by simp [hT]
  have hTb := num_bd2 ((h.drop (by omega) 12 (by omega)).take 2 (by omega))
  have h3 : (14 : Int) ≤ cap := by omega
  have h6 : (6 : Int) ≤ cap := by omega
  have h12 : (12 : Int) ≤ cap := by omega
  have hc6 : ¬ cap = 6 := by omega
  have hc12 : ¬ cap = 12 := by omega
  have H : Hid (BS w (some ⟨b, off, none⟩) n zs) := h
  clear h hT
  have hS := below1 w (.cells #[.int .u64 0, .int .u64 0, .bool false, .int .i64 0, .int .i64 0] 25)
  go_enter Try.func22, Try.ntmps22
  go_wp2
  go_region_held3 (fun W => Below w.heap.size w W) (first | assumption | exact (below1 w _).drew | exact (below2 w _ _).drew | exact (below2 w _ _))
    (first
      | (go_at_call_of 51 (Value.slice (some ⟨b, off, none⟩) 6 cap); refine (rnum_at0 H.out ?_ _ _ (by omega) (by omega)).mono ?_; assumption; rintro e w1 ⟨rfl, rfl⟩)
      | (go_at_call 51; refine (rnum_at H.out ?_ _ _ _ (by omega) (by omega) (by omega)).mono ?_; assumption; rintro e w1 ⟨rfl, rfl⟩))
  all_goals
    go_wp2
    refine bodyPost_ret (v := ethV (num (zs.take 6)) (num ((zs.drop 6).take 6)) false 0 (num ((zs.drop 12).take 2)) 14 0) ?_ rfl ⟨rfl, (below2 w _ _).drew⟩
    simp [results, Try.results22, go_sem, ethV]
set_option maxHeartbeats 4000000 in
theorem rhead_short2 (w : World) (b off n cap : Nat) (zs : List Int) (h : BS w (some ⟨b, off, none⟩) n zs) (hcap : n ≤ cap) (hm : cap ≤ 9223372036854775807) (h14 : 14 ≤ n) (h9 : n < 18) (hT : num ((zs.drop 12).take 2) = 33024) :
    Calls Try.prog 22 #[.slice (some ⟨b, off, none⟩) n cap] w fun e w' => e = .returned (ethV 0 0 false 0 0 0 20) ∧ Below w.heap.size w w' := by
  have h1 : ¬ (9018 : Int) < n := by omega
  have h2 : ¬ (n : Int) < 14 := by omega
  have hTb := num_bd2 ((h.drop (by omega) 12 (by omega)).take 2 (by omega))
  have h3 : (14 : Int) ≤ cap := by omega
  have h6 : (6 : Int) ≤ cap := by omega
  have h12 : (12 : Int) ≤ cap := by omega
  have hc6 : ¬ cap = 6 := by omega
  have hc12 : ¬ cap = 12 := by omega
  have H : Hid (BS w (some ⟨b, off, none⟩) n zs) := h
  have hS := below1 w (.cells #[.int .u64 0, .int .u64 0, .bool false, .int .i64 0, .int .i64 0] 25)
  have hT' : (num ((zs.drop 12).take 2) != 33024) = false := by simp [hT]
  have h18 : (n : Int) < 18 := by omega
  clear h hT
  go_enter Try.func22, Try.ntmps22
  go_wp2
  go_region_held3 (fun W => Below w.heap.size w W) (first | assumption | exact (below1 w _).drew | exact (below2 w _ _).drew | exact (below2 w _ _) | exact (below2 w _ _).drew.drew)
    (first
      | (go_at_call_of 51 (Value.slice (some ⟨b, off, none⟩) 6 cap); refine (rnum_at0 H.out ?_ _ _ (by omega) (by omega)).mono ?_; assumption; rintro e w1 ⟨rfl, rfl⟩)
      | (go_at_call 51; refine (rnum_at H.out ?_ _ _ _ (by omega) (by omega) (by omega)).mono ?_; assumption; rintro e w1 ⟨rfl, rfl⟩))
  all_goals
    go_wp2
    refine bodyPost_ret (v := ethV 0 0 false 0 0 0 20) ?_ rfl ⟨rfl, (below2 w _ _).drew⟩
    simp [results, Try.results22, go_sem, ethV]

set_option maxHeartbeats 4000000 in
theorem rhead_twice (w : World) (b off n cap : Nat) (zs : List Int) (h : BS w (some ⟨b, off, none⟩) n zs) (hcap : n ≤ cap) (hm : cap ≤ 9223372036854775807) (h14 : 18 ≤ n) (h9 : n ≤ 9018) (hT : num ((zs.drop 12).take 2) = 33024) (hU : num ((zs.drop 16).take 2) = 33024) :
    Calls Try.prog 22 #[.slice (some ⟨b, off, none⟩) n cap] w fun e w' => e = .returned (ethV 0 0 false 0 0 0 21) ∧ Below w.heap.size w w' := by
  have h1 : ¬ (9018 : Int) < n := by omega
  have h2 : ¬ (n : Int) < 14 := by omega
  have hTb := num_bd2 ((h.drop (by omega) 12 (by omega)).take 2 (by omega))
  have h3 : (14 : Int) ≤ cap := by omega
  have h6 : (6 : Int) ≤ cap := by omega
  have h12 : (12 : Int) ≤ cap := by omega
  have hc6 : ¬ cap = 6 := by omega
  have hc12 : ¬ cap = 12 := by omega
  have H : Hid (BS w (some ⟨b, off, none⟩) n zs) := h
  have hS := below1 w (.cells #[.int .u64 0, .int .u64 0, .bool false, .int .i64 0, .int .i64 0] 25)
  have hT' : (num ((zs.drop 12).take 2) != 33024) = false := by simp [hT]
  have h18 : ¬ (n : Int) < 18 := by omega
  have hGb := num_bd2 ((h.drop (by omega) 14 (by omega)).take 2 (by omega))
  have hUb := num_bd2 ((h.drop (by omega) 16 (by omega)).take 2 (by omega))
  have hg1 : (14 : Int) ≤ cap := by omega
  have hg2 : (16 : Int) ≤ cap := by omega
  have hg3 : (18 : Int) ≤ cap := by omega
  have hc14 : ¬ cap = 14 := by omega
  have hc16 : ¬ cap = 16 := by omega
  have hU' : (num ((zs.drop 16).take 2) == 33024) = true := by simp [hU]
  clear h hT hU
  go_enter Try.func22, Try.ntmps22
  go_wp2
  go_region_held3 (fun W => Below w.heap.size w W) (first | assumption | exact (below1 w _).drew | exact (below2 w _ _).drew | exact (below2 w _ _) | exact (below2 w _ _).drew.drew)
    (first
      | (go_at_call_of 51 (Value.slice (some ⟨b, off, none⟩) 6 cap); refine (rnum_at0 H.out ?_ _ _ (by omega) (by omega)).mono ?_; assumption; rintro e w1 ⟨rfl, rfl⟩)
      | (go_at_call 51; refine (rnum_at H.out ?_ _ _ _ (by omega) (by omega) (by omega)).mono ?_; assumption; rintro e w1 ⟨rfl, rfl⟩))
  all_goals
    go_wp2
    go_region_held3 (fun W => Below w.heap.size w W) (first | assumption | exact (below1 w _).drew | exact (below2 w _ _).drew | exact (below2 w _ _) | exact (below2 w _ _).drew.drew)
      (first
        | (go_at_call_of 51 (Value.slice (some ⟨b, off, none⟩) 6 cap); refine (rnum_at0 H.out ?_ _ _ (by omega) (by omega)).mono ?_; assumption; rintro e w1 ⟨rfl, rfl⟩)
        | (go_at_call 51; refine (rnum_at H.out ?_ _ _ _ (by omega) (by omega) (by omega)).mono ?_; assumption; rintro e w1 ⟨rfl, rfl⟩))
    all_goals
      go_wp2
      refine bodyPost_ret (v := ethV 0 0 false 0 0 0 21) ?_ rfl ⟨rfl, (below2 w _ _).drew.drew⟩
      simp [results, Try.results22, go_sem, ethV]

set_option maxHeartbeats 4000000 in
theorem rhead_tagged (w : World) (b off n cap : Nat) (zs : List Int) (h : BS w (some ⟨b, off, none⟩) n zs) (hcap : n ≤ cap) (hm : cap ≤ 9223372036854775807) (h14 : 18 ≤ n) (h9 : n ≤ 9018) (hT : num ((zs.drop 12).take 2) = 33024) (hU : num ((zs.drop 16).take 2) ≠ 33024) :
    Calls Try.prog 22 #[.slice (some ⟨b, off, none⟩) n cap] w fun e w' => e = .returned (ethV (num (zs.take 6)) (num ((zs.drop 6).take 6)) true (num ((zs.drop 14).take 2)) (num ((zs.drop 16).take 2)) 18 0) ∧ Below w.heap.size w w' := by
  have h1 : ¬ (9018 : Int) < n := by omega
  have h2 : ¬ (n : Int) < 14 := by omega
  have hTb := num_bd2 ((h.drop (by omega) 12 (by omega)).take 2 (by omega))
  have h3 : (14 : Int) ≤ cap := by omega
  have h6 : (6 : Int) ≤ cap := by omega
  have h12 : (12 : Int) ≤ cap := by omega
  have hc6 : ¬ cap = 6 := by omega
  have hc12 : ¬ cap = 12 := by omega
  have H : Hid (BS w (some ⟨b, off, none⟩) n zs) := h
  have hS := below1 w (.cells #[.int .u64 0, .int .u64 0, .bool false, .int .i64 0, .int .i64 0] 25)
  have hT' : (num ((zs.drop 12).take 2) != 33024) = false := by simp [hT]
  have h18 : ¬ (n : Int) < 18 := by omega
  have hGb := num_bd2 ((h.drop (by omega) 14 (by omega)).take 2 (by omega))
  have hUb := num_bd2 ((h.drop (by omega) 16 (by omega)).take 2 (by omega))
  have hg1 : (14 : Int) ≤ cap := by omega
  have hg2 : (16 : Int) ≤ cap := by omega
  have hg3 : (18 : Int) ≤ cap := by omega
  have hc14 : ¬ cap = 14 := by omega
  have hc16 : ¬ cap = 16 := by omega
  have hU' : (num ((zs.drop 16).take 2) == 33024) = false := by simp [hU]
  clear h hT hU
  go_enter Try.func22, Try.ntmps22
  go_wp2
  go_region_held3 (fun W => Below w.heap.size w W) (first | assumption | exact (below1 w _).drew | exact (below2 w _ _).drew | exact (below2 w _ _) | exact (below2 w _ _).drew.drew)
    (first
      | (go_at_call_of 51 (Value.slice (some ⟨b, off, none⟩) 6 cap); refine (rnum_at0 H.out ?_ _ _ (by omega) (by omega)).mono ?_; assumption; rintro e w1 ⟨rfl, rfl⟩)
      | (go_at_call 51; refine (rnum_at H.out ?_ _ _ _ (by omega) (by omega) (by omega)).mono ?_; assumption; rintro e w1 ⟨rfl, rfl⟩))
  all_goals
    go_wp2
    go_region_held3 (fun W => Below w.heap.size w W) (first | assumption | exact (below1 w _).drew | exact (below2 w _ _).drew | exact (below2 w _ _) | exact (below2 w _ _).drew.drew)
      (first
        | (go_at_call_of 51 (Value.slice (some ⟨b, off, none⟩) 6 cap); refine (rnum_at0 H.out ?_ _ _ (by omega) (by omega)).mono ?_; assumption; rintro e w1 ⟨rfl, rfl⟩)
        | (go_at_call 51; refine (rnum_at H.out ?_ _ _ _ (by omega) (by omega) (by omega)).mono ?_; assumption; rintro e w1 ⟨rfl, rfl⟩))
    all_goals
      go_wp2
      refine bodyPost_ret (v := ethV (num (zs.take 6)) (num ((zs.drop 6).take 6)) true (num ((zs.drop 14).take 2)) (num ((zs.drop 16).take 2)) 18 0) ?_ rfl ⟨rfl, (below2 w _ _).drew.drew⟩
      simp [results, Try.results22, go_sem, ethV]

theorem rhead_long (w : World) (a : Option Addr) (n cap : Nat) (h9 : 9018 < n) :
    Calls Try.prog 22 #[.slice a n cap] w fun e w' => e = .returned (ethV 0 0 false 0 0 0 3) ∧ Below w.heap.size w w' := by
  have h1 : (9018 : Int) < n := by omega
  go_enter Try.func22, Try.ntmps22
  go_wp2
  refine bodyPost_ret (v := ethV 0 0 false 0 0 0 3) ?_ rfl ⟨rfl, (below1 w _)⟩
  simp [results, Try.results22, go_sem, ethV]

theorem rhead_short (w : World) (a : Option Addr) (n cap : Nat) (h9 : n < 14) :
    Calls Try.prog 22 #[.slice a n cap] w fun e w' => e = .returned (ethV 0 0 false 0 0 0 20) ∧ Below w.heap.size w w' := by
  have h1 : ¬ (9018 : Int) < n := by omega
  have h2 : (n : Int) < 14 := by omega
  go_enter Try.func22, Try.ntmps22
  go_wp2
  refine bodyPost_ret (v := ethV 0 0 false 0 0 0 20) ?_ rfl ⟨rfl, (below1 w _)⟩
  simp [results, Try.results22, go_sem, ethV]

/-- What a frame's head is. -/
theorem rhead_any {w : World} {a : Option Addr} {n : Nat} (cap : Nat) {zs : List Int} (h : BS w a n zs) (hcap : n ≤ cap) (hm : cap ≤ 9223372036854775807) :
    Calls Try.prog 22 #[.slice a n cap] w fun e w' => e = .returned (headV zs) ∧ Below w.heap.size w w' := by
  have hl := h.len
  unfold headV
  rw [hl]
  by_cases h1 : 9018 < n
  · rw [if_pos h1]; exact rhead_long w a n cap h1
  rw [if_neg h1]
  by_cases h2 : n < 14
  · rw [if_pos h2]; exact rhead_short w a n cap h2
  rw [if_neg h2]
  obtain ⟨b, off, rfl, _⟩ := h.cells.resolve_left (by omega)
  by_cases h3 : num ((zs.drop 12).take 2) ≠ 33024
  · rw [if_pos h3]; exact rhead_plain w b off n cap zs h hcap hm (by omega) (by omega) h3
  rw [if_neg h3]
  have h3' : num ((zs.drop 12).take 2) = 33024 := Classical.not_not.1 h3
  by_cases h4 : n < 18
  · rw [if_pos h4]; exact rhead_short2 w b off n cap zs h hcap hm (by omega) (by omega) h3'
  rw [if_neg h4]
  by_cases h5 : num ((zs.drop 16).take 2) = 33024
  · rw [if_pos h5]; exact rhead_twice w b off n cap zs h hcap hm (by omega) (by omega) h3' h5
  · rw [if_neg h5]; exact rhead_tagged w b off n cap zs h hcap hm (by omega) (by omega) h3' h5

end Go.Proofs.Ytpiokeidcnbmbaa.Eth

namespace Go.Proofs.Ytpiokeidcnbmbaa
open Go.RowKit
set_option maxRecDepth 20000
set_option linter.unusedSimpArgs false
theorem rmulti_any (m : Int) (h : 0 ≤ m ∧ m ≤ 18446744073709551615) (w : World) : Calls Try.prog 39 #[.int .u64 m] w fun e w' => e = .returned (.bool (multB m)) ∧ w' = w := by
  have h1 : m.tdiv 1099511627776 = m / 1099511627776 := Int.tdiv_eq_ediv_of_nonneg h.1
  have h2 : (m / 1099511627776).tmod 2 = m / 1099511627776 % 2 := Int.tmod_eq_emod_of_nonneg (by omega)
  have h3 : IntKind.u64.wrap (m / 1099511627776) = m / 1099511627776 := by simp [IntKind.wrap, IntKind.bits, IntKind.signed]; omega
  unfold multB
  go_enter Try.func39, Try.ntmps39
  go_wp2
  go_ret
  exact ⟨rfl, rfl⟩
theorem BS.under {W W' : World} {m b off n : Nat} {zs : List Int} (h : BS W (some ⟨b, off, none⟩) n zs) (hb : Below m W W') (hlt : b < m) : BS W' (some ⟨b, off, none⟩) n zs := by
  refine ⟨h.len, h.fits, h.room, ?_⟩
  rcases h.cells with h0 | ⟨b', off', e, hc⟩
  · exact .inl h0
  · cases e
    exact .inr ⟨b, off, rfl, fun i hi => (World.cell?_of_block (hb.block b hlt)).trans (hc i hi)⟩
theorem isStore {P : Program} {ops : Array Oper} {rest : List Oper} {op : Oper} {a : Act} {w : World} {Q : Exit → Act → World → Prop} (ty : TypeId) (x y : Operand) (_ : op.op = .store ty x y) (_ : op.guard = none) (h : wpList P ops Q (op :: rest) a w) : wpList P ops Q (op :: rest) a w := h
theorem isBuild {P : Program} {ops : Array Oper} {rest : List Oper} {op : Oper} {a : Act} {w : World} {Q : Exit → Act → World → Prop} (ty : TypeId) (x : Array (Nat × Operand)) (_ : op.op = .build ty x) (_ : op.guard = none) (h : wpList P ops Q (op :: rest) a w) : wpList P ops Q (op :: rest) a w := h
theorem isDst {P : Program} {ops : Array Oper} {rest : List Oper} {op : Oper} {a : Act} {w : World} {Q : Exit → Act → World → Prop} (n : Nat) (_ : op.dst = some n) (h : wpList P ops Q (op :: rest) a w) : wpList P ops Q (op :: rest) a w := h
theorem isLoad {P : Program} {ops : Array Oper} {rest : List Oper} {op : Oper} {a : Act} {w : World} {Q : Exit → Act → World → Prop} (ty : TypeId) (x : Operand) (_ : op.op = .load ty x) (h : wpList P ops Q (op :: rest) a w) : wpList P ops Q (op :: rest) a w := h
theorem PkR.get19 (x : PkR) : x.ps[19]? = some (.string (strOfNums x.io)) := rfl
theorem eth5 : (Try.prog.info? 25).map (·.size) = some 5 := by kernel_rfl
set_option maxHeartbeats 4000000 in
theorem PkR.rerrII (x : PkR) (mac ip kind code : Int) (w : World) (h11 : x.ii = false) : Calls Try.prog 14 #[.agg x.ps, .int .u64 mac, .int .u32 ip, .int .i64 kind, .int .i64 code] w fun e w' => e = .returned (.tuple #[.agg zeroPk, .bool false]) ∧ Below w.heap.size w w' := by
  have HS : Hid (x.ps.size = 36) := PkR.size x
  have G11 : Hid _ := PkR.get11 x
  have GI : Hid _ := PkR.exI x
  have GE : Hid _ := PkR.exE x
  obtain ⟨ps, hps⟩ : ∃ p, x.ps = p := ⟨_, rfl⟩
  rw [hps] at G11 GI GE HS ⊢
  clear hps
  have L1 : Hid _ := Ca.two_first w (.cells ps 34) (.cells zeroPk 34)
  have L2 : Hid _ := Ca.two_last w (.cells ps 34) (.cells zeroPk 34)
  have LB : Hid _ := below2 w (.cells ps 34) (.cells zeroPk 34)
  have c11 := G11.out
  rw [h11] at c11
  go_enter Try.func14, Try.ntmps14
  go_wp2_with (first
    | ((with_reducible (refine isBuild 34 _ rfl rfl ?_)); refine Ca.wpList_build_as rfl 34 _ rfl zeroPk (by rw [List.map_toArray]; show Try.prog.built 34 [] = _; kernel_rfl) ?_)
    | ((with_reducible (refine isStore 34 _ _ rfl rfl ?_)); refine Ca.wpList_store_row rfl 34 _ _ rfl (w.heap.size + 1) zeroPk zeroPk 34 rfl rfl L2.out (info36 zsize) (Eq.trans (b := 36) rfl zsize.symm) one36 ?_)
    | fail)
  intro W9 y1 y2 y3 y4
  go_wp2
  exact bodyPost_ret (results_pk (p := 10) (u := 11) rfl _ _ (w.heap.size + 1) zeroPk rfl y1 zsize) rfl ⟨rfl, LB.out.trans (y4.mono (by omega))⟩
set_option maxHeartbeats 4000000 in
theorem PkR.rerrFirst (x : PkR) (mac ip kind code : Int) (w : World) (h11 : x.ii = true)
    (HF : Hid (∀ W, Calls Try.prog 38 #[.agg #[.int .i64 x.tos, .int .i64 x.id, .int .i64 x.fr, .int .i64 x.ttl, .int .i64 x.pr, .int .u32 x.src, .int .u32 x.dst, .string (strOfNums x.io)]] W fun e w' => e = .returned (.bool false) ∧ Below W.heap.size W w')) : Calls Try.prog 14 #[.agg x.ps, .int .u64 mac, .int .u32 ip, .int .i64 kind, .int .i64 code] w fun e w' => e = .returned (.tuple #[.agg zeroPk, .bool false]) ∧ Below w.heap.size w w' := by
  have HS : Hid (x.ps.size = 36) := PkR.size x
  have G11 : Hid _ := PkR.get11 x
  have GI : Hid _ := PkR.exI x
  have GE : Hid _ := PkR.exE x
  obtain ⟨ps, hps⟩ : ∃ p, x.ps = p := ⟨_, rfl⟩
  rw [hps] at G11 GI GE HS ⊢
  clear hps
  have L1 : Hid _ := Ca.two_first w (.cells ps 34) (.cells zeroPk 34)
  have L2 : Hid _ := Ca.two_last w (.cells ps 34) (.cells zeroPk 34)
  have LB : Hid _ := below2 w (.cells ps 34) (.cells zeroPk 34)
  have c11 := G11.out
  rw [h11] at c11
  go_enter Try.func14, Try.ntmps14
  go_wp2_with (first
    | ((with_reducible (refine isLoad 30 _ rfl ?_)); refine Ca.wpList_load_atw (by rfl) 30 _ rfl w.heap.size 12 8 rfl ps #[.int .i64 x.tos, .int .i64 x.id, .int .i64 x.fr, .int .i64 x.ttl, .int .i64 x.pr, .int .u32 x.src, .int .u32 x.dst, .string (strOfNums x.io)] 34 _ L1.out Try.underlying30 rfl GI.out rfl (by kernel_rfl) ?_)
    | fail)
  refine (HF.out _).mono ?_
  rintro e W1 ⟨rfl, hb⟩
  have B1 : Hid (Below w.heap.size w W1) := LB.out.trans (hb.mono (by first | exact LB.out.size | (simp; omega)))
  have R1_1 : Hid (W1.heap[w.heap.size]? = some (.cells ps 34 (0, 0))) := (hb.block _ (Ca.lt_of_heap L1.out)).trans L1.out
  have R2_1 : Hid (W1.heap[w.heap.size + 1]? = some (.cells zeroPk 34 (0, 0))) := (hb.block _ (Ca.lt_of_heap L2.out)).trans L2.out
  clear hb L1 L2 LB HF c11
  go_wp2_with (first
    | ((with_reducible (refine isBuild 34 _ rfl rfl ?_)); refine Ca.wpList_build_as rfl 34 _ rfl zeroPk (by rw [List.map_toArray]; show Try.prog.built 34 [] = _; kernel_rfl) ?_)
    | ((with_reducible (refine isStore 34 _ _ rfl rfl ?_)); refine Ca.wpList_store_row rfl 34 _ _ rfl (w.heap.size + 1) zeroPk zeroPk 34 rfl rfl R2_1.out (info36 zsize) (Eq.trans (b := 36) rfl zsize.symm) one36 ?_)
    | fail)
  intro W9 y1 y2 y3 y4
  go_wp2
  exact bodyPost_ret (results_pk (p := 10) (u := 11) rfl _ _ (w.heap.size + 1) zeroPk rfl y1 zsize) rfl ⟨rfl, B1.out.trans (y4.mono (by omega))⟩
set_option maxHeartbeats 4000000 in
theorem PkR.rerrMsg (x : PkR) (mac ip kind code : Int) (w : World) (h11 : x.ii = true) (h3 : (x.l.k == 1) = true) (h4 : (x.l.ty != 0) = true) (h5 : (x.l.ty != 8) = true)
    (HF : Hid (∀ W, Calls Try.prog 38 #[.agg #[.int .i64 x.tos, .int .i64 x.id, .int .i64 x.fr, .int .i64 x.ttl, .int .i64 x.pr, .int .u32 x.src, .int .u32 x.dst, .string (strOfNums x.io)]] W fun e w' => e = .returned (.bool true) ∧ Below W.heap.size W w')) : Calls Try.prog 14 #[.agg x.ps, .int .u64 mac, .int .u32 ip, .int .i64 kind, .int .i64 code] w fun e w' => e = .returned (.tuple #[.agg zeroPk, .bool false]) ∧ Below w.heap.size w w' := by
  have HS : Hid (x.ps.size = 36) := PkR.size x
  have G11 : Hid _ := PkR.get11 x
  have G20 : Hid _ := PkR.get20 x
  have G21 : Hid _ := PkR.get21 x
  have GI : Hid _ := PkR.exI x
  have GE : Hid _ := PkR.exE x
  obtain ⟨ps, hps⟩ : ∃ p, x.ps = p := ⟨_, rfl⟩
  rw [hps] at G11 G20 G21 GI GE HS ⊢
  clear hps
  have L1 : Hid _ := Ca.two_first w (.cells ps 34) (.cells zeroPk 34)
  have L2 : Hid _ := Ca.two_last w (.cells ps 34) (.cells zeroPk 34)
  have LB : Hid _ := below2 w (.cells ps 34) (.cells zeroPk 34)
  have c11 := G11.out
  rw [h11] at c11
  go_enter Try.func14, Try.ntmps14
  go_wp2_with (first
    | ((with_reducible (refine isLoad 30 _ rfl ?_)); refine Ca.wpList_load_atw (by rfl) 30 _ rfl w.heap.size 12 8 rfl ps #[.int .i64 x.tos, .int .i64 x.id, .int .i64 x.fr, .int .i64 x.ttl, .int .i64 x.pr, .int .u32 x.src, .int .u32 x.dst, .string (strOfNums x.io)] 34 _ L1.out Try.underlying30 rfl GI.out rfl (by kernel_rfl) ?_)
    | fail)
  refine (HF.out _).mono ?_
  rintro e W1 ⟨rfl, hb⟩
  have B1 : Hid (Below w.heap.size w W1) := LB.out.trans (hb.mono (by first | exact LB.out.size | (simp; omega)))
  have R1_1 : Hid (W1.heap[w.heap.size]? = some (.cells ps 34 (0, 0))) := (hb.block _ (Ca.lt_of_heap L1.out)).trans L1.out
  have R2_1 : Hid (W1.heap[w.heap.size + 1]? = some (.cells zeroPk 34 (0, 0))) := (hb.block _ (Ca.lt_of_heap L2.out)).trans L2.out
  clear hb L1 L2 LB HF c11
  have c20 := (Ca.cell_row R1_1.out 20).trans G20.out
  have c21 := (Ca.cell_row R1_1.out 21).trans G21.out
  go_wp2_with (first
    | ((with_reducible (refine isBuild 34 _ rfl rfl ?_)); refine Ca.wpList_build_as rfl 34 _ rfl zeroPk (by rw [List.map_toArray]; show Try.prog.built 34 [] = _; kernel_rfl) ?_)
    | ((with_reducible (refine isStore 34 _ _ rfl rfl ?_)); refine Ca.wpList_store_row rfl 34 _ _ rfl (w.heap.size + 1) zeroPk zeroPk 34 rfl rfl R2_1.out (info36 zsize) (Eq.trans (b := 36) rfl zsize.symm) one36 ?_)
    | fail)
  intro W9 y1 y2 y3 y4
  go_wp2
  exact bodyPost_ret (results_pk (p := 10) (u := 11) rfl _ _ (w.heap.size + 1) zeroPk rfl y1 zsize) rfl ⟨rfl, B1.out.trans (y4.mono (by omega))⟩
set_option maxHeartbeats 4000000 in
theorem PkR.rerrZero_m (x : PkR) (mac ip kind code : Int) (w : World) (h11 : x.ii = true) (hkc : (x.l.k == 1) = false ∨ ((x.l.k == 1) = true ∧ (x.l.ty != 0) = false) ∨ ((x.l.k == 1) = true ∧ (x.l.ty != 0) = true ∧ (x.l.ty != 8) = false)) (h6 : (x.src == 0) = true)
    (HF : Hid (∀ W, Calls Try.prog 38 #[.agg #[.int .i64 x.tos, .int .i64 x.id, .int .i64 x.fr, .int .i64 x.ttl, .int .i64 x.pr, .int .u32 x.src, .int .u32 x.dst, .string (strOfNums x.io)]] W fun e w' => e = .returned (.bool true) ∧ Below W.heap.size W w')) : Calls Try.prog 14 #[.agg x.ps, .int .u64 mac, .int .u32 ip, .int .i64 kind, .int .i64 code] w fun e w' => e = .returned (.tuple #[.agg zeroPk, .bool false]) ∧ Below w.heap.size w w' := by
  have HS : Hid (x.ps.size = 36) := PkR.size x
  have G11 : Hid _ := PkR.get11 x
  have G17 : Hid _ := PkR.get17 x
  have G20 : Hid _ := PkR.get20 x
  have G21 : Hid _ := PkR.get21 x
  have GI : Hid _ := PkR.exI x
  have GE : Hid _ := PkR.exE x
  obtain ⟨ps, hps⟩ : ∃ p, x.ps = p := ⟨_, rfl⟩
  rw [hps] at G11 G17 G20 G21 GI GE HS ⊢
  clear hps
  have L1 : Hid _ := Ca.two_first w (.cells ps 34) (.cells zeroPk 34)
  have L2 : Hid _ := Ca.two_last w (.cells ps 34) (.cells zeroPk 34)
  have LB : Hid _ := below2 w (.cells ps 34) (.cells zeroPk 34)
  have c11 := G11.out
  rw [h11] at c11
  rcases hkc with h3 | ⟨h3, h4⟩ | ⟨h3, h4, h5⟩
  all_goals
    go_enter Try.func14, Try.ntmps14
    go_wp2_with (first
      | ((with_reducible (refine isLoad 30 _ rfl ?_)); refine Ca.wpList_load_atw (by rfl) 30 _ rfl w.heap.size 12 8 rfl ps #[.int .i64 x.tos, .int .i64 x.id, .int .i64 x.fr, .int .i64 x.ttl, .int .i64 x.pr, .int .u32 x.src, .int .u32 x.dst, .string (strOfNums x.io)] 34 _ L1.out Try.underlying30 rfl GI.out rfl (by kernel_rfl) ?_)
      | fail)
    refine (HF.out _).mono ?_
    rintro e W1 ⟨rfl, hb⟩
    have B1 : Hid (Below w.heap.size w W1) := LB.out.trans (hb.mono (by first | exact LB.out.size | (simp; omega)))
    have R1_1 : Hid (W1.heap[w.heap.size]? = some (.cells ps 34 (0, 0))) := (hb.block _ (Ca.lt_of_heap L1.out)).trans L1.out
    have R2_1 : Hid (W1.heap[w.heap.size + 1]? = some (.cells zeroPk 34 (0, 0))) := (hb.block _ (Ca.lt_of_heap L2.out)).trans L2.out
    clear hb L1 L2 LB HF c11
    have c20 := (Ca.cell_row R1_1.out 20).trans G20.out
    have c21 := (Ca.cell_row R1_1.out 21).trans G21.out
    have c17 := (Ca.cell_row R1_1.out 17).trans G17.out
    go_wp2_with (first
      | ((with_reducible (refine isBuild 34 _ rfl rfl ?_)); refine Ca.wpList_build_as rfl 34 _ rfl zeroPk (by rw [List.map_toArray]; show Try.prog.built 34 [] = _; kernel_rfl) ?_)
      | ((with_reducible (refine isStore 34 _ _ rfl rfl ?_)); refine Ca.wpList_store_row rfl 34 _ _ rfl (w.heap.size + 1) zeroPk zeroPk 34 rfl rfl R2_1.out (info36 zsize) (Eq.trans (b := 36) rfl zsize.symm) one36 ?_)
      | fail)
    intro W9 y1 y2 y3 y4
    go_wp2
    exact bodyPost_ret (results_pk (p := 10) (u := 11) rfl _ _ (w.heap.size + 1) zeroPk rfl y1 zsize) rfl ⟨rfl, B1.out.trans (y4.mono (by omega))⟩
set_option maxHeartbeats 4000000 in
theorem PkR.rerrGroup_m (x : PkR) (mac ip kind code : Int) (w : World) (h11 : x.ii = true) (hkc : (x.l.k == 1) = false ∨ ((x.l.k == 1) = true ∧ (x.l.ty != 0) = false) ∨ ((x.l.k == 1) = true ∧ (x.l.ty != 0) = true ∧ (x.l.ty != 8) = false)) (h6 : (x.src == 0) = false) (h7 : (3758096384 : Int) ≤ x.src)
    (HF : Hid (∀ W, Calls Try.prog 38 #[.agg #[.int .i64 x.tos, .int .i64 x.id, .int .i64 x.fr, .int .i64 x.ttl, .int .i64 x.pr, .int .u32 x.src, .int .u32 x.dst, .string (strOfNums x.io)]] W fun e w' => e = .returned (.bool true) ∧ Below W.heap.size W w')) : Calls Try.prog 14 #[.agg x.ps, .int .u64 mac, .int .u32 ip, .int .i64 kind, .int .i64 code] w fun e w' => e = .returned (.tuple #[.agg zeroPk, .bool false]) ∧ Below w.heap.size w w' := by
  have HS : Hid (x.ps.size = 36) := PkR.size x
  have G11 : Hid _ := PkR.get11 x
  have G17 : Hid _ := PkR.get17 x
  have G20 : Hid _ := PkR.get20 x
  have G21 : Hid _ := PkR.get21 x
  have GI : Hid _ := PkR.exI x
  have GE : Hid _ := PkR.exE x
  obtain ⟨ps, hps⟩ : ∃ p, x.ps = p := ⟨_, rfl⟩
  rw [hps] at G11 G17 G20 G21 GI GE HS ⊢
  clear hps
  have L1 : Hid _ := Ca.two_first w (.cells ps 34) (.cells zeroPk 34)
  have L2 : Hid _ := Ca.two_last w (.cells ps 34) (.cells zeroPk 34)
  have LB : Hid _ := below2 w (.cells ps 34) (.cells zeroPk 34)
  have c11 := G11.out
  rw [h11] at c11
  rcases hkc with h3 | ⟨h3, h4⟩ | ⟨h3, h4, h5⟩
  all_goals
    go_enter Try.func14, Try.ntmps14
    go_wp2_with (first
      | ((with_reducible (refine isLoad 30 _ rfl ?_)); refine Ca.wpList_load_atw (by rfl) 30 _ rfl w.heap.size 12 8 rfl ps #[.int .i64 x.tos, .int .i64 x.id, .int .i64 x.fr, .int .i64 x.ttl, .int .i64 x.pr, .int .u32 x.src, .int .u32 x.dst, .string (strOfNums x.io)] 34 _ L1.out Try.underlying30 rfl GI.out rfl (by kernel_rfl) ?_)
      | fail)
    refine (HF.out _).mono ?_
    rintro e W1 ⟨rfl, hb⟩
    have B1 : Hid (Below w.heap.size w W1) := LB.out.trans (hb.mono (by first | exact LB.out.size | (simp; omega)))
    have R1_1 : Hid (W1.heap[w.heap.size]? = some (.cells ps 34 (0, 0))) := (hb.block _ (Ca.lt_of_heap L1.out)).trans L1.out
    have R2_1 : Hid (W1.heap[w.heap.size + 1]? = some (.cells zeroPk 34 (0, 0))) := (hb.block _ (Ca.lt_of_heap L2.out)).trans L2.out
    clear hb L1 L2 LB HF c11
    have c20 := (Ca.cell_row R1_1.out 20).trans G20.out
    have c21 := (Ca.cell_row R1_1.out 21).trans G21.out
    have c17 := (Ca.cell_row R1_1.out 17).trans G17.out
    go_wp2_with (first
      | ((with_reducible (refine isBuild 34 _ rfl rfl ?_)); refine Ca.wpList_build_as rfl 34 _ rfl zeroPk (by rw [List.map_toArray]; show Try.prog.built 34 [] = _; kernel_rfl) ?_)
      | ((with_reducible (refine isStore 34 _ _ rfl rfl ?_)); refine Ca.wpList_store_row rfl 34 _ _ rfl (w.heap.size + 1) zeroPk zeroPk 34 rfl rfl R2_1.out (info36 zsize) (Eq.trans (b := 36) rfl zsize.symm) one36 ?_)
      | fail)
    intro W9 y1 y2 y3 y4
    go_wp2
    exact bodyPost_ret (results_pk (p := 10) (u := 11) rfl _ _ (w.heap.size + 1) zeroPk rfl y1 zsize) rfl ⟨rfl, B1.out.trans (y4.mono (by omega))⟩
set_option maxHeartbeats 4000000 in
theorem PkR.rerrMulti_m (x : PkR) (mac ip kind code : Int) (w : World) (h11 : x.ii = true) (hkc : (x.l.k == 1) = false ∨ ((x.l.k == 1) = true ∧ (x.l.ty != 0) = false) ∨ ((x.l.k == 1) = true ∧ (x.l.ty != 0) = true ∧ (x.l.ty != 8) = false)) (h6 : (x.src == 0) = false) (h7 : x.src < 3758096384)
    (HF : Hid (∀ W, Calls Try.prog 38 #[.agg #[.int .i64 x.tos, .int .i64 x.id, .int .i64 x.fr, .int .i64 x.ttl, .int .i64 x.pr, .int .u32 x.src, .int .u32 x.dst, .string (strOfNums x.io)]] W fun e w' => e = .returned (.bool true) ∧ Below W.heap.size W w'))
    (HMu : Hid (∀ W, Calls Try.prog 39 #[.int .u64 x.s] W fun e w' => e = .returned (.bool true) ∧ w' = W)) : Calls Try.prog 14 #[.agg x.ps, .int .u64 mac, .int .u32 ip, .int .i64 kind, .int .i64 code] w fun e w' => e = .returned (.tuple #[.agg zeroPk, .bool false]) ∧ Below w.heap.size w w' := by
  have HS : Hid (x.ps.size = 36) := PkR.size x
  have G11 : Hid _ := PkR.get11 x
  have G17 : Hid _ := PkR.get17 x
  have G1 : Hid _ := PkR.get1 x
  have G20 : Hid _ := PkR.get20 x
  have G21 : Hid _ := PkR.get21 x
  have GI : Hid _ := PkR.exI x
  have GE : Hid _ := PkR.exE x
  obtain ⟨ps, hps⟩ : ∃ p, x.ps = p := ⟨_, rfl⟩
  rw [hps] at G11 G17 G1 G20 G21 GI GE HS ⊢
  clear hps
  have L1 : Hid _ := Ca.two_first w (.cells ps 34) (.cells zeroPk 34)
  have L2 : Hid _ := Ca.two_last w (.cells ps 34) (.cells zeroPk 34)
  have LB : Hid _ := below2 w (.cells ps 34) (.cells zeroPk 34)
  have c11 := G11.out
  rw [h11] at c11
  rcases hkc with h3 | ⟨h3, h4⟩ | ⟨h3, h4, h5⟩
  all_goals
    go_enter Try.func14, Try.ntmps14
    go_wp2_with (first
      | ((with_reducible (refine isLoad 30 _ rfl ?_)); refine Ca.wpList_load_atw (by rfl) 30 _ rfl w.heap.size 12 8 rfl ps #[.int .i64 x.tos, .int .i64 x.id, .int .i64 x.fr, .int .i64 x.ttl, .int .i64 x.pr, .int .u32 x.src, .int .u32 x.dst, .string (strOfNums x.io)] 34 _ L1.out Try.underlying30 rfl GI.out rfl (by kernel_rfl) ?_)
      | fail)
    refine (HF.out _).mono ?_
    rintro e W1 ⟨rfl, hb⟩
    have B1 : Hid (Below w.heap.size w W1) := LB.out.trans (hb.mono (by first | exact LB.out.size | (simp; omega)))
    have R1_1 : Hid (W1.heap[w.heap.size]? = some (.cells ps 34 (0, 0))) := (hb.block _ (Ca.lt_of_heap L1.out)).trans L1.out
    have R2_1 : Hid (W1.heap[w.heap.size + 1]? = some (.cells zeroPk 34 (0, 0))) := (hb.block _ (Ca.lt_of_heap L2.out)).trans L2.out
    clear hb L1 L2 LB HF c11
    have c20 := (Ca.cell_row R1_1.out 20).trans G20.out
    have c21 := (Ca.cell_row R1_1.out 21).trans G21.out
    have c17 := (Ca.cell_row R1_1.out 17).trans G17.out
    have c1 := (Ca.cell_row R1_1.out 1).trans G1.out
    go_wp2_with fail
    refine (HMu.out _).mono ?_
    rintro e w' ⟨rfl, rfl⟩
    go_wp2_with (first
      | ((with_reducible (refine isBuild 34 _ rfl rfl ?_)); refine Ca.wpList_build_as rfl 34 _ rfl zeroPk (by rw [List.map_toArray]; show Try.prog.built 34 [] = _; kernel_rfl) ?_)
      | ((with_reducible (refine isStore 34 _ _ rfl rfl ?_)); refine Ca.wpList_store_row rfl 34 _ _ rfl (w.heap.size + 1) zeroPk zeroPk 34 rfl rfl R2_1.out (info36 zsize) (Eq.trans (b := 36) rfl zsize.symm) one36 ?_)
      | fail)
    intro W9 y1 y2 y3 y4
    go_wp2
    exact bodyPost_ret (results_pk (p := 10) (u := 11) rfl _ _ (w.heap.size + 1) zeroPk rfl y1 zsize) rfl ⟨rfl, B1.out.trans (y4.mono (by omega))⟩
set_option maxHeartbeats 4000000 in
theorem PkR.rerrPrint_m (x : PkR) (mac ip kind code : Int) (w : World) (h11 : x.ii = true) (hkc : (x.l.k == 1) = false ∨ ((x.l.k == 1) = true ∧ (x.l.ty != 0) = false) ∨ ((x.l.k == 1) = true ∧ (x.l.ty != 0) = true ∧ (x.l.ty != 8) = false)) (h6 : (x.src == 0) = false) (h7 : x.src < 3758096384) (f : Int) (hf : (f != 0) = true)
    (HF : Hid (∀ W, Calls Try.prog 38 #[.agg #[.int .i64 x.tos, .int .i64 x.id, .int .i64 x.fr, .int .i64 x.ttl, .int .i64 x.pr, .int .u32 x.src, .int .u32 x.dst, .string (strOfNums x.io)]] W fun e w' => e = .returned (.bool true) ∧ Below W.heap.size W w'))
    (HMu : Hid (∀ W, Calls Try.prog 39 #[.int .u64 x.s] W fun e w' => e = .returned (.bool false) ∧ w' = W))
    (HP : Hid (∀ W, Calls Try.prog 12 #[.agg x.ps] W fun e w' => e = .returned (.tuple #[.slice none 0 0, .int .i64 f]) ∧ Below W.heap.size W w')) : Calls Try.prog 14 #[.agg x.ps, .int .u64 mac, .int .u32 ip, .int .i64 kind, .int .i64 code] w fun e w' => e = .returned (.tuple #[.agg zeroPk, .bool false]) ∧ Below w.heap.size w w' := by
  have HS : Hid (x.ps.size = 36) := PkR.size x
  have G11 : Hid _ := PkR.get11 x
  have G17 : Hid _ := PkR.get17 x
  have G1 : Hid _ := PkR.get1 x
  have G20 : Hid _ := PkR.get20 x
  have G21 : Hid _ := PkR.get21 x
  have GI : Hid _ := PkR.exI x
  have GE : Hid _ := PkR.exE x
  obtain ⟨ps, hps⟩ : ∃ p, x.ps = p := ⟨_, rfl⟩
  rw [hps] at G11 G17 G1 G20 G21 GI GE HS HP ⊢
  clear hps
  have L1 : Hid _ := Ca.two_first w (.cells ps 34) (.cells zeroPk 34)
  have L2 : Hid _ := Ca.two_last w (.cells ps 34) (.cells zeroPk 34)
  have LB : Hid _ := below2 w (.cells ps 34) (.cells zeroPk 34)
  have c11 := G11.out
  rw [h11] at c11
  rcases hkc with h3 | ⟨h3, h4⟩ | ⟨h3, h4, h5⟩
  all_goals
    go_enter Try.func14, Try.ntmps14
    go_wp2_with (first
      | ((with_reducible (refine isLoad 30 _ rfl ?_)); refine Ca.wpList_load_atw (by rfl) 30 _ rfl w.heap.size 12 8 rfl ps #[.int .i64 x.tos, .int .i64 x.id, .int .i64 x.fr, .int .i64 x.ttl, .int .i64 x.pr, .int .u32 x.src, .int .u32 x.dst, .string (strOfNums x.io)] 34 _ L1.out Try.underlying30 rfl GI.out rfl (by kernel_rfl) ?_)
      | fail)
    refine (HF.out _).mono ?_
    rintro e W1 ⟨rfl, hb⟩
    have B1 : Hid (Below w.heap.size w W1) := LB.out.trans (hb.mono (by first | exact LB.out.size | (simp; omega)))
    have R1_1 : Hid (W1.heap[w.heap.size]? = some (.cells ps 34 (0, 0))) := (hb.block _ (Ca.lt_of_heap L1.out)).trans L1.out
    have R2_1 : Hid (W1.heap[w.heap.size + 1]? = some (.cells zeroPk 34 (0, 0))) := (hb.block _ (Ca.lt_of_heap L2.out)).trans L2.out
    clear hb L1 L2 LB HF c11
    have c20 := (Ca.cell_row R1_1.out 20).trans G20.out
    have c21 := (Ca.cell_row R1_1.out 21).trans G21.out
    have c17 := (Ca.cell_row R1_1.out 17).trans G17.out
    have c1 := (Ca.cell_row R1_1.out 1).trans G1.out
    go_wp2_with fail
    refine (HMu.out _).mono ?_
    rintro e w' ⟨rfl, rfl⟩
    clear c20 c21 c17 c1
    go_wp2_with ((with_reducible (refine isLoad 34 _ rfl ?_)); refine wpList_load_row rfl 34 _ rfl (w.heap.size) rfl 34 ps (0, 0) _ R1_1.out Try.underlying34 rfl (info36 HS.out) ?_)
    refine (HP.out _).mono ?_
    rintro e W2 ⟨rfl, hb⟩
    have B2 : Hid (Below w.heap.size w W2) := B1.out.trans (hb.mono B1.out.size)
    have R2_2 : Hid (W2.heap[w.heap.size + 1]? = some (.cells zeroPk 34 (0, 0))) := (hb.block _ (Ca.lt_of_heap R2_1.out)).trans R2_1.out
    clear hb HP B1 R1_1 R2_1 HMu
    go_wp2_with (first
      | ((with_reducible (refine isBuild 34 _ rfl rfl ?_)); refine Ca.wpList_build_as rfl 34 _ rfl zeroPk (by rw [List.map_toArray]; show Try.prog.built 34 [] = _; kernel_rfl) ?_)
      | ((with_reducible (refine isStore 34 _ _ rfl rfl ?_)); refine Ca.wpList_store_row rfl 34 _ _ rfl (w.heap.size + 1) zeroPk zeroPk 34 rfl rfl R2_2.out (info36 zsize) (Eq.trans (b := 36) rfl zsize.symm) one36 ?_)
      | fail)
    intro W9 y1 y2 y3 y4
    go_wp2
    exact bodyPost_ret (results_pk (p := 10) (u := 11) rfl _ _ (w.heap.size + 1) zeroPk rfl y1 zsize) rfl ⟨rfl, B2.out.trans (y4.mono (by omega))⟩
set_option maxHeartbeats 8000000 in
theorem PkR.rerrYes_m0 (x : PkR) (mac ip kind code : Int) (w : World) (h11 : x.ii = true) (hkc : (x.l.k == 1) = false ∨ ((x.l.k == 1) = true ∧ (x.l.ty != 0) = false) ∨ ((x.l.k == 1) = true ∧ (x.l.ty != 0) = true ∧ (x.l.ty != 8) = false)) (h6 : (x.src == 0) = false) (h7 : x.src < 3758096384) (n A U M : Nat) (L Q : List Int) (hL : ∀ i, 0 ≤ L.getD i 0 ∧ L.getD i 0 ≤ 255) (hn : n = A + U + x.pd.length) (hn9 : n ≤ 9018) (hA0 : 0 < A) (hU : 0 < U) (hM : 28 + x.io.length = M) (hM9 : M ≤ 1000) (hcut : U ≤ M) (hQ : (L.drop A).take U = Q) (hv : Eth.headV L = Eth.ethV x.d x.s x.tg x.tag x.et A 0) (mm kk cc : Int) (hm : mac.tmod 281474976710656 = mm) (hmw : IntKind.u64.wrap mm = mm) (hk : IntKind.u8.wrap kind = kk) (hc : IntKind.u8.wrap code = cc) (hkw : IntKind.i64.wrap kk = kk) (hcw : IntKind.i64.wrap cc = cc)
    (HF : Hid (∀ W, Calls Try.prog 38 #[.agg #[.int .i64 x.tos, .int .i64 x.id, .int .i64 x.fr, .int .i64 x.ttl, .int .i64 x.pr, .int .u32 x.src, .int .u32 x.dst, .string (strOfNums x.io)]] W fun e w' => e = .returned (.bool true) ∧ Below W.heap.size W w'))
    (HMu : Hid (∀ W, Calls Try.prog 39 #[.int .u64 x.s] W fun e w' => e = .returned (.bool false) ∧ w' = W))
    (HP : Hid (∀ W, Calls Try.prog 12 #[.agg x.ps] W fun e w' => ∃ a cap, e = .returned (.tuple #[.slice a n cap, .int .i64 0]) ∧ RB W w' (.slice a n cap) n L)) :
    Calls Try.prog 14 #[.agg x.ps, .int .u64 mac, .int .u32 ip, .int .i64 kind, .int .i64 code] w fun e w' => e = .returned (.tuple #[.agg (x.errR mm ip kk cc Q).ps, .bool true]) ∧ Below w.heap.size w w' := by
  obtain ⟨o4, EY⟩ : ∃ p, Hid ((x.errR mm ip kk cc Q).ps = p) := ⟨_, rfl⟩
  rw [EY.out]
  have q1 : IntKind.i64.wrap ((n : Int) - x.pd.length) = ((A + U : Nat) : Int) := by
    rw [show (n : Int) - x.pd.length = ((A + U : Nat) : Int) by omega]
    simp [IntKind.wrap, IntKind.bits, IntKind.signed]; omega
  have q2 : IntKind.i64.wrap (28 + (x.io.length : Int)) = (M : Int) := by
    rw [show 28 + (x.io.length : Int) = (M : Int) by omega]
    simp [IntKind.wrap, IntKind.bits, IntKind.signed]; omega
  have q3 : (U : Int) ≤ (M : Int) := by omega
  have QQ : Hid _ := And.intro q1 (And.intro q2 q3)
  have HM9 : Hid (28 + x.io.length = M) := hM
  have HN9 : Hid (n = A + U + x.pd.length) := hn
  have HCU : Hid (U ≤ M) := hcut
  have MW : Hid _ := And.intro hm (And.intro hmw (And.intro hk (And.intro hc (And.intro hkw hcw))))
  have HLF : Hid _ := hL
  have HQF : Hid _ := hQ
  have HVF : Hid _ := hv
  have NN : Hid _ := And.intro hn9 (And.intro hA0 (And.intro hU hM9))
  clear q1 q2 q3 hM hn hcut hm hmw hk hc hkw hcw hL hQ hv hn9 hA0 hU hM9
  have HS : Hid (x.ps.size = 36) := PkR.size x
  have G11 : Hid _ := PkR.get11 x
  have G17 : Hid _ := PkR.get17 x
  have G1 : Hid _ := PkR.get1 x
  have G35 : Hid _ := PkR.get35 x
  have G19 : Hid _ := PkR.get19 x
  have G20 : Hid _ := PkR.get20 x
  have G21 : Hid _ := PkR.get21 x
  have GI : Hid _ := PkR.exI x
  have GE : Hid _ := PkR.exE x
  obtain ⟨ps, hps⟩ : ∃ p, x.ps = p := ⟨_, rfl⟩
  rw [hps] at G11 G17 G1 G35 G19 G20 G21 GI GE HS HP ⊢
  clear hps
  have L1 : Hid _ := Ca.two_first w (.cells ps 34) (.cells zeroPk 34)
  have L2 : Hid _ := Ca.two_last w (.cells ps 34) (.cells zeroPk 34)
  have LB : Hid _ := below2 w (.cells ps 34) (.cells zeroPk 34)
  have c11 := G11.out
  rw [h11] at c11
  rcases hkc with h3 | ⟨h3, h4⟩ | ⟨h3, h4, h5⟩
  all_goals
    go_enter Try.func14, Try.ntmps14
    go_wp2_with (first
      | ((with_reducible (refine isLoad 30 _ rfl ?_)); refine Ca.wpList_load_atw (by rfl) 30 _ rfl w.heap.size 12 8 rfl ps #[.int .i64 x.tos, .int .i64 x.id, .int .i64 x.fr, .int .i64 x.ttl, .int .i64 x.pr, .int .u32 x.src, .int .u32 x.dst, .string (strOfNums x.io)] 34 _ L1.out Try.underlying30 rfl GI.out rfl (by kernel_rfl) ?_)
      | fail)
    refine (HF.out _).mono ?_
    rintro e W1 ⟨rfl, hb⟩
    have B1 : Hid (Below w.heap.size w W1) := LB.out.trans (hb.mono (by first | exact LB.out.size | (simp; omega)))
    have R1_1 : Hid (W1.heap[w.heap.size]? = some (.cells ps 34 (0, 0))) := (hb.block _ (Ca.lt_of_heap L1.out)).trans L1.out
    have R2_1 : Hid (W1.heap[w.heap.size + 1]? = some (.cells zeroPk 34 (0, 0))) := (hb.block _ (Ca.lt_of_heap L2.out)).trans L2.out
    clear hb L1 L2 LB HF c11
    have c20 := (Ca.cell_row R1_1.out 20).trans G20.out
    have c21 := (Ca.cell_row R1_1.out 21).trans G21.out
    have c17 := (Ca.cell_row R1_1.out 17).trans G17.out
    have c1 := (Ca.cell_row R1_1.out 1).trans G1.out
    go_wp2_with fail
    refine (HMu.out _).mono ?_
    rintro e w' ⟨rfl, rfl⟩
    clear c20 c21 c17 c1
    go_wp2_with ((with_reducible (refine isLoad 34 _ rfl ?_)); refine wpList_load_row rfl 34 _ rfl (w.heap.size) rfl 34 ps (0, 0) _ R1_1.out Try.underlying34 rfl (info36 HS.out) ?_)
    refine (HP.out _).mono ?_
    rintro e W2 ⟨a, cap, rfl, r2⟩
    have hb := r2.bel
    have B2 : Hid (Below w.heap.size w W2) := B1.out.trans (hb.mono B1.out.size)
    have R1_2 : Hid (W2.heap[w.heap.size]? = some (.cells ps 34 (0, 0))) := (hb.block _ (Ca.lt_of_heap R1_1.out)).trans R1_1.out
    have R2_2 : Hid (W2.heap[w.heap.size + 1]? = some (.cells zeroPk 34 (0, 0))) := (hb.block _ (Ca.lt_of_heap R2_1.out)).trans R2_1.out
    have hcap := own_caps r2.own
    have S2 : BS W2 a n L := r2.bs HLF.out (by have := NN.out; omega)
    obtain ⟨b0, off0, rfl, _⟩ := S2.cells.resolve_left (by have := HN9.out; have := NN.out; omega)
    have S_2 : Hid (BS W2 (some ⟨b0, off0, none⟩) n L) := S2
    have CAP : Hid (n ≤ cap ∧ cap ≤ 9223372036854775807) := hcap
    clear hb HP B1 R1_1 R2_1 HMu r2 S2 hcap
    go_wp2_with fail
    refine (Eth.rhead_any cap S_2.out CAP.out.1 CAP.out.2).mono ?_
    rw [HVF.out]
    unfold Eth.ethV
    rintro e W3 ⟨rfl, hb⟩
    have B3 : Hid (Below w.heap.size w W3) := B2.out.trans (hb.mono B2.out.size)
    have R1_3 : Hid (W3.heap[w.heap.size]? = some (.cells ps 34 (0, 0))) := (hb.block _ (Ca.lt_of_heap R1_2.out)).trans R1_2.out
    have R2_3 : Hid (W3.heap[w.heap.size + 1]? = some (.cells zeroPk 34 (0, 0))) := (hb.block _ (Ca.lt_of_heap R2_2.out)).trans R2_2.out
    have S_3 : Hid (BS W3 (some ⟨b0, off0, none⟩) n L) := S_2.out.below hb
    clear hb B2 R1_2 R2_2 S_2
    have R1_4 : Hid ((W3.alloc (.cells #[.int .u64 x.d, .int .u64 x.s, .bool x.tg, .int .i64 x.tag, .int .i64 x.et] 25)).heap[w.heap.size]? = some (.cells ps 34 (0, 0))) := (below1 W3 _).block _ (Ca.lt_of_heap R1_3.out) |>.trans R1_3.out
    have hp9 := strOfNums_size x.pd
    have hi9 := strOfNums_size x.io
    have c35 := (Ca.cell_row R1_4.out 35).trans G35.out
    have c19 := (Ca.cell_row R1_4.out 19).trans G19.out
    obtain ⟨q1, q2, q3⟩ := QQ.out
    have q4 : (A : Int) ≤ ((A + U : Nat) : Int) := by omega
    have q5 : ((A + U : Nat) : Int) ≤ (cap : Int) := by have := HN9.out; have := CAP.out; omega
    have q6 : ¬ cap = A := by have := HN9.out; have := CAP.out; have := NN.out; omega
    have q7 : A + U - A = U := by omega
    go_wp2_with (first
      | ((with_reducible (refine isStore 25 _ _ rfl rfl ?_)); refine Ca.wpList_store_new rfl 25 _ _ rfl #[.int .u64 0, .int .u64 0, .bool false, .int .i64 0, .int .i64 0] #[.int .u64 x.d, .int .u64 x.s, .bool x.tg, .int .i64 x.tag, .int .i64 x.et] _ rfl rfl rfl eth5 rfl (by kernel_rfl) ?_)
      | ((with_reducible (refine isDst 100 rfl ?_)); refine StopP.out ?_)
      | fail)
    have hb03 : b0 < W3.heap.size := by
      rcases S_3.out.cells with h0 | ⟨b, off, e, hc⟩
      · have := HN9.out; have := NN.out; omega
      · cases e
        have hl := S_3.out.len
        have h9 : 0 < L.length := by have := HN9.out; have := NN.out; omega
        exact cell_lt (hc 0 h9)
    clear c35 c19 q1 q2 q3 q4 q5 q6 hp9 hi9 G35 G19
    have B_W4 : Hid (Below w.heap.size w (W3.alloc (.cells #[.int .u64 x.d, .int .u64 x.s, .bool x.tg, .int .i64 x.tag, .int .i64 x.et] 25))) := B3.out.alloc B3.out.size _
    have R2_4 : Hid ((W3.alloc (.cells #[.int .u64 x.d, .int .u64 x.s, .bool x.tg, .int .i64 x.tag, .int .i64 x.et] 25)).heap[w.heap.size + 1]? = some (.cells zeroPk 34 (0, 0))) := (below1 W3 _).block _ (Ca.lt_of_heap R2_3.out) |>.trans R2_3.out
    have S_4 : Hid (BS (W3.alloc (.cells #[.int .u64 x.d, .int .u64 x.s, .bool x.tg, .int .i64 x.tag, .int .i64 x.et] 25)) (some ⟨b0, off0 + A, none⟩) (U) Q) := by
      show BS _ _ _ _
      rw [← HQF.out]
      have := HN9.out; have := NN.out; have := HCU.out
      exact ((S_3.out.below (below1 W3 _)).drop (by omega) A (by omega)).take _ (by omega)
    have hb04 : Hid (b0 < (W3.alloc (.cells #[.int .u64 x.d, .int .u64 x.s, .bool x.tg, .int .i64 x.tag, .int .i64 x.et] 25)).heap.size) := by show _ < _; simp; omega
    obtain ⟨W4, hW4⟩ : ∃ V, W3.alloc (.cells #[.int .u64 x.d, .int .u64 x.s, .bool x.tg, .int .i64 x.tag, .int .i64 x.et] 25) = V := ⟨_, rfl⟩
    rw [hW4] at B_W4 R1_4 R2_4 S_4 hb04 ⊢
    clear hW4 B3 R1_3 R2_3 S_3 hb03 QQ HM9 HN9 HCU HLF HQF HVF CAP q7
    obtain ⟨o1, ho1⟩ : ∃ p, x.err1.ps = p := ⟨_, rfl⟩
    have Zo1 : Hid (o1.size = 36) := by show _ = _; rw [← ho1]; exact PkR.size _
    have Oo1 : Hid (o1.all (·.oneCell') = true) := by show _ = _; rw [← ho1]; exact PkR.one _
    have hbld : Try.prog.built 34 [(0, .agg #[.int .u64 x.d, .int .u64 x.s, .bool x.tg, .int .i64 x.tag, .int .i64 x.et]), (3, .bool true)] = some o1 := by rw [← ho1]; kernel_rfl
    have D0 : Hid (o1[0]? = some (.int .u64 x.d)) := by show _ = _; rw [← ho1]; rfl
    have D1 : Hid (o1[1]? = some (.int .u64 x.s)) := by show _ = _; rw [← ho1]; rfl
    obtain ⟨o2, ho2⟩ : ∃ p, (o1.setIfInBounds 0 (.int .u64 x.s)).setIfInBounds 1 (.int .u64 mm) = p := ⟨_, rfl⟩
    have Eo2 : StopP ((o1.setIfInBounds 0 (.int .u64 x.s)).setIfInBounds 1 (.int .u64 mm) = o2) := StopP.mk ho2
    have Zo2 : Hid (o2.size = 36) := by show _ = _; rw [← ho2, Array.size_setIfInBounds, Array.size_setIfInBounds]; exact Zo1.out
    obtain ⟨o3, ho3⟩ : ∃ p, Ca.putC o2 12 (#[.int .i64 0, .int .i64 0, .int .i64 0, .int .i64 64, .int .i64 1, .int .u32 ip, .int .u32 x.src, .string ⟨#[]⟩] : Array Value).toList = p := ⟨_, rfl⟩
    have Eo3 : StopP (Ca.putC o2 12 (#[.int .i64 0, .int .i64 0, .int .i64 0, .int .i64 64, .int .i64 1, .int .u32 ip, .int .u32 x.src, .string ⟨#[]⟩] : Array Value).toList = o3) := StopP.mk ho3
    have Zo3 : Hid (o3.size = 36) := by show _ = _; rw [← ho3, Ca.putC_size]; exact Zo2.out
    have Eo4 : StopP (Ca.putC o3 20 (#[.int .i64 1, .int .i64 kk, .int .i64 cc, .int .u32 0, .int .i64 0, .int .i64 0, .bool false, .int .u32 0, .int .u32 0, .int .i64 0, .int .i64 0, .int .i64 0, .string ⟨#[]⟩, .string (strOfNums Q)] : Array Value).toList = o4) := by
      refine StopP.mk ?_
      rw [← EY.out, ← ho3, ← ho2, ← ho1]; kernel_rfl
    have Zo4 : Hid (o4.size = 36) := by show _ = _; rw [← EY.out]; exact PkR.size _
    have Oo4 : Hid (o4.all (·.oneCell') = true) := by show _ = _; rw [← EY.out]; exact PkR.one _
    clear ho1 ho2 ho3 EY
    refine StopP.mk ?_
    go_wp2_with (first
      | ((with_reducible (refine isLoad 25 _ rfl ?_)); refine Ca.wpList_load_at rfl 25 _ rfl w.heap.size 0 5 rfl ps 34 _ R1_4.out Try.underlying25 rfl (by rw [GE.out]; rfl) (by kernel_rfl) ?_; rw [GE.out]; refine Ca.wpList_build_as rfl 34 _ rfl o1 (by rw [List.map_toArray]; show Try.prog.built 34 [(0, .agg #[.int .u64 x.d, .int .u64 x.s, .bool x.tg, .int .i64 x.tag, .int .i64 x.et]), (3, .bool true)] = _; exact hbld) ?_)
      | ((with_reducible (refine isStore 34 _ _ rfl rfl ?_)); refine Ca.wpList_store_new rfl 34 _ _ rfl zeroPk o1 _ rfl rfl rfl (info36 Zo1.out) (Eq.trans (b := 36) rfl Zo1.out.symm) Oo1.out ?_; refine StopP.out ?_)
      | fail)
    have hb3 := below1 W4 (.cells o1 34)
    have B_W5 : Hid (Below w.heap.size w (W4.alloc (.cells o1 34))) := B_W4.out.trans (hb3.mono B_W4.out.size)
    have R1_W5 : Hid ((W4.alloc (.cells o1 34)).heap[w.heap.size]? = some (.cells ps 34 (0, 0))) := (hb3.block _ (Ca.lt_of_heap R1_4.out)).trans R1_4.out
    have R2_W5 : Hid ((W4.alloc (.cells o1 34)).heap[w.heap.size + 1]? = some (.cells zeroPk 34 (0, 0))) := (hb3.block _ (Ca.lt_of_heap R2_4.out)).trans R2_4.out
    have R3_W5 : Hid ((W4.alloc (.cells o1 34)).heap[W4.heap.size]? = some (.cells o1 34 (0, 0))) := heap_alloc_new W4 _
    have S_5 : Hid (BS (W4.alloc (.cells o1 34)) (some ⟨b0, off0 + A, none⟩) (U) Q) := S_4.out.below hb3
    have hg2 : Hid (w.heap.size + 1 < W4.heap.size) := Ca.lt_of_heap R2_4.out
    obtain ⟨W5, hW⟩ : ∃ V, (W4.alloc (.cells o1 34)) = V := ⟨_, rfl⟩
    obtain ⟨g, hg⟩ : ∃ n, W4.heap.size = n := ⟨_, rfl⟩
    rw [hW] at B_W5 R1_W5 R2_W5 R3_W5 S_5 ⊢
    rw [hg] at R3_W5 hg2 hb04 ⊢
    have hgg := hg2.out
    have hb0g := hb04.out
    clear hW hg hb3 B_W4 R1_4 R2_4 S_4 hbld
    refine StopP.mk ?_
    have c1p := (Ca.cell_row R1_W5.out 1).trans G1.out
    have c0 := (Ca.cell_row R3_W5.out 0).trans D0.out
    have c1 := (Ca.cell_row R3_W5.out 1).trans D1.out
    have f0 := frozen_of_row W5 _ 0 _ _ R3_W5.out
    have f1 := frozen_of_row W5 _ 1 _ _ R3_W5.out
    have hne1 : ¬ w.heap.size = g := by omega
    have hne2 : ¬ g = w.heap.size := by omega
    obtain ⟨m1, m2, m3, m4, m5, m6⟩ := MW.out
    go_wp2_with ((with_reducible (refine isDst 113 rfl ?_)); refine StopP.out ?_)
    clear c1p c0 c1 f0 f1
    have B_W6 : Hid (Below w.heap.size w ((W5.setCell ⟨g, 0, none⟩ (.int .u64 x.s)).setCell ⟨g, 1, none⟩ (.int .u64 mm))) := (B_W5.out.setCell (show w.heap.size ≤ g by omega) _).setCell (show w.heap.size ≤ g by omega) _
    have R1_W6 : Hid (((W5.setCell ⟨g, 0, none⟩ (.int .u64 x.s)).setCell ⟨g, 1, none⟩ (.int .u64 mm)).heap[w.heap.size]? = some (.cells ps 34 (0, 0))) := ((Below.heap_setCell _ _ _ _ (show w.heap.size ≠ g by omega)).trans ((Below.heap_setCell _ _ _ _ (show w.heap.size ≠ g by omega)).trans R1_W5.out))
    have R2_W6 : Hid (((W5.setCell ⟨g, 0, none⟩ (.int .u64 x.s)).setCell ⟨g, 1, none⟩ (.int .u64 mm)).heap[w.heap.size + 1]? = some (.cells zeroPk 34 (0, 0))) := ((Below.heap_setCell _ _ _ _ (show w.heap.size + 1 ≠ g by omega)).trans ((Below.heap_setCell _ _ _ _ (show w.heap.size + 1 ≠ g by omega)).trans R2_W5.out))
    have R3_W6 : Hid (((W5.setCell ⟨g, 0, none⟩ (.int .u64 x.s)).setCell ⟨g, 1, none⟩ (.int .u64 mm)).heap[g]? = some (.cells o2 34 (0, 0))) := by show _ = _; rw [← Eo2.out]; exact Ca.row_setCell (Ca.row_setCell R3_W5.out 0 _) 1 _
    have S_6 : Hid (BS ((W5.setCell ⟨g, 0, none⟩ (.int .u64 x.s)).setCell ⟨g, 1, none⟩ (.int .u64 mm)) (some ⟨b0, off0 + A, none⟩) (U) Q) := bs_far (bs_far S_5.out (by omega)) (by omega)
    obtain ⟨W6, hW⟩ : ∃ V, ((W5.setCell ⟨g, 0, none⟩ (.int .u64 x.s)).setCell ⟨g, 1, none⟩ (.int .u64 mm)) = V := ⟨_, rfl⟩
    rw [hW] at B_W6 R1_W6 R2_W6 R3_W6 S_6 ⊢
    clear hW B_W5 R1_W5 R2_W5 R3_W5 S_5 Eo2 D0 D1
    refine StopP.mk ?_
    have c17 := (Ca.cell_row R1_W6.out 17).trans G17.out
    have hs_W7 : 12 + (#[.int .i64 0, .int .i64 0, .int .i64 0, .int .i64 64, .int .i64 1, .int .u32 ip, .int .u32 x.src, .string ⟨#[]⟩] : Array Value).size ≤ o2.size := by rw [Zo2.out]; exact Nat.le_of_ble_eq_true (by kernel_rfl)
    go_wp2_with (first
      | ((with_reducible (refine isStore 30 _ _ rfl rfl ?_)); refine Ca.wpList_store_at rfl 30 _ _ rfl g 12 o2 #[.int .i64 0, .int .i64 0, .int .i64 0, .int .i64 64, .int .i64 1, .int .u32 ip, .int .u32 x.src, .string ⟨#[]⟩] 34 rfl rfl R3_W6.out (by kernel_rfl) hs_W7 (by kernel_rfl) ?_)
      | fail)
    intro W7 y1 y2 y3 y4
    have B_W7 : Hid (Below w.heap.size w W7) := B_W6.out.trans (y4.mono (by omega))
    have R1_W7 : Hid (W7.heap[w.heap.size]? = some (.cells ps 34 (0, 0))) := (y2 _ (by omega)).trans R1_W6.out
    have R2_W7 : Hid (W7.heap[w.heap.size + 1]? = some (.cells zeroPk 34 (0, 0))) := (y2 _ (by omega)).trans R2_W6.out
    have R3_W7 : Hid (W7.heap[g]? = some (.cells o3 34 (0, 0))) := by show _ = _; rw [← Eo3.out]; exact y1
    have S_7 : Hid (BS W7 (some ⟨b0, off0 + A, none⟩) (U) Q) := S_6.out.under y4 (by omega)
    clear y1 y2 y3 y4 B_W6 R1_W6 R2_W6 R3_W6 S_6 hs_W7 Eo3
    clear c17
    have hs_W8 : 20 + (#[.int .i64 1, .int .i64 kk, .int .i64 cc, .int .u32 0, .int .i64 0, .int .i64 0, .bool false, .int .u32 0, .int .u32 0, .int .i64 0, .int .i64 0, .int .i64 0, .string ⟨#[]⟩, .string (strOfNums Q)] : Array Value).size ≤ o3.size := by rw [Zo3.out]; exact Nat.le_of_ble_eq_true (by kernel_rfl)
    have cv := run_conv_bs (P := Try.prog) (w := W7) (cap - A) S_7.out 22 9 5 Try.underlying22 Try.underlying5 Try.underlying9
    go_wp2_with (first
      | ((with_reducible (refine isStore 32 _ _ rfl rfl ?_)); refine Ca.wpList_store_at rfl 32 _ _ rfl g 20 o3 #[.int .i64 1, .int .i64 kk, .int .i64 cc, .int .u32 0, .int .i64 0, .int .i64 0, .bool false, .int .u32 0, .int .u32 0, .int .i64 0, .int .i64 0, .int .i64 0, .string ⟨#[]⟩, .string (strOfNums Q)] 34 rfl rfl R3_W7.out (by kernel_rfl) hs_W8 (by kernel_rfl) ?_)
      | fail)
    intro W8 y1 y2 y3 y4
    have B_W8 : Hid (Below w.heap.size w W8) := B_W7.out.trans (y4.mono (by omega))
    have R2_W8 : Hid (W8.heap[w.heap.size + 1]? = some (.cells zeroPk 34 (0, 0))) := (y2 _ (by omega)).trans R2_W7.out
    have R3_W8 : Hid (W8.heap[g]? = some (.cells o4 34 (0, 0))) := by show _ = _; rw [← Eo4.out]; exact y1
    clear y1 y2 y3 y4 B_W7 R1_W7 R2_W7 R3_W7 S_7 hs_W8 cv Eo4
    go_wp2_with (first
      | ((with_reducible (refine isLoad 34 _ rfl ?_)); refine wpList_load_row rfl 34 _ rfl g rfl 34 o4 (0, 0) _ R3_W8.out Try.underlying34 rfl (info36 Zo4.out) ?_)
      | ((with_reducible (refine isStore 34 _ _ rfl rfl ?_)); refine Ca.wpList_store_row rfl 34 _ _ rfl (w.heap.size + 1) zeroPk o4 34 rfl rfl R2_W8.out (info36 Zo4.out) (Eq.trans (b := 36) rfl Zo4.out.symm) Oo4.out ?_)
      | fail)
    intro W9 y1 y2 y3 y4
    go_wp2
    exact bodyPost_ret (results_pk (p := 10) (u := 11) rfl _ _ (w.heap.size + 1) o4 rfl y1 Zo4.out) rfl ⟨rfl, B_W8.out.trans (y4.mono (by omega))⟩
set_option maxHeartbeats 8000000 in
theorem PkR.rerrYes_m1 (x : PkR) (mac ip kind code : Int) (w : World) (h11 : x.ii = true) (hkc : (x.l.k == 1) = false ∨ ((x.l.k == 1) = true ∧ (x.l.ty != 0) = false) ∨ ((x.l.k == 1) = true ∧ (x.l.ty != 0) = true ∧ (x.l.ty != 8) = false)) (h6 : (x.src == 0) = false) (h7 : x.src < 3758096384) (n A U M : Nat) (L Q : List Int) (hL : ∀ i, 0 ≤ L.getD i 0 ∧ L.getD i 0 ≤ 255) (hn : n = A + U + x.pd.length) (hn9 : n ≤ 9018) (hA0 : 0 < A) (hU : 0 < U) (hM : 28 + x.io.length = M) (hM9 : M ≤ 1000) (hcut : M < U) (hQ : (L.drop A).take M = Q) (hv : Eth.headV L = Eth.ethV x.d x.s x.tg x.tag x.et A 0) (mm kk cc : Int) (hm : mac.tmod 281474976710656 = mm) (hmw : IntKind.u64.wrap mm = mm) (hk : IntKind.u8.wrap kind = kk) (hc : IntKind.u8.wrap code = cc) (hkw : IntKind.i64.wrap kk = kk) (hcw : IntKind.i64.wrap cc = cc)
    (HF : Hid (∀ W, Calls Try.prog 38 #[.agg #[.int .i64 x.tos, .int .i64 x.id, .int .i64 x.fr, .int .i64 x.ttl, .int .i64 x.pr, .int .u32 x.src, .int .u32 x.dst, .string (strOfNums x.io)]] W fun e w' => e = .returned (.bool true) ∧ Below W.heap.size W w'))
    (HMu : Hid (∀ W, Calls Try.prog 39 #[.int .u64 x.s] W fun e w' => e = .returned (.bool false) ∧ w' = W))
    (HP : Hid (∀ W, Calls Try.prog 12 #[.agg x.ps] W fun e w' => ∃ a cap, e = .returned (.tuple #[.slice a n cap, .int .i64 0]) ∧ RB W w' (.slice a n cap) n L)) :
    Calls Try.prog 14 #[.agg x.ps, .int .u64 mac, .int .u32 ip, .int .i64 kind, .int .i64 code] w fun e w' => e = .returned (.tuple #[.agg (x.errR mm ip kk cc Q).ps, .bool true]) ∧ Below w.heap.size w w' := by
  obtain ⟨o4, EY⟩ : ∃ p, Hid ((x.errR mm ip kk cc Q).ps = p) := ⟨_, rfl⟩
  rw [EY.out]
  have q1 : IntKind.i64.wrap ((n : Int) - x.pd.length) = ((A + U : Nat) : Int) := by
    rw [show (n : Int) - x.pd.length = ((A + U : Nat) : Int) by omega]
    simp [IntKind.wrap, IntKind.bits, IntKind.signed]; omega
  have q2 : IntKind.i64.wrap (28 + (x.io.length : Int)) = (M : Int) := by
    rw [show 28 + (x.io.length : Int) = (M : Int) by omega]
    simp [IntKind.wrap, IntKind.bits, IntKind.signed]; omega
  have q3 : (M : Int) < (U : Int) := by omega
  have QQ : Hid _ := And.intro q1 (And.intro q2 q3)
  have HM9 : Hid (28 + x.io.length = M) := hM
  have HN9 : Hid (n = A + U + x.pd.length) := hn
  have HCU : Hid (M < U) := hcut
  have MW : Hid _ := And.intro hm (And.intro hmw (And.intro hk (And.intro hc (And.intro hkw hcw))))
  have HLF : Hid _ := hL
  have HQF : Hid _ := hQ
  have HVF : Hid _ := hv
  have NN : Hid _ := And.intro hn9 (And.intro hA0 (And.intro hU hM9))
  clear q1 q2 q3 hM hn hcut hm hmw hk hc hkw hcw hL hQ hv hn9 hA0 hU hM9
  have HS : Hid (x.ps.size = 36) := PkR.size x
  have G11 : Hid _ := PkR.get11 x
  have G17 : Hid _ := PkR.get17 x
  have G1 : Hid _ := PkR.get1 x
  have G35 : Hid _ := PkR.get35 x
  have G19 : Hid _ := PkR.get19 x
  have G20 : Hid _ := PkR.get20 x
  have G21 : Hid _ := PkR.get21 x
  have GI : Hid _ := PkR.exI x
  have GE : Hid _ := PkR.exE x
  obtain ⟨ps, hps⟩ : ∃ p, x.ps = p := ⟨_, rfl⟩
  rw [hps] at G11 G17 G1 G35 G19 G20 G21 GI GE HS HP ⊢
  clear hps
  have L1 : Hid _ := Ca.two_first w (.cells ps 34) (.cells zeroPk 34)
  have L2 : Hid _ := Ca.two_last w (.cells ps 34) (.cells zeroPk 34)
  have LB : Hid _ := below2 w (.cells ps 34) (.cells zeroPk 34)
  have c11 := G11.out
  rw [h11] at c11
  rcases hkc with h3 | ⟨h3, h4⟩ | ⟨h3, h4, h5⟩
  all_goals
    go_enter Try.func14, Try.ntmps14
    go_wp2_with (first
      | ((with_reducible (refine isLoad 30 _ rfl ?_)); refine Ca.wpList_load_atw (by rfl) 30 _ rfl w.heap.size 12 8 rfl ps #[.int .i64 x.tos, .int .i64 x.id, .int .i64 x.fr, .int .i64 x.ttl, .int .i64 x.pr, .int .u32 x.src, .int .u32 x.dst, .string (strOfNums x.io)] 34 _ L1.out Try.underlying30 rfl GI.out rfl (by kernel_rfl) ?_)
      | fail)
    refine (HF.out _).mono ?_
    rintro e W1 ⟨rfl, hb⟩
    have B1 : Hid (Below w.heap.size w W1) := LB.out.trans (hb.mono (by first | exact LB.out.size | (simp; omega)))
    have R1_1 : Hid (W1.heap[w.heap.size]? = some (.cells ps 34 (0, 0))) := (hb.block _ (Ca.lt_of_heap L1.out)).trans L1.out
    have R2_1 : Hid (W1.heap[w.heap.size + 1]? = some (.cells zeroPk 34 (0, 0))) := (hb.block _ (Ca.lt_of_heap L2.out)).trans L2.out
    clear hb L1 L2 LB HF c11
    have c20 := (Ca.cell_row R1_1.out 20).trans G20.out
    have c21 := (Ca.cell_row R1_1.out 21).trans G21.out
    have c17 := (Ca.cell_row R1_1.out 17).trans G17.out
    have c1 := (Ca.cell_row R1_1.out 1).trans G1.out
    go_wp2_with fail
    refine (HMu.out _).mono ?_
    rintro e w' ⟨rfl, rfl⟩
    clear c20 c21 c17 c1
    go_wp2_with ((with_reducible (refine isLoad 34 _ rfl ?_)); refine wpList_load_row rfl 34 _ rfl (w.heap.size) rfl 34 ps (0, 0) _ R1_1.out Try.underlying34 rfl (info36 HS.out) ?_)
    refine (HP.out _).mono ?_
    rintro e W2 ⟨a, cap, rfl, r2⟩
    have hb := r2.bel
    have B2 : Hid (Below w.heap.size w W2) := B1.out.trans (hb.mono B1.out.size)
    have R1_2 : Hid (W2.heap[w.heap.size]? = some (.cells ps 34 (0, 0))) := (hb.block _ (Ca.lt_of_heap R1_1.out)).trans R1_1.out
    have R2_2 : Hid (W2.heap[w.heap.size + 1]? = some (.cells zeroPk 34 (0, 0))) := (hb.block _ (Ca.lt_of_heap R2_1.out)).trans R2_1.out
    have hcap := own_caps r2.own
    have S2 : BS W2 a n L := r2.bs HLF.out (by have := NN.out; omega)
    obtain ⟨b0, off0, rfl, _⟩ := S2.cells.resolve_left (by have := HN9.out; have := NN.out; omega)
    have S_2 : Hid (BS W2 (some ⟨b0, off0, none⟩) n L) := S2
    have CAP : Hid (n ≤ cap ∧ cap ≤ 9223372036854775807) := hcap
    clear hb HP B1 R1_1 R2_1 HMu r2 S2 hcap
    go_wp2_with fail
    refine (Eth.rhead_any cap S_2.out CAP.out.1 CAP.out.2).mono ?_
    rw [HVF.out]
    unfold Eth.ethV
    rintro e W3 ⟨rfl, hb⟩
    have B3 : Hid (Below w.heap.size w W3) := B2.out.trans (hb.mono B2.out.size)
    have R1_3 : Hid (W3.heap[w.heap.size]? = some (.cells ps 34 (0, 0))) := (hb.block _ (Ca.lt_of_heap R1_2.out)).trans R1_2.out
    have R2_3 : Hid (W3.heap[w.heap.size + 1]? = some (.cells zeroPk 34 (0, 0))) := (hb.block _ (Ca.lt_of_heap R2_2.out)).trans R2_2.out
    have S_3 : Hid (BS W3 (some ⟨b0, off0, none⟩) n L) := S_2.out.below hb
    clear hb B2 R1_2 R2_2 S_2
    have R1_4 : Hid ((W3.alloc (.cells #[.int .u64 x.d, .int .u64 x.s, .bool x.tg, .int .i64 x.tag, .int .i64 x.et] 25)).heap[w.heap.size]? = some (.cells ps 34 (0, 0))) := (below1 W3 _).block _ (Ca.lt_of_heap R1_3.out) |>.trans R1_3.out
    have hp9 := strOfNums_size x.pd
    have hi9 := strOfNums_size x.io
    have c35 := (Ca.cell_row R1_4.out 35).trans G35.out
    have c19 := (Ca.cell_row R1_4.out 19).trans G19.out
    obtain ⟨q1, q2, q3⟩ := QQ.out
    have q4 : (A : Int) ≤ ((A + U : Nat) : Int) := by omega
    have q5 : ((A + U : Nat) : Int) ≤ (cap : Int) := by have := HN9.out; have := CAP.out; omega
    have q6 : ¬ cap = A := by have := HN9.out; have := CAP.out; have := NN.out; omega
    have q7 : A + U - A = U := by omega
    go_wp2_with (first
      | ((with_reducible (refine isStore 25 _ _ rfl rfl ?_)); refine Ca.wpList_store_new rfl 25 _ _ rfl #[.int .u64 0, .int .u64 0, .bool false, .int .i64 0, .int .i64 0] #[.int .u64 x.d, .int .u64 x.s, .bool x.tg, .int .i64 x.tag, .int .i64 x.et] _ rfl rfl rfl eth5 rfl (by kernel_rfl) ?_)
      | ((with_reducible (refine isDst 100 rfl ?_)); refine StopP.out ?_)
      | fail)
    have hb03 : b0 < W3.heap.size := by
      rcases S_3.out.cells with h0 | ⟨b, off, e, hc⟩
      · have := HN9.out; have := NN.out; omega
      · cases e
        have hl := S_3.out.len
        have h9 : 0 < L.length := by have := HN9.out; have := NN.out; omega
        exact cell_lt (hc 0 h9)
    clear c35 c19 q1 q2 q3 q4 q5 q6 hp9 hi9 G35 G19
    have B_W4 : Hid (Below w.heap.size w (W3.alloc (.cells #[.int .u64 x.d, .int .u64 x.s, .bool x.tg, .int .i64 x.tag, .int .i64 x.et] 25))) := B3.out.alloc B3.out.size _
    have R2_4 : Hid ((W3.alloc (.cells #[.int .u64 x.d, .int .u64 x.s, .bool x.tg, .int .i64 x.tag, .int .i64 x.et] 25)).heap[w.heap.size + 1]? = some (.cells zeroPk 34 (0, 0))) := (below1 W3 _).block _ (Ca.lt_of_heap R2_3.out) |>.trans R2_3.out
    have S_4 : Hid (BS (W3.alloc (.cells #[.int .u64 x.d, .int .u64 x.s, .bool x.tg, .int .i64 x.tag, .int .i64 x.et] 25)) (some ⟨b0, off0 + A, none⟩) (M) Q) := by
      show BS _ _ _ _
      rw [← HQF.out]
      have := HN9.out; have := NN.out; have := HCU.out
      exact ((S_3.out.below (below1 W3 _)).drop (by omega) A (by omega)).take _ (by omega)
    have hb04 : Hid (b0 < (W3.alloc (.cells #[.int .u64 x.d, .int .u64 x.s, .bool x.tg, .int .i64 x.tag, .int .i64 x.et] 25)).heap.size) := by show _ < _; simp; omega
    obtain ⟨W4, hW4⟩ : ∃ V, W3.alloc (.cells #[.int .u64 x.d, .int .u64 x.s, .bool x.tg, .int .i64 x.tag, .int .i64 x.et] 25) = V := ⟨_, rfl⟩
    rw [hW4] at B_W4 R1_4 R2_4 S_4 hb04 ⊢
    clear hW4 B3 R1_3 R2_3 S_3 hb03 QQ HM9 HN9 HCU HLF HQF HVF CAP q7
    obtain ⟨o1, ho1⟩ : ∃ p, x.err1.ps = p := ⟨_, rfl⟩
    have Zo1 : Hid (o1.size = 36) := by show _ = _; rw [← ho1]; exact PkR.size _
    have Oo1 : Hid (o1.all (·.oneCell') = true) := by show _ = _; rw [← ho1]; exact PkR.one _
    have hbld : Try.prog.built 34 [(0, .agg #[.int .u64 x.d, .int .u64 x.s, .bool x.tg, .int .i64 x.tag, .int .i64 x.et]), (3, .bool true)] = some o1 := by rw [← ho1]; kernel_rfl
    have D0 : Hid (o1[0]? = some (.int .u64 x.d)) := by show _ = _; rw [← ho1]; rfl
    have D1 : Hid (o1[1]? = some (.int .u64 x.s)) := by show _ = _; rw [← ho1]; rfl
    obtain ⟨o2, ho2⟩ : ∃ p, (o1.setIfInBounds 0 (.int .u64 x.s)).setIfInBounds 1 (.int .u64 mm) = p := ⟨_, rfl⟩
    have Eo2 : StopP ((o1.setIfInBounds 0 (.int .u64 x.s)).setIfInBounds 1 (.int .u64 mm) = o2) := StopP.mk ho2
    have Zo2 : Hid (o2.size = 36) := by show _ = _; rw [← ho2, Array.size_setIfInBounds, Array.size_setIfInBounds]; exact Zo1.out
    obtain ⟨o3, ho3⟩ : ∃ p, Ca.putC o2 12 (#[.int .i64 0, .int .i64 0, .int .i64 0, .int .i64 64, .int .i64 1, .int .u32 ip, .int .u32 x.src, .string ⟨#[]⟩] : Array Value).toList = p := ⟨_, rfl⟩
    have Eo3 : StopP (Ca.putC o2 12 (#[.int .i64 0, .int .i64 0, .int .i64 0, .int .i64 64, .int .i64 1, .int .u32 ip, .int .u32 x.src, .string ⟨#[]⟩] : Array Value).toList = o3) := StopP.mk ho3
    have Zo3 : Hid (o3.size = 36) := by show _ = _; rw [← ho3, Ca.putC_size]; exact Zo2.out
    have Eo4 : StopP (Ca.putC o3 20 (#[.int .i64 1, .int .i64 kk, .int .i64 cc, .int .u32 0, .int .i64 0, .int .i64 0, .bool false, .int .u32 0, .int .u32 0, .int .i64 0, .int .i64 0, .int .i64 0, .string ⟨#[]⟩, .string (strOfNums Q)] : Array Value).toList = o4) := by
      refine StopP.mk ?_
      rw [← EY.out, ← ho3, ← ho2, ← ho1]; kernel_rfl
    have Zo4 : Hid (o4.size = 36) := by show _ = _; rw [← EY.out]; exact PkR.size _
    have Oo4 : Hid (o4.all (·.oneCell') = true) := by show _ = _; rw [← EY.out]; exact PkR.one _
    clear ho1 ho2 ho3 EY
    refine StopP.mk ?_
    go_wp2_with (first
      | ((with_reducible (refine isLoad 25 _ rfl ?_)); refine Ca.wpList_load_at rfl 25 _ rfl w.heap.size 0 5 rfl ps 34 _ R1_4.out Try.underlying25 rfl (by rw [GE.out]; rfl) (by kernel_rfl) ?_; rw [GE.out]; refine Ca.wpList_build_as rfl 34 _ rfl o1 (by rw [List.map_toArray]; show Try.prog.built 34 [(0, .agg #[.int .u64 x.d, .int .u64 x.s, .bool x.tg, .int .i64 x.tag, .int .i64 x.et]), (3, .bool true)] = _; exact hbld) ?_)
      | ((with_reducible (refine isStore 34 _ _ rfl rfl ?_)); refine Ca.wpList_store_new rfl 34 _ _ rfl zeroPk o1 _ rfl rfl rfl (info36 Zo1.out) (Eq.trans (b := 36) rfl Zo1.out.symm) Oo1.out ?_; refine StopP.out ?_)
      | fail)
    have hb3 := below1 W4 (.cells o1 34)
    have B_W5 : Hid (Below w.heap.size w (W4.alloc (.cells o1 34))) := B_W4.out.trans (hb3.mono B_W4.out.size)
    have R1_W5 : Hid ((W4.alloc (.cells o1 34)).heap[w.heap.size]? = some (.cells ps 34 (0, 0))) := (hb3.block _ (Ca.lt_of_heap R1_4.out)).trans R1_4.out
    have R2_W5 : Hid ((W4.alloc (.cells o1 34)).heap[w.heap.size + 1]? = some (.cells zeroPk 34 (0, 0))) := (hb3.block _ (Ca.lt_of_heap R2_4.out)).trans R2_4.out
    have R3_W5 : Hid ((W4.alloc (.cells o1 34)).heap[W4.heap.size]? = some (.cells o1 34 (0, 0))) := heap_alloc_new W4 _
    have S_5 : Hid (BS (W4.alloc (.cells o1 34)) (some ⟨b0, off0 + A, none⟩) (M) Q) := S_4.out.below hb3
    have hg2 : Hid (w.heap.size + 1 < W4.heap.size) := Ca.lt_of_heap R2_4.out
    obtain ⟨W5, hW⟩ : ∃ V, (W4.alloc (.cells o1 34)) = V := ⟨_, rfl⟩
    obtain ⟨g, hg⟩ : ∃ n, W4.heap.size = n := ⟨_, rfl⟩
    rw [hW] at B_W5 R1_W5 R2_W5 R3_W5 S_5 ⊢
    rw [hg] at R3_W5 hg2 hb04 ⊢
    have hgg := hg2.out
    have hb0g := hb04.out
    clear hW hg hb3 B_W4 R1_4 R2_4 S_4 hbld
    refine StopP.mk ?_
    have c1p := (Ca.cell_row R1_W5.out 1).trans G1.out
    have c0 := (Ca.cell_row R3_W5.out 0).trans D0.out
    have c1 := (Ca.cell_row R3_W5.out 1).trans D1.out
    have f0 := frozen_of_row W5 _ 0 _ _ R3_W5.out
    have f1 := frozen_of_row W5 _ 1 _ _ R3_W5.out
    have hne1 : ¬ w.heap.size = g := by omega
    have hne2 : ¬ g = w.heap.size := by omega
    obtain ⟨m1, m2, m3, m4, m5, m6⟩ := MW.out
    go_wp2_with ((with_reducible (refine isDst 113 rfl ?_)); refine StopP.out ?_)
    clear c1p c0 c1 f0 f1
    have B_W6 : Hid (Below w.heap.size w ((W5.setCell ⟨g, 0, none⟩ (.int .u64 x.s)).setCell ⟨g, 1, none⟩ (.int .u64 mm))) := (B_W5.out.setCell (show w.heap.size ≤ g by omega) _).setCell (show w.heap.size ≤ g by omega) _
    have R1_W6 : Hid (((W5.setCell ⟨g, 0, none⟩ (.int .u64 x.s)).setCell ⟨g, 1, none⟩ (.int .u64 mm)).heap[w.heap.size]? = some (.cells ps 34 (0, 0))) := ((Below.heap_setCell _ _ _ _ (show w.heap.size ≠ g by omega)).trans ((Below.heap_setCell _ _ _ _ (show w.heap.size ≠ g by omega)).trans R1_W5.out))
    have R2_W6 : Hid (((W5.setCell ⟨g, 0, none⟩ (.int .u64 x.s)).setCell ⟨g, 1, none⟩ (.int .u64 mm)).heap[w.heap.size + 1]? = some (.cells zeroPk 34 (0, 0))) := ((Below.heap_setCell _ _ _ _ (show w.heap.size + 1 ≠ g by omega)).trans ((Below.heap_setCell _ _ _ _ (show w.heap.size + 1 ≠ g by omega)).trans R2_W5.out))
    have R3_W6 : Hid (((W5.setCell ⟨g, 0, none⟩ (.int .u64 x.s)).setCell ⟨g, 1, none⟩ (.int .u64 mm)).heap[g]? = some (.cells o2 34 (0, 0))) := by show _ = _; rw [← Eo2.out]; exact Ca.row_setCell (Ca.row_setCell R3_W5.out 0 _) 1 _
    have S_6 : Hid (BS ((W5.setCell ⟨g, 0, none⟩ (.int .u64 x.s)).setCell ⟨g, 1, none⟩ (.int .u64 mm)) (some ⟨b0, off0 + A, none⟩) (M) Q) := bs_far (bs_far S_5.out (by omega)) (by omega)
    obtain ⟨W6, hW⟩ : ∃ V, ((W5.setCell ⟨g, 0, none⟩ (.int .u64 x.s)).setCell ⟨g, 1, none⟩ (.int .u64 mm)) = V := ⟨_, rfl⟩
    rw [hW] at B_W6 R1_W6 R2_W6 R3_W6 S_6 ⊢
    clear hW B_W5 R1_W5 R2_W5 R3_W5 S_5 Eo2 D0 D1
    refine StopP.mk ?_
    have c17 := (Ca.cell_row R1_W6.out 17).trans G17.out
    have hs_W7 : 12 + (#[.int .i64 0, .int .i64 0, .int .i64 0, .int .i64 64, .int .i64 1, .int .u32 ip, .int .u32 x.src, .string ⟨#[]⟩] : Array Value).size ≤ o2.size := by rw [Zo2.out]; exact Nat.le_of_ble_eq_true (by kernel_rfl)
    go_wp2_with (first
      | ((with_reducible (refine isStore 30 _ _ rfl rfl ?_)); refine Ca.wpList_store_at rfl 30 _ _ rfl g 12 o2 #[.int .i64 0, .int .i64 0, .int .i64 0, .int .i64 64, .int .i64 1, .int .u32 ip, .int .u32 x.src, .string ⟨#[]⟩] 34 rfl rfl R3_W6.out (by kernel_rfl) hs_W7 (by kernel_rfl) ?_)
      | fail)
    intro W7 y1 y2 y3 y4
    have B_W7 : Hid (Below w.heap.size w W7) := B_W6.out.trans (y4.mono (by omega))
    have R1_W7 : Hid (W7.heap[w.heap.size]? = some (.cells ps 34 (0, 0))) := (y2 _ (by omega)).trans R1_W6.out
    have R2_W7 : Hid (W7.heap[w.heap.size + 1]? = some (.cells zeroPk 34 (0, 0))) := (y2 _ (by omega)).trans R2_W6.out
    have R3_W7 : Hid (W7.heap[g]? = some (.cells o3 34 (0, 0))) := by show _ = _; rw [← Eo3.out]; exact y1
    have S_7 : Hid (BS W7 (some ⟨b0, off0 + A, none⟩) (M) Q) := S_6.out.under y4 (by omega)
    clear y1 y2 y3 y4 B_W6 R1_W6 R2_W6 R3_W6 S_6 hs_W7 Eo3
    clear c17
    have hs_W8 : 20 + (#[.int .i64 1, .int .i64 kk, .int .i64 cc, .int .u32 0, .int .i64 0, .int .i64 0, .bool false, .int .u32 0, .int .u32 0, .int .i64 0, .int .i64 0, .int .i64 0, .string ⟨#[]⟩, .string (strOfNums Q)] : Array Value).size ≤ o3.size := by rw [Zo3.out]; exact Nat.le_of_ble_eq_true (by kernel_rfl)
    have cv := run_conv_bs (P := Try.prog) (w := W7) (cap - A) S_7.out 22 9 5 Try.underlying22 Try.underlying5 Try.underlying9
    go_wp2_with (first
      | ((with_reducible (refine isStore 32 _ _ rfl rfl ?_)); refine Ca.wpList_store_at rfl 32 _ _ rfl g 20 o3 #[.int .i64 1, .int .i64 kk, .int .i64 cc, .int .u32 0, .int .i64 0, .int .i64 0, .bool false, .int .u32 0, .int .u32 0, .int .i64 0, .int .i64 0, .int .i64 0, .string ⟨#[]⟩, .string (strOfNums Q)] 34 rfl rfl R3_W7.out (by kernel_rfl) hs_W8 (by kernel_rfl) ?_)
      | fail)
    intro W8 y1 y2 y3 y4
    have B_W8 : Hid (Below w.heap.size w W8) := B_W7.out.trans (y4.mono (by omega))
    have R2_W8 : Hid (W8.heap[w.heap.size + 1]? = some (.cells zeroPk 34 (0, 0))) := (y2 _ (by omega)).trans R2_W7.out
    have R3_W8 : Hid (W8.heap[g]? = some (.cells o4 34 (0, 0))) := by show _ = _; rw [← Eo4.out]; exact y1
    clear y1 y2 y3 y4 B_W7 R1_W7 R2_W7 R3_W7 S_7 hs_W8 cv Eo4
    go_wp2_with (first
      | ((with_reducible (refine isLoad 34 _ rfl ?_)); refine wpList_load_row rfl 34 _ rfl g rfl 34 o4 (0, 0) _ R3_W8.out Try.underlying34 rfl (info36 Zo4.out) ?_)
      | ((with_reducible (refine isStore 34 _ _ rfl rfl ?_)); refine Ca.wpList_store_row rfl 34 _ _ rfl (w.heap.size + 1) zeroPk o4 34 rfl rfl R2_W8.out (info36 Zo4.out) (Eq.trans (b := 36) rfl Zo4.out.symm) Oo4.out ?_)
      | fail)
    intro W9 y1 y2 y3 y4
    go_wp2
    exact bodyPost_ret (results_pk (p := 10) (u := 11) rfl _ _ (w.heap.size + 1) o4 rfl y1 Zo4.out) rfl ⟨rfl, B_W8.out.trans (y4.mono (by omega))⟩
end Go.Proofs.Ytpiokeidcnbmbaa

namespace Go.Proofs.Ytpiokeidcnbmbaa
open Go.RowKit
set_option maxRecDepth 20000
theorem and255 (n : Int) : bits .and .i64 n 255 = n % 256 := by
  rw [Ip.andNat n 255 255 (by decide) (by omega), show (255 : Nat) = 2 ^ 8 - 1 from rfl, Nat.and_two_pow_sub_one_eq_mod, BitVec.toNat_ofInt]
  show (((n % 18446744073709551616).toNat % 256 : Nat) : Int) = n % 256
  omega
theorem and48 (n : Int) : bits .and .u64 n 281474976710655 = n % 281474976710656 := by
  show IntKind.u64.wrap ((BitVec.ofInt 64 n &&& BitVec.ofInt 64 281474976710655).toNat : Nat) = _
  rw [BitVec.toNat_and, show (BitVec.ofInt 64 281474976710655).toNat = 2 ^ 48 - 1 by decide, Nat.and_two_pow_sub_one_eq_mod, BitVec.toNat_ofInt]
  show IntKind.u64.wrap (((n % 18446744073709551616).toNat % 281474976710656 : Nat) : Int) = n % 281474976710656
  simp [IntKind.wrap, IntKind.bits, IntKind.signed]
  omega
theorem PkR.mayCases {x : PkR} (h : x.may = true) : x.ii = true ∧ firstB x.fr = true ∧ ((x.l.k == 1) = false ∨ ((x.l.k == 1) = true ∧ (x.l.ty != 0) = false) ∨ ((x.l.k == 1) = true ∧ (x.l.ty != 0) = true ∧ (x.l.ty != 8) = false)) ∧ (x.src == 0) = false ∧ x.src < 3758096384 ∧ multB x.s = false := by
  unfold PkR.may echoT at h
  simp only [Bool.and_eq_true, Bool.not_eq_true', decide_eq_true_eq] at h
  obtain ⟨h1, h2, h3, h4, h5, h6⟩ := h
  refine ⟨h1, h2, ?_, h4, h5, h6⟩
  cases hk : (x.l.k == 1)
  · exact .inl rfl
  · rw [hk] at h3
    simp only [Bool.true_and, Bool.not_eq_false', Bool.or_eq_true, beq_iff_eq] at h3
    rcases h3 with e | e
    · exact .inr (.inl ⟨rfl, by simp [e]⟩)
    · exact .inr (.inr ⟨rfl, by simp [e], by simp [e]⟩)
theorem PkR.rfirst {x : PkR} {b : Bool} (h : firstB x.fr = b) (W : World) : Calls Try.prog 38 #[.agg #[.int .i64 x.tos, .int .i64 x.id, .int .i64 x.fr, .int .i64 x.ttl, .int .i64 x.pr, .int .u32 x.src, .int .u32 x.dst, .string (strOfNums x.io)]] W fun e w' => e = .returned (.bool b) ∧ Below W.heap.size W w' := by
  rw [← h]; exact Ip.r3_First_any x.tos x.id x.fr x.ttl x.pr x.src x.dst x.io W
theorem PkR.rmulti {x : PkR} (hx : x.Fine) {b : Bool} (h : multB x.s = b) (W : World) : Calls Try.prog 39 #[.int .u64 x.s] W fun e w' => e = .returned (.bool b) ∧ w' = W := by
  rw [← h]; exact rmulti_any x.s hx.s W
theorem PkR.rerrMay {x : PkR} (hx : x.Fine) (hm : x.may = false) (mac ip kind code : Int) (w : World) :
    Calls Try.prog 14 #[.agg x.ps, .int .u64 mac, .int .u32 ip, .int .i64 kind, .int .i64 code] w fun e w' => e = .returned (.tuple #[.agg zeroPk, .bool false]) ∧ Below w.heap.size w w' := by
  cases h1 : x.ii
  · exact PkR.rerrII x mac ip kind code w h1
  cases h2 : firstB x.fr
  · exact PkR.rerrFirst x mac ip kind code w h1 (fun W => PkR.rfirst h2 W)
  have fin : (x.l.k == 1 && !echoT x.l.ty) = false → (x.src == 0) = false → x.src < 3758096384 → multB x.s = false → False := fun a b c d => by
    have : x.may = true := by unfold PkR.may; rw [h1, h2, a, b, d]; simpa using c
    rw [this] at hm; cases hm
  cases h3 : (x.l.k == 1)
  · skip
    cases h6 : (x.src == 0)
    · by_cases h7 : x.src < 3758096384
      · cases h8 : multB x.s
        · exact (fin (by rw [h3]; rfl) h6 h7 h8).elim
        · exact PkR.rerrMulti_m x mac ip kind code w h1 (.inl h3) h6 h7 (fun W => PkR.rfirst h2 W) (fun W => PkR.rmulti hx h8 W)
      · exact PkR.rerrGroup_m x mac ip kind code w h1 (.inl h3) h6 (by omega) (fun W => PkR.rfirst h2 W)
    · exact PkR.rerrZero_m x mac ip kind code w h1 (.inl h3) h6 (fun W => PkR.rfirst h2 W)
  · cases h4 : (x.l.ty != 0)
    · have e : x.l.ty = 0 := by simpa using h4
      cases h6 : (x.src == 0)
      · by_cases h7 : x.src < 3758096384
        · cases h8 : multB x.s
          · exact (fin (by rw [h3, e]; rfl) h6 h7 h8).elim
          · exact PkR.rerrMulti_m x mac ip kind code w h1 (.inr (.inl ⟨h3, h4⟩)) h6 h7 (fun W => PkR.rfirst h2 W) (fun W => PkR.rmulti hx h8 W)
        · exact PkR.rerrGroup_m x mac ip kind code w h1 (.inr (.inl ⟨h3, h4⟩)) h6 (by omega) (fun W => PkR.rfirst h2 W)
      · exact PkR.rerrZero_m x mac ip kind code w h1 (.inr (.inl ⟨h3, h4⟩)) h6 (fun W => PkR.rfirst h2 W)
    · cases h5 : (x.l.ty != 8)
      · have e : x.l.ty = 8 := by simpa using h5
        cases h6 : (x.src == 0)
        · by_cases h7 : x.src < 3758096384
          · cases h8 : multB x.s
            · exact (fin (by rw [h3, e]; rfl) h6 h7 h8).elim
            · exact PkR.rerrMulti_m x mac ip kind code w h1 (.inr (.inr ⟨h3, h4, h5⟩)) h6 h7 (fun W => PkR.rfirst h2 W) (fun W => PkR.rmulti hx h8 W)
          · exact PkR.rerrGroup_m x mac ip kind code w h1 (.inr (.inr ⟨h3, h4, h5⟩)) h6 (by omega) (fun W => PkR.rfirst h2 W)
        · exact PkR.rerrZero_m x mac ip kind code w h1 (.inr (.inr ⟨h3, h4, h5⟩)) h6 (fun W => PkR.rfirst h2 W)
      · exact PkR.rerrMsg x mac ip kind code w h1 h3 h4 h5 (fun W => PkR.rfirst h2 W)
theorem PkR.rerrorNo {x : PkR} (hx : x.Fine) (h9 : x.l.os.length ≤ 140737488355328) (h : ¬ x.Told) (mac ip kind code : Int) (w : World) :
    Calls Try.prog 14 #[.agg x.ps, .int .u64 mac, .int .u32 ip, .int .i64 kind, .int .i64 code] w fun e w' => e = .returned (.tuple #[.agg zeroPk, .bool false]) ∧ Below w.heap.size w w' := by
  cases hm : x.may
  · exact PkR.rerrMay hx hm mac ip kind code w
  obtain ⟨h1, h2, hc, h6, h7, h8⟩ := PkR.mayCases hm
  have HP : ∃ f : Int, (f != 0) = true ∧ ∀ W, Calls Try.prog 12 #[.agg x.ps] W fun e w' => e = .returned (.tuple #[.slice none 0 0, .int .i64 f]) ∧ Below W.heap.size W w' := by
    by_cases hf : x.Fits
    · exact ⟨3, rfl, fun W => PkR.rprintLong hx h9 hf (Nat.lt_of_not_le fun hl => h ⟨hm, hf, hl⟩) W⟩
    · exact ⟨1, rfl, fun W => PkR.rprintNo hx h9 hf W⟩
  obtain ⟨f, hf, HP⟩ := HP
  exact PkR.rerrPrint_m x mac ip kind code w h1 hc h6 h7 f hf (fun W => PkR.rfirst h2 W) (fun W => PkR.rmulti hx h8 W) HP
theorem PkR.rerrorYes {x : PkR} (hx : x.Fine) (h9 : x.l.os.length ≤ 140737488355328) (h : x.Told) (mac ip kind code : Int) (hmac : 0 ≤ mac ∧ mac ≤ 18446744073709551615) (w : World) :
    Calls Try.prog 14 #[.agg x.ps, .int .u64 mac, .int .u32 ip, .int .i64 kind, .int .i64 code] w fun e w' => e = .returned (.tuple #[.agg (x.errR (mac % 281474976710656) ip (kind % 256) (code % 256) x.quoted).ps, .bool true]) ∧ Below w.heap.size w w' := by
  obtain ⟨h1, h2, hc, h6, h7, h8⟩ := PkR.mayCases h.may
  have e := h.et
  have hf := Ip.encOk_yes (h.fits.ip e)
  have h4m := hf.most
  have hn : x.bytes.length = x.head.length + (x.inner.length + x.pd.length) := by rw [PkR.bytesI h.fits e, List.length_append, List.length_append]
  have hi := PkR.innerI_len e
  have hh := x.head_pos
  have hv := PkR.headV hx h.fits h.len x.head.length rfl
  have hm1 : mac.tmod 281474976710656 = mac % 281474976710656 := Int.tmod_eq_emod_of_nonneg hmac.1
  have hm2 : IntKind.u64.wrap (mac % 281474976710656) = mac % 281474976710656 := by simp [IntKind.wrap, IntKind.bits, IntKind.signed]; omega
  have hw : ∀ v : Int, IntKind.i64.wrap (v % 256) = v % 256 := fun v => by rw [IntKind.wrap_i64]; omega
  have HP := fun W => PkR.rprintYes hx h9 h.fits h.len W
  have HF := fun W => PkR.rfirst (x := x) h2 W
  have HM := fun W => PkR.rmulti hx h8 W
  have hdrop := PkR.dropI h.fits e x.head.length rfl
  by_cases hcut : 28 + x.io.length < x.inner.length
  · have hQ : (x.bytes.drop x.head.length).take (28 + x.io.length) = x.quoted := by
      rw [hdrop, List.take_append_of_le_length (by omega)]; rfl
    exact PkR.rerrYes_m1 x mac ip kind code w h1 hc h6 h7 x.bytes.length x.head.length x.inner.length (28 + x.io.length) x.bytes x.quoted (PkR.bytes_bd hx h.fits) (by omega) h.len (by omega) (by omega) rfl (by omega) (by omega) hQ hv _ _ _ hm1 hm2 (IntKind.wrap_u8 kind) (IntKind.wrap_u8 code) (hw kind) (hw code) HF HM HP
  · have hQ : (x.bytes.drop x.head.length).take x.inner.length = x.quoted := by
      unfold PkR.quoted
      rw [hdrop, List.take_append_of_le_length (by omega), List.take_of_length_le (by omega), List.take_of_length_le (by omega)]
    exact PkR.rerrYes_m0 x mac ip kind code w h1 hc h6 h7 x.bytes.length x.head.length x.inner.length (28 + x.io.length) x.bytes x.quoted (PkR.bytes_bd hx h.fits) (by omega) h.len (by omega) (by omega) rfl (by omega) (by omega) hQ hv _ _ _ hm1 hm2 (IntKind.wrap_u8 kind) (IntKind.wrap_u8 code) (hw kind) (hw code) HF HM HP
/-- The answer's numbers. -/
theorem PkR.err_fine {x : PkR} (hx : x.Fine) (h : x.Told) (mm ip kk cc : Int) (hm : 0 ≤ mm ∧ mm ≤ 281474976710655) (hip : 0 ≤ ip ∧ ip ≤ 4294967295) : (x.errR mm ip kk cc x.quoted).Fine := by
  have z := zeroPkR_fine
  have zl := zeroR_fine
  have hq := PkR.quoted_len h.et
  have hf := (Ip.encOk_yes (h.fits.ip h.et)).most
  have fq : ∀ i, 0 ≤ x.quoted.getD i 0 ∧ x.quoted.getD i 0 ≤ 255 := Eth.fits_take (PkR.inner_bd hx h.fits) _
  exact ⟨hx.s, ⟨hm.1, by show mm ≤ _; omega⟩, z.sha, z.tha, z.spa, z.tpa, hip, hx.src, z.io, z.bd, z.pd, z.iol, z.bdl, z.pdl, ⟨zl.re, zl.sq, zl.ak, zl.os, fq, by show x.quoted.length ≤ _; omega⟩⟩
theorem PkR.err_l4 {x : PkR} (h : x.Told) (mm ip kk cc : Int) (hk : 0 ≤ kk ∧ kk ≤ 255) (hc : 0 ≤ cc ∧ cc ≤ 255) : (x.errR mm ip kk cc x.quoted).l.ok = true := by
  have hq := PkR.quoted_len h.et
  have hf := (Ip.encOk_yes (h.fits.ip h.et)).most
  have h1 : fitN 8 kk = true := by show decide _ = true; simpa using hk
  have h2 : fitN 8 cc = true := by show decide _ = true; simpa using hc
  have hs := strOfNums_size x.quoted
  unfold L4R.ok l4Ok
  show (ownOk 1 kk cc 0 0 0 false 0 0 0 0 0 (strOfNums []) && numsOk kk cc 0 0 0 0 0 && !(decide (40 < (strOfNums []).size) || ((strOfNums []).size : Int) % 4 != 0 || decide (65515 < fixV 1 + (strOfNums []).size + (strOfNums x.quoted).size))) = true
  have a1 : ownOk 1 kk cc 0 0 0 false 0 0 0 0 0 (strOfNums []) = true := by unfold ownOk; rw [if_neg (by decide), if_pos rfl]; kernel_rfl
  have a2 : numsOk kk cc 0 0 0 0 0 = true := by unfold numsOk; rw [h1, h2]; decide
  rw [a1, a2, hs, show (strOfNums []).size = 0 from rfl, show fixV 1 = 8 from rfl]
  simp
  omega
theorem PkR.err_body {x : PkR} (mm ip kk cc : Int) : (x.errR mm ip kk cc x.quoted).l.body.length = 8 + x.quoted.length := by
  have := L4R.body_len (x.errR mm ip kk cc x.quoted).l
  have e1 : (x.errR mm ip kk cc x.quoted).l.k = 1 := rfl
  have e2 : (x.errR mm ip kk cc x.quoted).l.os = [] := rfl
  have e3 : (x.errR mm ip kk cc x.quoted).l.ds = x.quoted := rfl
  rw [e1, e2, e3, show fixV 1 = 8 from rfl] at this
  simp at this
  omega
theorem PkR.err_fits {x : PkR} (h : x.Told) (mm ip kk cc : Int) (hm : 0 ≤ mm ∧ mm ≤ 281474976710655) (hk : 0 ≤ kk ∧ kk ≤ 255) (hc : 0 ≤ cc ∧ cc ≤ 255) : (x.errR mm ip kk cc x.quoted).Fits := by
  have e := h.et
  have hh := h.fits.head
  have hq := PkR.quoted_len e
  have hf := (Ip.encOk_yes (h.fits.ip e)).most
  have hb := PkR.err_body (x := x) mm ip kk cc
  have e0 : (x.errR mm ip kk cc x.quoted).et = 2048 := e
  refine ⟨?_, ?_, fun e9 => by omega, fun _ => PkR.err_l4 h mm ip kk cc hk hc, fun _ => ?_⟩
  · unfold PkR.own
    rw [if_neg (by omega), if_pos e0]
    rw [← PkR.ownJ_eq (x := x.errR mm ip kk cc x.quoted) (by show (1 : Int) = if wholeB 0 = true then kindV 1 else 0; decide +kernel)]
    rfl
  · show Eth.fitsB x.s mm x.tg x.tag x.et = true
    unfold Eth.fitsB at hh ⊢
    simp only [Bool.and_eq_true, decide_eq_true_eq] at hh ⊢
    obtain ⟨⟨⟨⟨⟨a1, a2⟩, a3⟩, a4⟩, a5⟩, a6⟩ := hh
    exact ⟨⟨⟨⟨⟨a2, hm.2⟩, a3⟩, a4⟩, a5⟩, a6⟩
  · rw [hb]
    show Ip.encOk 0 0 0 64 1 0 ((8 + x.quoted.length : Nat) : Int) = true
    unfold Ip.encOk
    rw [show Ip.headOk 0 0 0 64 1 0 = true by decide]
    simp
    omega
theorem PkR.err_len {x : PkR} (h : x.Told) (mm ip kk cc : Int) : (x.errR mm ip kk cc x.quoted).bytes.length ≤ 9018 ∧ x.quoted.length ≤ 68 := by
  have hq := PkR.quoted_len h.et
  have hf := (Ip.encOk_yes (h.fits.ip h.et)).most
  have hb := PkR.err_body (x := x) mm ip kk cc
  have e0 : (x.errR mm ip kk cc x.quoted).et = 2048 := h.et
  have hi := PkR.innerI_len e0
  have hh := (x.errR mm ip kk cc x.quoted).head_pos
  have hn : (x.errR mm ip kk cc x.quoted).bytes.length = (x.errR mm ip kk cc x.quoted).head.length + (x.errR mm ip kk cc x.quoted).inner.length + (x.errR mm ip kk cc x.quoted).bd.length + (x.errR mm ip kk cc x.quoted).pd.length := by simp only [PkR.bytes, List.length_append]
  have e1 : (x.errR mm ip kk cc x.quoted).bd = [] := rfl
  have e2 : (x.errR mm ip kk cc x.quoted).pd = [] := rfl
  have e3 : (x.errR mm ip kk cc x.quoted).io = [] := rfl
  rw [e1, e2] at hn
  rw [e3, hb] at hi
  simp at hn hi
  omega
end Go.Proofs.Ytpiokeidcnbmbaa

namespace Go.Proofs.Ytpiokeidcnbmbaa
open Go.RowKit
set_option maxRecDepth 20000
set_option linter.unusedSimpArgs false
set_option maxHeartbeats 8000000 in
theorem PkR.errorsNo (x : PkR) (mac ip kind code : Int) (w : World) (q : Array Value) (Zq : q.size = 36) (Oq : q.all (·.oneCell') = true)
    (HE : Hid (∀ W, Calls Try.prog 13 #[.agg x.ps, .int .u64 mac, .int .u32 ip, .int .i64 kind, .int .i64 code] W fun e w' => e = .returned (.tuple #[.agg q, .bool false]) ∧ Below W.heap.size W w'))
    (HR : Hid (∀ W, Calls Try.prog 14 #[.agg x.ps, .int .u64 mac, .int .u32 ip, .int .i64 kind, .int .i64 code] W fun e w' => e = .returned (.tuple #[.agg q, .bool false]) ∧ Below W.heap.size W w'))
    (HN : Hid (∀ W, (binOp .neq 34 (.agg q) (.agg q)).run Try.prog W = .ok (.bool false) W)) :
    Calls Try.prog 5 #[.agg x.ps, .int .u64 mac, .int .u32 ip, .int .i64 kind, .int .i64 code] w fun e w' => e = .returned (.bool true) ∧ Below w.heap.size w w' := by
  have ZQ : Hid _ := Zq
  have OQ : Hid _ := Oq
  have ZP : Hid (x.ps.size = 36) := PkR.size x
  have G1 : Hid _ := PkR.get1 x
  have G17 : Hid _ := PkR.get17 x
  clear Zq Oq
  obtain ⟨ps, hps⟩ : ∃ p, x.ps = p := ⟨_, rfl⟩
  rw [hps] at ZP G1 G17 HE HR ⊢
  clear hps
  go_enter Try.func5, Try.ntmps5
  go_wp2_with ((with_reducible (refine isLoad 34 _ rfl ?_)); refine wpList_load_row rfl 34 _ rfl (w.heap.size) rfl 34 ps (0, 0) _ (heap_alloc_new w _) Try.underlying34 rfl (info36 ZP.out) ?_)
  refine (HE.out _).mono ?_
  rintro e W1 ⟨rfl, hb⟩
  have B_1 : Hid (Below w.heap.size w W1) := (below1 w _).trans (hb.mono (by simp))
  have P_1 : Hid (W1.heap[w.heap.size]? = some (.cells ps 34 (0, 0))) := (hb.block _ (Ca.lt_of_heap (heap_alloc_new w _))).trans (heap_alloc_new w _)
  clear hb HE
  go_wp2_with (first
    | ((with_reducible (refine isStore 34 _ _ rfl rfl ?_)); refine Ca.wpList_store_new rfl 34 _ _ rfl zeroPk q _ rfl rfl rfl (info36 ZQ.out) (Eq.trans (b := 36) rfl ZQ.out.symm) OQ.out ?_; refine StopP.out ?_)
    | fail)
  have hbA := below1 W1 (.cells q 34)
  have B_2 : Hid (Below w.heap.size w (W1.alloc (.cells q 34))) := B_1.out.trans (hbA.mono B_1.out.size)
  have P_2 : Hid ((W1.alloc (.cells q 34)).heap[w.heap.size]? = some (.cells ps 34 (0, 0))) := (hbA.block _ (Ca.lt_of_heap P_1.out)).trans P_1.out
  have A_2 : Hid ((W1.alloc (.cells q 34)).heap[W1.heap.size]? = some (.cells q 34 (0, 0))) := heap_alloc_new W1 _
  obtain ⟨W2, hW⟩ : ∃ V, (W1.alloc (.cells q 34)) = V := ⟨_, rfl⟩
  obtain ⟨g2, hg⟩ : ∃ n, W1.heap.size = n := ⟨_, rfl⟩
  rw [hW] at B_2 P_2 A_2 ⊢
  rw [hg] at A_2 ⊢
  clear hW hg hbA B_1 P_1
  refine StopP.mk ?_
  go_wp2_with ((with_reducible (refine isLoad 34 _ rfl ?_)); refine wpList_load_row rfl 34 _ rfl (w.heap.size) rfl 34 ps (0, 0) _ P_2.out Try.underlying34 rfl (info36 ZP.out) ?_)
  refine (HR.out _).mono ?_
  rintro e W3 ⟨rfl, hb⟩
  have B_3 : Hid (Below w.heap.size w W3) := B_2.out.trans (hb.mono B_2.out.size)
  have P_3 : Hid (W3.heap[w.heap.size]? = some (.cells ps 34 (0, 0))) := (hb.block _ (Ca.lt_of_heap P_2.out)).trans P_2.out
  have A_3 : Hid (W3.heap[g2]? = some (.cells q 34 (0, 0))) := (hb.block _ (Ca.lt_of_heap A_2.out)).trans A_2.out
  clear B_2 P_2 A_2
  clear hb HR
  go_wp2_with (first
    | ((with_reducible (refine isStore 34 _ _ rfl rfl ?_)); refine Ca.wpList_store_new rfl 34 _ _ rfl zeroPk q _ rfl rfl rfl (info36 ZQ.out) (Eq.trans (b := 36) rfl ZQ.out.symm) OQ.out ?_; refine StopP.out ?_)
    | fail)
  have hbA := below1 W3 (.cells q 34)
  have B_4 : Hid (Below w.heap.size w (W3.alloc (.cells q 34))) := B_3.out.trans (hbA.mono B_3.out.size)
  have P_4 : Hid ((W3.alloc (.cells q 34)).heap[w.heap.size]? = some (.cells ps 34 (0, 0))) := (hbA.block _ (Ca.lt_of_heap P_3.out)).trans P_3.out
  have A_4 : Hid ((W3.alloc (.cells q 34)).heap[g2]? = some (.cells q 34 (0, 0))) := (hbA.block _ (Ca.lt_of_heap A_3.out)).trans A_3.out
  have R_4 : Hid ((W3.alloc (.cells q 34)).heap[W3.heap.size]? = some (.cells q 34 (0, 0))) := heap_alloc_new W3 _
  obtain ⟨W4, hW⟩ : ∃ V, (W3.alloc (.cells q 34)) = V := ⟨_, rfl⟩
  obtain ⟨g4, hg⟩ : ∃ n, W3.heap.size = n := ⟨_, rfl⟩
  rw [hW] at B_4 P_4 A_4 R_4 ⊢
  rw [hg] at R_4 ⊢
  clear hW hg hbA B_3 P_3 A_3
  refine StopP.mk ?_
  go_wp2_with fail
  refine (lives_any _).mono ?_
  rintro e W5 ⟨rfl, hb⟩
  have B_5 : Hid (Below w.heap.size w W5) := B_4.out.trans (hb.mono B_4.out.size)
  have P_5 : Hid (W5.heap[w.heap.size]? = some (.cells ps 34 (0, 0))) := (hb.block _ (Ca.lt_of_heap P_4.out)).trans P_4.out
  have A_5 : Hid (W5.heap[g2]? = some (.cells q 34 (0, 0))) := (hb.block _ (Ca.lt_of_heap A_4.out)).trans A_4.out
  have R_5 : Hid (W5.heap[g4]? = some (.cells q 34 (0, 0))) := (hb.block _ (Ca.lt_of_heap R_4.out)).trans R_4.out
  clear B_4 P_4 A_4 R_4
  clear hb
  have hq := HN.out
  go_wp2_with (first
    | ((with_reducible (refine isLoad 34 _ rfl ?_)); refine Ca.wpList_load_want (by rfl) 34 _ rfl (g2) rfl 34 q (0, 0) _ A_5.out Try.underlying34 rfl (info36 ZQ.out) ?_)
    | ((with_reducible (refine isLoad 34 _ rfl ?_)); refine Ca.wpList_load_want (by rfl) 34 _ rfl (g4) rfl 34 q (0, 0) _ R_5.out Try.underlying34 rfl (info36 ZQ.out) ?_)
    | fail)
  go_ret
  exact ⟨rfl, B_5.out⟩
set_option maxHeartbeats 8000000 in
theorem PkR.errorsYes (x : PkR) (mac ip kind code : Int) (w : World) (q : Array Value) (Zq : q.size = 36) (Oq : q.all (·.oneCell') = true) (n : Nat) (L Q : List Int) (hL : ∀ i, 0 ≤ L.getD i 0 ∧ L.getD i 0 ≤ 255) (hn : n ≤ 9018) (q33 : q[33]? = some (.string (strOfNums Q))) (q0 : q[0]? = some (.int .u64 x.s)) (q18 : q[18]? = some (.int .u32 x.src)) (hQ : Q.length ≤ 68)
    (HE : Hid (∀ W, Calls Try.prog 13 #[.agg x.ps, .int .u64 mac, .int .u32 ip, .int .i64 kind, .int .i64 code] W fun e w' => e = .returned (.tuple #[.agg q, .bool true]) ∧ Below W.heap.size W w'))
    (HR : Hid (∀ W, Calls Try.prog 14 #[.agg x.ps, .int .u64 mac, .int .u32 ip, .int .i64 kind, .int .i64 code] W fun e w' => e = .returned (.tuple #[.agg q, .bool true]) ∧ Below W.heap.size W w'))
    (HN : Hid (∀ W, (binOp .neq 34 (.agg q) (.agg q)).run Try.prog W = .ok (.bool false) W))
    (HQ : Hid (∀ W, (binOp .eql 34 (.agg q) (.agg q)).run Try.prog W = .ok (.bool true) W))
    (HP : Hid (∀ W, Calls Try.prog 11 #[.agg q] W fun e w' => ∃ a cap, e = .returned (.tuple #[.slice a n cap, .int .i64 0]) ∧ RB W w' (.slice a n cap) n L))
    (HS : Hid (∀ W a cap, BS W a n L → n ≤ cap → cap ≤ 9223372036854775807 → Calls Try.prog 8 #[.slice a n cap] W fun e w' => e = .returned (.tuple #[.agg q, .int .i64 0]) ∧ Below W.heap.size W w')) :
    Calls Try.prog 5 #[.agg x.ps, .int .u64 mac, .int .u32 ip, .int .i64 kind, .int .i64 code] w fun e w' => e = .returned (.bool true) ∧ Below w.heap.size w w' := by
  have ZQ : Hid _ := Zq
  have OQ : Hid _ := Oq
  have ZP : Hid (x.ps.size = 36) := PkR.size x
  have G1 : Hid _ := PkR.get1 x
  have G17 : Hid _ := PkR.get17 x
  have F33 : Hid _ := q33
  have F0 : Hid _ := q0
  have F18 : Hid _ := q18
  have FL : Hid _ := hL
  have FN : Hid (n ≤ 9018 ∧ Q.length ≤ 68) := ⟨hn, hQ⟩
  clear q33 q0 q18 hL hn hQ
  clear Zq Oq
  obtain ⟨ps, hps⟩ : ∃ p, x.ps = p := ⟨_, rfl⟩
  rw [hps] at ZP G1 G17 HE HR ⊢
  clear hps
  go_enter Try.func5, Try.ntmps5
  go_wp2_with ((with_reducible (refine isLoad 34 _ rfl ?_)); refine wpList_load_row rfl 34 _ rfl (w.heap.size) rfl 34 ps (0, 0) _ (heap_alloc_new w _) Try.underlying34 rfl (info36 ZP.out) ?_)
  refine (HE.out _).mono ?_
  rintro e W1 ⟨rfl, hb⟩
  have B_1 : Hid (Below w.heap.size w W1) := (below1 w _).trans (hb.mono (by simp))
  have P_1 : Hid (W1.heap[w.heap.size]? = some (.cells ps 34 (0, 0))) := (hb.block _ (Ca.lt_of_heap (heap_alloc_new w _))).trans (heap_alloc_new w _)
  clear hb HE
  go_wp2_with (first
    | ((with_reducible (refine isStore 34 _ _ rfl rfl ?_)); refine Ca.wpList_store_new rfl 34 _ _ rfl zeroPk q _ rfl rfl rfl (info36 ZQ.out) (Eq.trans (b := 36) rfl ZQ.out.symm) OQ.out ?_; refine StopP.out ?_)
    | fail)
  have hbA := below1 W1 (.cells q 34)
  have B_2 : Hid (Below w.heap.size w (W1.alloc (.cells q 34))) := B_1.out.trans (hbA.mono B_1.out.size)
  have P_2 : Hid ((W1.alloc (.cells q 34)).heap[w.heap.size]? = some (.cells ps 34 (0, 0))) := (hbA.block _ (Ca.lt_of_heap P_1.out)).trans P_1.out
  have A_2 : Hid ((W1.alloc (.cells q 34)).heap[W1.heap.size]? = some (.cells q 34 (0, 0))) := heap_alloc_new W1 _
  obtain ⟨W2, hW⟩ : ∃ V, (W1.alloc (.cells q 34)) = V := ⟨_, rfl⟩
  obtain ⟨g2, hg⟩ : ∃ n, W1.heap.size = n := ⟨_, rfl⟩
  rw [hW] at B_2 P_2 A_2 ⊢
  rw [hg] at A_2 ⊢
  clear hW hg hbA B_1 P_1
  refine StopP.mk ?_
  go_wp2_with ((with_reducible (refine isLoad 34 _ rfl ?_)); refine wpList_load_row rfl 34 _ rfl (w.heap.size) rfl 34 ps (0, 0) _ P_2.out Try.underlying34 rfl (info36 ZP.out) ?_)
  refine (HR.out _).mono ?_
  rintro e W3 ⟨rfl, hb⟩
  have B_3 : Hid (Below w.heap.size w W3) := B_2.out.trans (hb.mono B_2.out.size)
  have P_3 : Hid (W3.heap[w.heap.size]? = some (.cells ps 34 (0, 0))) := (hb.block _ (Ca.lt_of_heap P_2.out)).trans P_2.out
  have A_3 : Hid (W3.heap[g2]? = some (.cells q 34 (0, 0))) := (hb.block _ (Ca.lt_of_heap A_2.out)).trans A_2.out
  clear B_2 P_2 A_2
  clear hb HR
  go_wp2_with (first
    | ((with_reducible (refine isStore 34 _ _ rfl rfl ?_)); refine Ca.wpList_store_new rfl 34 _ _ rfl zeroPk q _ rfl rfl rfl (info36 ZQ.out) (Eq.trans (b := 36) rfl ZQ.out.symm) OQ.out ?_; refine StopP.out ?_)
    | fail)
  have hbA := below1 W3 (.cells q 34)
  have B_4 : Hid (Below w.heap.size w (W3.alloc (.cells q 34))) := B_3.out.trans (hbA.mono B_3.out.size)
  have P_4 : Hid ((W3.alloc (.cells q 34)).heap[w.heap.size]? = some (.cells ps 34 (0, 0))) := (hbA.block _ (Ca.lt_of_heap P_3.out)).trans P_3.out
  have A_4 : Hid ((W3.alloc (.cells q 34)).heap[g2]? = some (.cells q 34 (0, 0))) := (hbA.block _ (Ca.lt_of_heap A_3.out)).trans A_3.out
  have R_4 : Hid ((W3.alloc (.cells q 34)).heap[W3.heap.size]? = some (.cells q 34 (0, 0))) := heap_alloc_new W3 _
  obtain ⟨W4, hW⟩ : ∃ V, (W3.alloc (.cells q 34)) = V := ⟨_, rfl⟩
  obtain ⟨g4, hg⟩ : ∃ n, W3.heap.size = n := ⟨_, rfl⟩
  rw [hW] at B_4 P_4 A_4 R_4 ⊢
  rw [hg] at R_4 ⊢
  clear hW hg hbA B_3 P_3 A_3
  refine StopP.mk ?_
  go_wp2_with fail
  refine (lives_any _).mono ?_
  rintro e W5 ⟨rfl, hb⟩
  have B_5 : Hid (Below w.heap.size w W5) := B_4.out.trans (hb.mono B_4.out.size)
  have P_5 : Hid (W5.heap[w.heap.size]? = some (.cells ps 34 (0, 0))) := (hb.block _ (Ca.lt_of_heap P_4.out)).trans P_4.out
  have A_5 : Hid (W5.heap[g2]? = some (.cells q 34 (0, 0))) := (hb.block _ (Ca.lt_of_heap A_4.out)).trans A_4.out
  have R_5 : Hid (W5.heap[g4]? = some (.cells q 34 (0, 0))) := (hb.block _ (Ca.lt_of_heap R_4.out)).trans R_4.out
  clear B_4 P_4 A_4 R_4
  clear hb
  have hq := HN.out
  go_wp2_with (first
    | ((with_reducible (refine isLoad 34 _ rfl ?_)); refine Ca.wpList_load_want (by rfl) 34 _ rfl (g2) rfl 34 q (0, 0) _ A_5.out Try.underlying34 rfl (info36 ZQ.out) ?_)
    | ((with_reducible (refine isLoad 34 _ rfl ?_)); refine Ca.wpList_load_want (by rfl) 34 _ rfl (g4) rfl 34 q (0, 0) _ R_5.out Try.underlying34 rfl (info36 ZQ.out) ?_)
    | fail)
  clear hq
  refine (HP.out _).mono ?_
  rintro e W6 ⟨a, cap, rfl, r6⟩
  have B_6 : Hid (Below w.heap.size w W6) := B_5.out.trans (r6.bel.mono B_5.out.size)
  have P_6 : Hid (W6.heap[w.heap.size]? = some (.cells ps 34 (0, 0))) := (r6.bel.block _ (Ca.lt_of_heap P_5.out)).trans P_5.out
  have A_6 : Hid (W6.heap[g2]? = some (.cells q 34 (0, 0))) := (r6.bel.block _ (Ca.lt_of_heap A_5.out)).trans A_5.out
  clear B_5 P_5 A_5
  have S_6 : Hid (BS W6 a n L) := r6.bs FL.out (by have := FN.out; omega)
  have hcap : Hid (n ≤ cap ∧ cap ≤ 9223372036854775807) := own_caps r6.own
  clear r6 HP R_5
  go_wp2_with fail
  refine (HS.out _ _ _ S_6.out hcap.out.1 hcap.out.2).mono ?_
  rintro e W7 ⟨rfl, hb⟩
  have B_7 : Hid (Below w.heap.size w W7) := B_6.out.trans (hb.mono B_6.out.size)
  have P_7 : Hid (W7.heap[w.heap.size]? = some (.cells ps 34 (0, 0))) := (hb.block _ (Ca.lt_of_heap P_6.out)).trans P_6.out
  have A_7 : Hid (W7.heap[g2]? = some (.cells q 34 (0, 0))) := (hb.block _ (Ca.lt_of_heap A_6.out)).trans A_6.out
  clear B_6 P_6 A_6
  clear hb S_6 HS
  go_wp2_with (first
    | ((with_reducible (refine isStore 34 _ _ rfl rfl ?_)); refine Ca.wpList_store_new rfl 34 _ _ rfl zeroPk q _ rfl rfl rfl (info36 ZQ.out) (Eq.trans (b := 36) rfl ZQ.out.symm) OQ.out ?_; refine StopP.out ?_)
    | fail)
  have hbA := below1 W7 (.cells q 34)
  have B_8 : Hid (Below w.heap.size w (W7.alloc (.cells q 34))) := B_7.out.trans (hbA.mono B_7.out.size)
  have P_8 : Hid ((W7.alloc (.cells q 34)).heap[w.heap.size]? = some (.cells ps 34 (0, 0))) := (hbA.block _ (Ca.lt_of_heap P_7.out)).trans P_7.out
  have A_8 : Hid ((W7.alloc (.cells q 34)).heap[g2]? = some (.cells q 34 (0, 0))) := (hbA.block _ (Ca.lt_of_heap A_7.out)).trans A_7.out
  have T_8 : Hid ((W7.alloc (.cells q 34)).heap[W7.heap.size]? = some (.cells q 34 (0, 0))) := heap_alloc_new W7 _
  obtain ⟨W8, hW⟩ : ∃ V, (W7.alloc (.cells q 34)) = V := ⟨_, rfl⟩
  obtain ⟨g8, hg⟩ : ∃ n, W7.heap.size = n := ⟨_, rfl⟩
  rw [hW] at B_8 P_8 A_8 T_8 ⊢
  rw [hg] at T_8 ⊢
  clear hW hg hbA B_7 P_7 A_7
  refine StopP.mk ?_
  have c33 := (Ca.cell_row A_8.out 33).trans F33.out
  have c0 := (Ca.cell_row A_8.out 0).trans F0.out
  have c18 := (Ca.cell_row A_8.out 18).trans F18.out
  have c1 := (Ca.cell_row P_8.out 1).trans G1.out
  have c17 := (Ca.cell_row P_8.out 17).trans G17.out
  have hs9 := strOfNums_size Q
  have hq68 : (Q.length : Int) ≤ 68 := by have := FN.out; omega
  have he := HQ.out
  go_wp2_with (first
    | ((with_reducible (refine isLoad 34 _ rfl ?_)); refine Ca.wpList_load_want (by rfl) 34 _ rfl (g8) rfl 34 q (0, 0) _ T_8.out Try.underlying34 rfl (info36 ZQ.out) ?_)
    | ((with_reducible (refine isLoad 34 _ rfl ?_)); refine Ca.wpList_load_want (by rfl) 34 _ rfl (g2) rfl 34 q (0, 0) _ A_8.out Try.underlying34 rfl (info36 ZQ.out) ?_)
    | fail)
  go_ret
  exact ⟨rfl, B_8.out⟩
end Go.Proofs.Ytpiokeidcnbmbaa

namespace Go.Proofs.Ytpiokeidcnbmbaa
open Go.RowKit
set_option maxRecDepth 20000
/-- The error of a frame's head, and what it says. -/
def hdT (zs : List Int) : Bool := decide (num ((zs.drop 12).take 2) = 33024)
def hdA (zs : List Int) : Nat := if hdT zs = true then 18 else 14
def hdG (zs : List Int) : Int := if hdT zs = true then num ((zs.drop 14).take 2) else 0
def hdY (zs : List Int) : Int := if hdT zs = true then num ((zs.drop 16).take 2) else num ((zs.drop 12).take 2)
def hdE (zs : List Int) : Int :=
  if 9018 < zs.length then 3 else if zs.length < 14 then 20
  else if hdT zs = true then (if zs.length < 18 then 20 else if num ((zs.drop 16).take 2) = 33024 then 21 else 0) else 0
theorem headV_bad (zs : List Int) (h : hdE zs ≠ 0) : Eth.headV zs = Eth.ethV 0 0 false 0 0 0 (hdE zs) := by
  unfold hdE at h ⊢
  unfold Eth.headV
  by_cases h1 : 9018 < zs.length
  · rw [if_pos h1, if_pos h1]
  rw [if_neg h1, if_neg h1]
  rw [if_neg h1] at h
  by_cases h2 : zs.length < 14
  · rw [if_pos h2, if_pos h2]
  rw [if_neg h2, if_neg h2]
  rw [if_neg h2] at h
  by_cases h3 : num ((zs.drop 12).take 2) = 33024
  · have ht : hdT zs = true := by unfold hdT; exact decide_eq_true h3
    rw [if_pos ht] at h ⊢
    rw [if_neg (fun x => x h3)]
    by_cases h4 : zs.length < 18
    · rw [if_pos h4, if_pos h4]
    rw [if_neg h4, if_neg h4]
    rw [if_neg h4] at h
    by_cases h5 : num ((zs.drop 16).take 2) = 33024
    · rw [if_pos h5, if_pos h5]
    · rw [if_neg h5] at h; exact absurd rfl h
  · have ht : ¬ hdT zs = true := by unfold hdT; simpa using h3
    rw [if_neg ht] at h
    exact absurd rfl h
theorem headV_ok (zs : List Int) (h : hdE zs = 0) : Eth.headV zs = Eth.ethV (num (zs.take 6)) (num ((zs.drop 6).take 6)) (hdT zs) (hdG zs) (hdY zs) (hdA zs) 0 ∧ hdA zs ≤ zs.length ∧ zs.length ≤ 9018 := by
  unfold hdE at h
  unfold Eth.headV hdG hdY hdA
  by_cases h1 : 9018 < zs.length
  · rw [if_pos h1] at h; omega
  rw [if_neg h1] at h ⊢
  by_cases h2 : zs.length < 14
  · rw [if_pos h2] at h; omega
  rw [if_neg h2] at h ⊢
  by_cases h3 : num ((zs.drop 12).take 2) = 33024
  · have ht : hdT zs = true := by unfold hdT; exact decide_eq_true h3
    rw [if_pos ht] at h
    rw [if_neg (fun x => x h3), if_pos ht, if_pos ht, if_pos ht]
    by_cases h4 : zs.length < 18
    · rw [if_pos h4] at h; omega
    rw [if_neg h4] at h ⊢
    by_cases h5 : num ((zs.drop 16).take 2) = 33024
    · rw [if_pos h5] at h; omega
    · rw [if_neg h5, ht]; exact ⟨rfl, by omega, by omega⟩
  · have ht : ¬ hdT zs = true := by unfold hdT; simpa using h3
    rw [if_pos h3, if_neg ht, if_neg ht, if_neg ht, Bool.eq_false_iff.2 ht]
    exact ⟨rfl, by omega, by omega⟩
/-- The error of an ARP packet. -/
def arE (zs : List Int) : Int := if zs.length < 28 then 20 else if num (zs.take 6) ≠ 4429186564 then 21 else 0
theorem arpOf_bad (zs : List Int) (h : arE zs ≠ 0) : Eth.arpOf zs = Eth.arpV 0 0 0 0 0 (arE zs) := by
  unfold arE at h ⊢
  unfold Eth.arpOf
  by_cases h1 : zs.length < 28
  · rw [if_pos h1, if_pos h1]
  rw [if_neg h1, if_neg h1]
  rw [if_neg h1] at h
  by_cases h2 : num (zs.take 6) ≠ 4429186564
  · rw [if_pos h2, if_pos h2]
  · rw [if_neg h2] at h; exact absurd rfl h
theorem arpOf_ok (zs : List Int) (h : arE zs = 0) : Eth.arpOf zs = Eth.arpV (num ((zs.drop 6).take 2)) (num ((zs.drop 8).take 6)) (num ((zs.drop 14).take 4)) (num ((zs.drop 18).take 6)) (num ((zs.drop 24).take 4)) 0 ∧ 28 ≤ zs.length := by
  unfold arE at h
  unfold Eth.arpOf
  by_cases h1 : zs.length < 28
  · rw [if_pos h1] at h; omega
  rw [if_neg h1] at h ⊢
  by_cases h2 : num (zs.take 6) ≠ 4429186564
  · rw [if_pos h2] at h; omega
  · rw [if_neg h2]; exact ⟨rfl, by omega⟩
/-- The packet of a head and what stands behind it. -/
def bodyR (d s : Int) (tg : Bool) (tag et : Int) (ys : List Int) : PkR := { zeroPkR with d := d, s := s, tg := tg, tag := tag, et := et, bd := ys }
def arpR (d s : Int) (tg : Bool) (tag : Int) (ys : List Int) : PkR := { zeroPkR with d := d, s := s, tg := tg, tag := tag, et := 2054, ia := true, op := num ((ys.drop 6).take 2), sha := num ((ys.drop 8).take 6), spa := num ((ys.drop 14).take 4), tha := num ((ys.drop 18).take 6), tpa := num ((ys.drop 24).take 4), pd := ys.drop 28 }
def ipT (ys : List Int) : Nat := (ys.getD 2 0 * 256 + ys.getD 3 0).toNat
def ipD (ys : List Int) (m : Nat) : List Int := (ys.drop m).take (ipT ys - m)
def ipR (d s : Int) (tg : Bool) (tag : Int) (ys : List Int) (m : Nat) (l : L4R) : PkR := { zeroPkR with d := d, s := s, tg := tg, tag := tag, et := 2048, ii := true, tos := num ((ys.drop 1).take 1), id := num ((ys.drop 4).take 2), fr := num ((ys.drop 6).take 2), ttl := num ((ys.drop 8).take 1), pr := num ((ys.drop 9).take 1), src := num ((ys.drop 12).take 4), dst := num ((ys.drop 16).take 4), io := (ys.drop 20).take (m - 20), l := l, pd := ys.drop (ipT ys) }
def l4e (ys : List Int) (m : Nat) : Int := decE (num ((ys.drop 12).take 4)) (num ((ys.drop 16).take 4)) (kindV (num ((ys.drop 9).take 1))) (ipD ys m)
def l4r (ys : List Int) (m : Nat) : L4R := decR (num ((ys.drop 12).take 4)) (num ((ys.drop 16).take 4)) (kindV (num ((ys.drop 9).take 1))) (ipD ys m)
def ipP (d s : Int) (tg : Bool) (tag : Int) (ys : List Int) (m : Nat) : PkR × Int :=
  if wholeB (num ((ys.drop 6).take 2)) = true then (if l4e ys m = 0 then (ipR d s tg tag ys m (l4r ys m), 0) else (zeroPkR, l4e ys m))
  else (ipR d s tg tag ys m { zeroR with ds := ipD ys m }, 0)
def ipE (ys : List Int) : Int := (Ip.msr ys ys.length).2.2
def ipM (ys : List Int) : Nat := (Ip.msr ys ys.length).1.toNat
def restR (d s : Int) (tg : Bool) (tag et : Int) (ys : List Int) : PkR × Int :=
  if et = 2054 then (if arE ys = 0 then (arpR d s tg tag ys, 0) else (zeroPkR, arE ys))
  else if et = 2048 then (if ipE ys = 0 then ipP d s tg tag ys (ipM ys) else (zeroPkR, ipE ys))
  else (bodyR d s tg tag et ys, 0)
def parseR (zs : List Int) : PkR × Int :=
  if hdE zs = 0 then restR (num (zs.take 6)) (num ((zs.drop 6).take 6)) (hdT zs) (hdG zs) (hdY zs) (zs.drop (hdA zs)) else (zeroPkR, hdE zs)
def pv (x : PkR × Int) : Value := .tuple #[.agg x.1.ps, .int .i64 x.2]
theorem pv_mk (x : PkR) (e : Int) : pv (x, e) = .tuple #[.agg x.ps, .int .i64 e] := rfl
theorem bodyR_ps (d s : Int) (tg : Bool) (tag et : Int) (ys : List Int) : (Ca.putC zeroPk 0 (#[.int .u64 d, .int .u64 s, .bool tg, .int .i64 tag, .int .i64 et]).toList).setIfInBounds 34 (.string (strOfNums ys)) = (bodyR d s tg tag et ys).ps := by kernel_rfl
theorem arpR_ps (d s : Int) (tg : Bool) (tag : Int) (ys : List Int) : (Ca.putC ((Ca.putC zeroPk 0 (#[.int .u64 d, .int .u64 s, .bool tg, .int .i64 tag, .int .i64 2054]).toList).setIfInBounds 5 (.bool true)) 6 (#[.int .i64 (num ((ys.drop 6).take 2)), .int .u64 (num ((ys.drop 8).take 6)), .int .u32 (num ((ys.drop 14).take 4)), .int .u64 (num ((ys.drop 18).take 6)), .int .u32 (num ((ys.drop 24).take 4))]).toList).setIfInBounds 35 (.string (strOfNums (ys.drop 28))) = (arpR d s tg tag ys).ps := by kernel_rfl
theorem ipR_ps (d s : Int) (tg : Bool) (tag : Int) (ys : List Int) (m : Nat) (k ty co re sp dp : Int) (ns : Bool) (sq ak fl wi ur : Int) (lo ds : List Int) : (Ca.putC (Ca.putC ((Ca.putC zeroPk 0 (#[.int .u64 d, .int .u64 s, .bool tg, .int .i64 tag, .int .i64 2048]).toList).setIfInBounds 11 (.bool true)) 12 (#[.int .i64 (num ((ys.drop 1).take 1)), .int .i64 (num ((ys.drop 4).take 2)), .int .i64 (num ((ys.drop 6).take 2)), .int .i64 (num ((ys.drop 8).take 1)), .int .i64 (num ((ys.drop 9).take 1)), .int .u32 (num ((ys.drop 12).take 4)), .int .u32 (num ((ys.drop 16).take 4)), .string (strOfNums ((ys.drop 20).take (m - 20)))]).toList) 20 (#[.int .i64 k, .int .i64 ty, .int .i64 co, .int .u32 re, .int .i64 sp, .int .i64 dp, .bool ns, .int .u32 sq, .int .u32 ak, .int .i64 fl, .int .i64 wi, .int .i64 ur, .string (strOfNums lo), .string (strOfNums ds)]).toList).setIfInBounds 35 (.string (strOfNums (ys.drop (ipT ys)))) = (ipR d s tg tag ys m ⟨k, ty, co, re, sp, dp, ns, sq, ak, fl, wi, ur, lo, ds⟩).ps := by kernel_rfl
theorem fragR_ps (d s : Int) (tg : Bool) (tag : Int) (ys : List Int) (m : Nat) (D : List Int) : (Ca.putC (Ca.putC ((Ca.putC zeroPk 0 (#[.int .u64 d, .int .u64 s, .bool tg, .int .i64 tag, .int .i64 2048]).toList).setIfInBounds 11 (.bool true)) 12 (#[.int .i64 (num ((ys.drop 1).take 1)), .int .i64 (num ((ys.drop 4).take 2)), .int .i64 (num ((ys.drop 6).take 2)), .int .i64 (num ((ys.drop 8).take 1)), .int .i64 (num ((ys.drop 9).take 1)), .int .u32 (num ((ys.drop 12).take 4)), .int .u32 (num ((ys.drop 16).take 4)), .string (strOfNums ((ys.drop 20).take (m - 20)))]).toList) 20 (#[.int .i64 0, .int .i64 0, .int .i64 0, .int .u32 0, .int .i64 0, .int .i64 0, .bool false, .int .u32 0, .int .u32 0, .int .i64 0, .int .i64 0, .int .i64 0, .string ⟨#[]⟩, .string (strOfNums D)]).toList).setIfInBounds 35 (.string (strOfNums (ys.drop (ipT ys)))) = (ipR d s tg tag ys m { zeroR with ds := D }).ps := by kernel_rfl
/-- Lengths of an IPv4 packet: wrong, or right. -/
theorem ip_cases (ys : List Int) (hz : ∀ i, 0 ≤ ys.getD i 0 ∧ ys.getD i 0 ≤ 255) : (ipE ys ≠ 0 ∧ (ipE ys = 20 ∨ ipE ys = 21 ∨ ipE ys = 30) ∧ Ip.msr ys ys.length = (0, 0, ipE ys)) ∨ (ipE ys = 0 ∧ Ip.MOk ys ys.length (ipM ys) ∧ ((ipT ys : Nat) : Int) = ys.getD 2 0 * 256 + ys.getD 3 0 ∧ ipM ys ≤ ipT ys ∧ ipT ys ≤ ys.length ∧ 20 ≤ ipM ys) := by
  rcases Ip.msr_cases ys ys.length hz with ⟨f, hf, he⟩ | ⟨m, hm⟩
  · have : ipE ys = f := by unfold ipE; rw [he]
    rw [this]
    exact .inl ⟨by omega, hf, he⟩
  · have he := Ip.msr_yes hm
    have h1 : ipE ys = 0 := by unfold ipE; rw [he]
    have h2 : ipM ys = m := by unfold ipM; rw [he]; rfl
    have := hz 2
    have := hz 3
    have h3 : ((ipT ys : Nat) : Int) = ys.getD 2 0 * 256 + ys.getD 3 0 := by unfold ipT; omega
    have h4 := hm.total
    have h5 := hm.room
    rw [h2]
    exact .inr ⟨h1, hm, h3, by omega, by omega, hm.twenty⟩
theorem ipFs (ys : List Int) (m : Nat) : Ip.ipF ys m = .agg #[.int .i64 (num ((ys.drop 1).take 1)), .int .i64 (num ((ys.drop 4).take 2)), .int .i64 (num ((ys.drop 6).take 2)), .int .i64 (num ((ys.drop 8).take 1)), .int .i64 (num ((ys.drop 9).take 1)), .int .u32 (num ((ys.drop 12).take 4)), .int .u32 (num ((ys.drop 16).take 4)), .string (strOfNums ((ys.drop 20).take (m - 20)))] := rfl
theorem ip_b4 (ys : List Int) (hz : ∀ i, 0 ≤ ys.getD i 0 ∧ ys.getD i 0 ≤ 255) (k : Nat) (hk : k + 4 ≤ ys.length) : 0 ≤ num ((ys.drop k).take 4) ∧ num ((ys.drop k).take 4) ≤ 4294967295 :=
  Eth.num_bd4 (Eth.fits_take (Eth.fits_drop hz k) 4) (by simp; omega)

set_option maxHeartbeats 2000000 in
theorem parse_rest14 (w : World) (b off n cap : Nat) (zs : List Int) (h : BS w (some ⟨b, off, none⟩) n zs) (hcap : n ≤ cap) (hm : cap ≤ 9223372036854775807) (hA : 14 ≤ n) (d s tag et : Int) (tg : Bool) (hv : Eth.headV zs = Eth.ethV d s tg tag et 14 0) (hok : (restR d s tg tag et (zs.drop 14)).2 = 0) (het : et = 2048) (hww : wholeB (num (((zs.drop 14).drop 6).take 2)) = true) (hne : ipM (zs.drop 14) < ipT (zs.drop 14)) :
    Calls Try.prog 8 #[.slice (some ⟨b, off, none⟩) n cap] w fun e w' => e = .returned (pv (restR d s tg tag et (zs.drop 14))) ∧ Below w.heap.size w w' := by
  have hl := h.len
  have hz := Eth.fits_drop h.fits 14
  have HH : ∀ W, BS W (some ⟨b, off, none⟩) n zs → Calls Try.prog 18 #[.slice (some ⟨b, off, none⟩) n cap] W fun e w' => e = .returned (Eth.ethV d s tg tag et 14 0) ∧ Below W.heap.size W w' := fun W hB => by
    rw [← hv]; exact Eth.head_any cap hB hcap hm
  have hyl : (zs.drop 14).length = n - 14 := by rw [List.length_drop, hl]
  unfold restR at hok ⊢
  by_cases e1 : et = 2054
  · omega
  rw [if_neg e1] at hok ⊢
  by_cases e2 : et = 2048
  · subst e2
    rw [if_pos rfl] at hok ⊢
    have hroom : ((n - 14 : Nat) : Int) = (zs.drop 14).length := by rw [hyl]
    rcases ip_cases (zs.drop 14) hz with ⟨e0, ef, he⟩ | ⟨e0, hmk, hT, hmT, hTl, h20⟩
    · rw [if_neg e0] at hok
      exact absurd hok e0
    · rw [if_pos e0] at hok ⊢
      generalize hM : ipM (zs.drop 14) = m at *
      generalize hTT : ipT (zs.drop 14) = T at *
      have HI : ∀ W, BS W (some ⟨b, off + 14, none⟩) (n - 14) (zs.drop 14) → Calls Try.prog 17 #[.slice (some ⟨b, off + 14, none⟩) (n - 14) (cap - 14)] W fun e w' => e = .returned (.tuple #[Ip.ipF (zs.drop 14) m, .int .i64 m, .int .i64 T, .int .i64 0]) ∧ Below W.heap.size W w' := fun W hB => by
        have := (Ip.decode_any W _ (n - 14) (cap - 14) _ hB (by omega)).2 m (by rw [hroom]; exact hmk)
        rw [← hT] at this
        exact this
      rw [ipFs] at HI
      have hsrc := ip_b4 _ hz 12 (by omega)
      have hdst := ip_b4 _ hz 16 (by omega)
      have hD : (zs.drop (14 + m)).take (14 + T - (14 + m)) = ipD (zs.drop 14) m := by
        unfold ipD; rw [hTT, List.drop_drop, show 14 + T - (14 + m) = T - m by omega]
      have hP : zs.drop (14 + T) = (zs.drop 14).drop (ipT (zs.drop 14)) := by rw [hTT, List.drop_drop]
      have HL : ∀ (a : Option Addr) (k c : Nat), k ≤ c → (∀ x, a = some x → ∃ b off, x = ⟨b, off, none⟩) → (a = none → c = 0) → ∀ W, BS W a k (ipD (zs.drop 14) m) → Calls Try.prog 21 #[.int .u32 (num (((zs.drop 14).drop 12).take 4)), .int .u32 (num (((zs.drop 14).drop 16).take 4)), .int .i64 (num (((zs.drop 14).drop 9).take 1)), .slice a k c] W fun e w' => e = .returned (.tuple #[(l4r (zs.drop 14) m).v, .int .i64 (l4e (zs.drop 14) m)]) ∧ Below W.heap.size W w' :=
        fun a k c hk ha h0 W hB => decode_any _ _ _ hsrc hdst a k c _ hk ha h0 W hB
      have hlen : (ipD (zs.drop 14) m).length = T - m := by unfold ipD; rw [hTT, List.length_take, List.length_drop, hyl]; omega
      unfold ipP at hok ⊢
      by_cases hw : wholeB (num (((zs.drop 14).drop 6).take 2)) = true
      · rw [if_pos hw] at hok ⊢
        by_cases el : l4e (zs.drop 14) m = 0
        · rw [if_pos el]
          rw [el] at HL
          obtain ⟨L, hL4⟩ : ∃ L, l4r (zs.drop 14) m = L := ⟨_, rfl⟩
          rw [hL4] at HL ⊢
          obtain ⟨k, ty, co, re, sp, dp, ns, sq, ak, fl, wi, ur, lo, ds⟩ := L
          have hc1 : ¬ cap = 14 + m := by omega
          by_cases hc2 : cap = 14 + T
          · obtain rfl : n = 14 + T := by omega
            subst hc2
            have := parse_ok14C w b off (14 + m) (14 + T) zs h m T rfl rfl (by omega) hmT hc1 d s tag tg _ _ _ _ _ _ _ _ hw k ty co re sp dp ns sq ak fl wi ur lo ds (strOfNums (zs.drop (14 + T))) rfl HH HI (fun W hB => HL (some ⟨b, off + (14 + m), none⟩) (14 + T - (14 + m)) (14 + T - (14 + m)) (Nat.le_refl _) (fun x e => ⟨b, off + (14 + m), by cases e; rfl⟩) (fun e => by cases e) W (by rw [← hD]; exact (hB.drop (by omega) (14 + m) (by omega)).take _ (by omega)))
            rw [hP, ipR_ps] at this
            rw [pv_mk]
            exact this
          · have := parse_ok14A w b off n cap (14 + m) (14 + T) zs h m T rfl rfl (by omega) hmT (by omega) hcap hc1 hc2 d s tag tg _ _ _ _ _ _ _ _ hw k ty co re sp dp ns sq ak fl wi ur lo ds (strOfNums (zs.drop (14 + T))) rfl HH HI (fun W hB => HL (some ⟨b, off + (14 + m), none⟩) (14 + T - (14 + m)) (cap - (14 + m)) (by omega) (fun x e => ⟨b, off + (14 + m), by cases e; rfl⟩) (fun e => by cases e) W (by rw [← hD]; exact (hB.drop (by omega) (14 + m) (by omega)).take _ (by omega)))
            rw [hP, ipR_ps] at this
            rw [pv_mk]
            exact this
        · rw [if_neg el] at hok
          exact absurd hok el
      · exact absurd hww hw
  · exact absurd het e2

set_option maxHeartbeats 2000000 in
theorem parse_rest18 (w : World) (b off n cap : Nat) (zs : List Int) (h : BS w (some ⟨b, off, none⟩) n zs) (hcap : n ≤ cap) (hm : cap ≤ 9223372036854775807) (hA : 18 ≤ n) (d s tag et : Int) (tg : Bool) (hv : Eth.headV zs = Eth.ethV d s tg tag et 18 0) (hok : (restR d s tg tag et (zs.drop 18)).2 = 0) (het : et = 2048) (hww : wholeB (num (((zs.drop 18).drop 6).take 2)) = true) (hne : ipM (zs.drop 18) < ipT (zs.drop 18)) :
    Calls Try.prog 8 #[.slice (some ⟨b, off, none⟩) n cap] w fun e w' => e = .returned (pv (restR d s tg tag et (zs.drop 18))) ∧ Below w.heap.size w w' := by
  have hl := h.len
  have hz := Eth.fits_drop h.fits 18
  have HH : ∀ W, BS W (some ⟨b, off, none⟩) n zs → Calls Try.prog 18 #[.slice (some ⟨b, off, none⟩) n cap] W fun e w' => e = .returned (Eth.ethV d s tg tag et 18 0) ∧ Below W.heap.size W w' := fun W hB => by
    rw [← hv]; exact Eth.head_any cap hB hcap hm
  have hyl : (zs.drop 18).length = n - 18 := by rw [List.length_drop, hl]
  unfold restR at hok ⊢
  by_cases e1 : et = 2054
  · omega
  rw [if_neg e1] at hok ⊢
  by_cases e2 : et = 2048
  · subst e2
    rw [if_pos rfl] at hok ⊢
    have hroom : ((n - 18 : Nat) : Int) = (zs.drop 18).length := by rw [hyl]
    rcases ip_cases (zs.drop 18) hz with ⟨e0, ef, he⟩ | ⟨e0, hmk, hT, hmT, hTl, h20⟩
    · rw [if_neg e0] at hok
      exact absurd hok e0
    · rw [if_pos e0] at hok ⊢
      generalize hM : ipM (zs.drop 18) = m at *
      generalize hTT : ipT (zs.drop 18) = T at *
      have HI : ∀ W, BS W (some ⟨b, off + 18, none⟩) (n - 18) (zs.drop 18) → Calls Try.prog 17 #[.slice (some ⟨b, off + 18, none⟩) (n - 18) (cap - 18)] W fun e w' => e = .returned (.tuple #[Ip.ipF (zs.drop 18) m, .int .i64 m, .int .i64 T, .int .i64 0]) ∧ Below W.heap.size W w' := fun W hB => by
        have := (Ip.decode_any W _ (n - 18) (cap - 18) _ hB (by omega)).2 m (by rw [hroom]; exact hmk)
        rw [← hT] at this
        exact this
      rw [ipFs] at HI
      have hsrc := ip_b4 _ hz 12 (by omega)
      have hdst := ip_b4 _ hz 16 (by omega)
      have hD : (zs.drop (18 + m)).take (18 + T - (18 + m)) = ipD (zs.drop 18) m := by
        unfold ipD; rw [hTT, List.drop_drop, show 18 + T - (18 + m) = T - m by omega]
      have hP : zs.drop (18 + T) = (zs.drop 18).drop (ipT (zs.drop 18)) := by rw [hTT, List.drop_drop]
      have HL : ∀ (a : Option Addr) (k c : Nat), k ≤ c → (∀ x, a = some x → ∃ b off, x = ⟨b, off, none⟩) → (a = none → c = 0) → ∀ W, BS W a k (ipD (zs.drop 18) m) → Calls Try.prog 21 #[.int .u32 (num (((zs.drop 18).drop 12).take 4)), .int .u32 (num (((zs.drop 18).drop 16).take 4)), .int .i64 (num (((zs.drop 18).drop 9).take 1)), .slice a k c] W fun e w' => e = .returned (.tuple #[(l4r (zs.drop 18) m).v, .int .i64 (l4e (zs.drop 18) m)]) ∧ Below W.heap.size W w' :=
        fun a k c hk ha h0 W hB => decode_any _ _ _ hsrc hdst a k c _ hk ha h0 W hB
      have hlen : (ipD (zs.drop 18) m).length = T - m := by unfold ipD; rw [hTT, List.length_take, List.length_drop, hyl]; omega
      unfold ipP at hok ⊢
      by_cases hw : wholeB (num (((zs.drop 18).drop 6).take 2)) = true
      · rw [if_pos hw] at hok ⊢
        by_cases el : l4e (zs.drop 18) m = 0
        · rw [if_pos el]
          rw [el] at HL
          obtain ⟨L, hL4⟩ : ∃ L, l4r (zs.drop 18) m = L := ⟨_, rfl⟩
          rw [hL4] at HL ⊢
          obtain ⟨k, ty, co, re, sp, dp, ns, sq, ak, fl, wi, ur, lo, ds⟩ := L
          have hc1 : ¬ cap = 18 + m := by omega
          by_cases hc2 : cap = 18 + T
          · obtain rfl : n = 18 + T := by omega
            subst hc2
            have := parse_ok18C w b off (18 + m) (18 + T) zs h m T rfl rfl (by omega) hmT hc1 d s tag tg _ _ _ _ _ _ _ _ hw k ty co re sp dp ns sq ak fl wi ur lo ds (strOfNums (zs.drop (18 + T))) rfl HH HI (fun W hB => HL (some ⟨b, off + (18 + m), none⟩) (18 + T - (18 + m)) (18 + T - (18 + m)) (Nat.le_refl _) (fun x e => ⟨b, off + (18 + m), by cases e; rfl⟩) (fun e => by cases e) W (by rw [← hD]; exact (hB.drop (by omega) (18 + m) (by omega)).take _ (by omega)))
            rw [hP, ipR_ps] at this
            rw [pv_mk]
            exact this
          · have := parse_ok18A w b off n cap (18 + m) (18 + T) zs h m T rfl rfl (by omega) hmT (by omega) hcap hc1 hc2 d s tag tg _ _ _ _ _ _ _ _ hw k ty co re sp dp ns sq ak fl wi ur lo ds (strOfNums (zs.drop (18 + T))) rfl HH HI (fun W hB => HL (some ⟨b, off + (18 + m), none⟩) (18 + T - (18 + m)) (cap - (18 + m)) (by omega) (fun x e => ⟨b, off + (18 + m), by cases e; rfl⟩) (fun e => by cases e) W (by rw [← hD]; exact (hB.drop (by omega) (18 + m) (by omega)).take _ (by omega)))
            rw [hP, ipR_ps] at this
            rw [pv_mk]
            exact this
        · rw [if_neg el] at hok
          exact absurd hok el
      · exact absurd hww hw
  · exact absurd het e2

/-- Parse of any bytes. -/
theorem parse_whole (w : World) (a : Option Addr) (n cap : Nat) (zs : List Int) (h : BS w a n zs) (hcap : n ≤ cap) (hm : cap ≤ 9223372036854775807) (hok : (parseR zs).2 = 0) (het : hdY zs = 2048) (hww : wholeB (num (((zs.drop (hdA zs)).drop 6).take 2)) = true) (hne : ipM (zs.drop (hdA zs)) < ipT (zs.drop (hdA zs))) :
    Calls Try.prog 8 #[.slice a n cap] w fun e w' => e = .returned (pv (parseR zs)) ∧ Below w.heap.size w w' := by
  have hl := h.len
  unfold parseR at hok ⊢
  by_cases h0 : hdE zs = 0
  · rw [if_pos h0] at hok ⊢
    obtain ⟨hv, h1, h2⟩ := headV_ok zs h0
    have h3 : 14 ≤ hdA zs := by unfold hdA; split <;> omega
    obtain ⟨b, off, rfl, _⟩ := h.cells.resolve_left (by omega)
    cases ht : hdT zs
    · have hA : hdA zs = 14 := by unfold hdA; rw [ht]; rfl
      rw [hA] at hv h1 hok hww hne ⊢
      rw [ht] at hv hok
      exact parse_rest14 w b off n cap zs h hcap hm (by omega) _ _ _ _ _ hv hok het hww hne
    · have hA : hdA zs = 18 := by unfold hdA; rw [ht]; rfl
      rw [hA] at hv h1 hok hww hne ⊢
      rw [ht] at hv hok
      exact parse_rest18 w b off n cap zs h hcap hm (by omega) _ _ _ _ _ hv hok het hww hne
  · rw [if_neg h0] at hok
    exact absurd hok h0
end Go.Proofs.Ytpiokeidcnbmbaa

namespace Go.Proofs.Ytpiokeidcnbmbaa
open Go.RowKit
set_option maxRecDepth 20000
theorem ethV_inj {d s tag et n e d' s' tag' et' n' e' : Int} {tg tg' : Bool} (h : Eth.ethV d s tg tag et n e = Eth.ethV d' s' tg' tag' et' n' e') : d = d' ∧ s = s' ∧ tg = tg' ∧ tag = tag' ∧ et = et' ∧ n = n' ∧ e = e' := by
  unfold Eth.ethV at h
  simp at h
  obtain ⟨⟨h1, h2, h3, h4, h5⟩, h6, h7⟩ := h
  exact ⟨h1, h2, h3, h4, h5, h6, h7⟩
theorem arpV_inj {a b c d e f a' b' c' d' e' f' : Int} (h : Eth.arpV a b c d e f = Eth.arpV a' b' c' d' e' f') : a = a' ∧ b = b' ∧ c = c' ∧ d = d' ∧ e = e' ∧ f = f' := by
  unfold Eth.arpV at h
  simp at h
  obtain ⟨⟨h1, h2, h3, h4, h5⟩, h6⟩ := h
  exact ⟨h1, h2, h3, h4, h5, h6⟩
/-- A frame whose head is that of a packet. -/
theorem parse_head {zs : List Int} {d s tag et : Int} {tg : Bool} {A : Nat} (h : Eth.headV zs = Eth.ethV d s tg tag et A 0) : parseR zs = restR d s tg tag et (zs.drop A) := by
  unfold parseR
  by_cases h0 : hdE zs = 0
  · rw [if_pos h0]
    have := (headV_ok zs h0).1
    rw [h] at this
    obtain ⟨rfl, rfl, rfl, rfl, rfl, h6, _⟩ := ethV_inj this
    rw [show hdA zs = A by omega]
  · have := headV_bad zs h0
    rw [h] at this
    exact absurd (ethV_inj this).2.2.2.2.2.2.symm h0
theorem ip_of_mok {ys : List Int} {m : Nat} (h : Ip.MOk ys ys.length m) : ipE ys = 0 ∧ ipM ys = m := by
  have he := Ip.msr_yes h
  constructor
  · unfold ipE; rw [he]
  · unfold ipM; rw [he]; rfl
theorem arp_of {ys : List Int} {op sha spa tha tpa : Int} (h : Eth.arpOf ys = Eth.arpV op sha spa tha tpa 0) : arE ys = 0 ∧ num ((ys.drop 6).take 2) = op ∧ num ((ys.drop 8).take 6) = sha ∧ num ((ys.drop 14).take 4) = spa ∧ num ((ys.drop 18).take 6) = tha ∧ num ((ys.drop 24).take 4) = tpa := by
  by_cases h0 : arE ys = 0
  · have := (arpOf_ok ys h0).1
    rw [h] at this
    obtain ⟨h1, h2, h3, h4, h5, _⟩ := arpV_inj this
    exact ⟨h0, h1.symm, h2.symm, h3.symm, h4.symm, h5.symm⟩
  · have := arpOf_bad ys h0
    rw [h] at this
    exact absurd (arpV_inj this).2.2.2.2.2.symm h0
theorem L4R.opaque {l : L4R} (hok : l.ok = true) (hk : l.k = 0) : l.body = l.ds ∧ l = { zeroR with ds := l.ds } := by
  obtain ⟨_, a1, a2, a3, a4, a5, a6, a7, a8, a9, a10, a11, a12⟩ : l.k = 0 ∧ l.ty = 0 ∧ l.co = 0 ∧ l.re = 0 ∧ l.sp = 0 ∧ l.dp = 0 ∧ l.ns = false ∧ l.sq = 0 ∧ l.ak = 0 ∧ l.fl = 0 ∧ l.wi = 0 ∧ l.ur = 0 ∧ l.os = [] := by
    rcases (L4R.okOf hok).kind with h | h | h | h
    · exact h
    · have := h.1; omega
    · have := h.1; omega
    · have := h.1; omega
  have hh := L4R.head_len l
  rw [hk, show fixV 0 = 0 from rfl] at hh
  have hh' : l.head = [] := List.length_eq_zero_iff.1 (by omega)
  refine ⟨by unfold L4R.body; rw [hh', a12]; rfl, ?_⟩
  obtain ⟨k, ty, co, re, sp, dp, ns, sq, ak, fl, wi, ur, os, ds⟩ := l
  simp only at hk a1 a2 a3 a4 a5 a6 a7 a8 a9 a10 a11 a12
  subst hk a1 a2 a3 a4 a5 a6 a7 a8 a9 a10 a11 a12
  rfl
theorem PkR.parts {x : PkR} (hx : x.Fine) (h : x.Fits) (hl : x.bytes.length ≤ 9018) (e2 : x.et = 2048) : hdY x.bytes = 2048 ∧ num (((x.bytes.drop (hdA x.bytes)).drop 6).take 2) = x.fr ∧ ipM (x.bytes.drop (hdA x.bytes)) = 20 + x.io.length ∧ ipT (x.bytes.drop (hdA x.bytes)) = 20 + x.io.length + x.l.body.length := by
  have hv := PkR.headV hx h hl x.head.length rfl
  have h0 : hdE x.bytes = 0 := by
    by_cases h0 : hdE x.bytes = 0
    · exact h0
    · have := headV_bad x.bytes h0
      rw [hv] at this
      exact absurd (ethV_inj this).2.2.2.2.2.2.symm h0
  have hk := (headV_ok x.bytes h0).1
  rw [hv] at hk
  obtain ⟨_, _, _, _, h5, h6, _⟩ := ethV_inj hk
  have hA : hdA x.bytes = x.head.length := by omega
  rw [hA]
  have hm := PkR.mok hx h e2 x.head.length rfl
  have hT := PkR.total h e2 x.head.length rfl
  have hR := PkR.ipRead h e2 x.head.length rfl
  have hlen : (x.bytes.drop x.head.length).length = x.bytes.length - x.head.length := by rw [List.length_drop]
  rw [← hlen] at hm
  rw [ipFs] at hR
  simp only [Value.agg.injEq, Array.mk.injEq, List.cons.injEq, Value.int.injEq, Value.string.injEq, true_and, and_true] at hR
  refine ⟨by omega, hR.2.2.1, (ip_of_mok hm).2, ?_⟩
  unfold ipT; omega
theorem PkR.back {x : PkR} (hx : x.Fine) (h : x.Fits) (hl : x.bytes.length ≤ 9018) : parseR x.bytes = (x, 0) := by
  obtain ⟨A, hA⟩ : ∃ A, x.head.length = A := ⟨_, rfl⟩
  rw [parse_head (PkR.headV hx h hl A hA)]
  have ho := h.own
  unfold restR
  by_cases e1 : x.et = 2054
  · rw [if_pos e1]
    have hb : x.bytes.drop A = Eth.arpBytes x.op x.sha x.spa x.tha x.tpa ++ x.pd := by
      have e : x.bd = [] := by
        rw [ho]; unfold PkR.own; rw [if_pos e1]; rfl
      unfold PkR.bytes PkR.inner
      rw [if_pos e1, e, List.append_nil, List.append_assoc, List.drop_append_of_le_length (by omega), List.drop_of_length_le (by omega)]; rfl
    have ha := Eth.arp_back x.op x.sha x.spa x.tha x.tpa x.pd hx.sha.1 hx.spa hx.tha.1 hx.tpa (h.arp e1)
    rw [← hb] at ha
    obtain ⟨a0, a1, a2, a3, a4, a5⟩ := arp_of ha
    rw [if_pos a0]
    have hp : (x.bytes.drop A).drop 28 = x.pd := by
      have := arpBytes_len x.op x.sha x.spa x.tha x.tpa
      rw [hb, List.drop_append_of_le_length (by omega), List.drop_of_length_le (by omega)]; rfl
    have ho' : x = x.ownA := by
      conv => lhs; rw [ho]
      unfold PkR.own; rw [if_pos e1]
    refine Prod.ext ?_ rfl
    refine Eq.trans ?_ ho'.symm
    unfold arpR PkR.ownA
    rw [a1, a2, a3, a4, a5, hp, e1]
  rw [if_neg e1]
  by_cases e2 : x.et = 2048
  · rw [if_pos e2]
    have hm := PkR.mok hx h e2 A hA
    have hT := PkR.total h e2 A hA
    have hR := PkR.ipRead h e2 A hA
    have hd := PkR.dropI h e2 A hA
    have hi := PkR.innerI_len e2
    have hin := PkR.innerI e2
    have hbl := PkR.ipb_len x
    have hf := PkR.flagsI ho e2
    have hn : x.bytes.length = x.head.length + (x.inner.length + x.pd.length) := by rw [PkR.bytesI h e2, List.length_append, List.length_append]
    generalize hys : x.bytes.drop A = ys at *
    have hlen : ys.length = x.bytes.length - A := by rw [← hys, List.length_drop]
    rw [← hlen] at hm
    obtain ⟨m0, m1⟩ := ip_of_mok hm
    rw [if_pos m0, m1]
    have hTT : ipT ys = 20 + x.io.length + x.l.body.length := by unfold ipT; omega
    rw [ipFs] at hR
    simp only [Value.agg.injEq, Array.mk.injEq, List.cons.injEq, Value.int.injEq, Value.string.injEq, true_and, and_true] at hR
    obtain ⟨r1, r2, r3, r4, r5, r6, r7, r8⟩ := hR
    have hD : ipD ys (20 + x.io.length) = x.l.enc x.src x.dst := by
      have := L4R.enc_len x.l x.src x.dst
      unfold ipD
      rw [hTT, hd, hin, List.append_assoc, List.drop_append_of_le_length (by omega), List.drop_of_length_le (by omega), List.nil_append, List.take_append_of_le_length (by omega), List.take_of_length_le (by omega)]
    have hP : ys.drop (ipT ys) = x.pd := by
      rw [hTT, hd, List.drop_append_of_le_length (by omega), List.drop_of_length_le (by omega)]; rfl
    have hyz : ∀ i, 0 ≤ ys.getD i 0 ∧ ys.getD i 0 ≤ 255 := by rw [← hys]; exact Eth.fits_drop (PkR.bytes_bd hx h) A
    have r8' : (ys.drop 20).take (20 + x.io.length - 20) = x.io := Eth.str_inj (Eth.fits_take (Eth.fits_drop hyz 20) _) hx.io r8
    have ho' : x = x.ownI := by
      conv => lhs; rw [ho]
      unfold PkR.own; rw [if_neg e1, if_pos e2]
    have key : ∀ l, l = x.l → ipR x.d x.s x.tg x.tag ys (20 + x.io.length) l = x := fun l el => by
      refine Eq.trans ?_ ho'.symm
      unfold ipR PkR.ownI
      rw [r1, r2, r3, r4, r5, r6, r7, r8', hP, e2, el, ← hf.2.2.2]
    unfold ipP
    by_cases hw : wholeB (num ((ys.drop 6).take 2)) = true
    · rw [if_pos hw]
      rw [r3] at hw
      have hk : x.l.k = kindV x.pr := by rw [hf.2.2.2, if_pos hw]
      have hq := dec_own hx.l (h.l4 e2) x.src x.dst hx.src.1 hx.dst.1
      rw [hk] at hq
      have q1 : l4e ys (20 + x.io.length) = 0 := by unfold l4e; rw [hD, r5, r6, r7]; exact hq.1
      have q2 : l4r ys (20 + x.io.length) = x.l := by unfold l4r; rw [hD, r5, r6, r7]; exact hq.2
      rw [if_pos q1, key _ q2]
    · rw [if_neg hw]
      rw [r3] at hw
      have hk : x.l.k = 0 := by rw [hf.2.2.2, if_neg hw]
      obtain ⟨q1, q2⟩ := L4R.opaque (h.l4 e2) hk
      have q3 : x.l.enc x.src x.dst = x.l.ds := by unfold L4R.enc; rw [if_pos (.inl hk), q1]
      rw [hD, q3, key _ q2.symm]
  · rw [if_neg e2]
    have ho' : x = x.ownP := by
      conv => lhs; rw [ho]
      unfold PkR.own; rw [if_neg e1, if_neg e2]
    have hb : x.bytes.drop A = x.bd := by
      have e : x.pd = [] := (PkR.flagsP ho e1 e2).2.2
      unfold PkR.bytes PkR.inner
      rw [if_neg e1, if_neg e2, e, List.append_nil, List.append_nil, List.drop_append_of_le_length (by omega), List.drop_of_length_le (by omega)]; rfl
    refine Prod.ext ?_ rfl
    refine Eq.trans ?_ ho'.symm
    unfold bodyR PkR.ownP
    rw [hb]
end Go.Proofs.Ytpiokeidcnbmbaa

namespace Go.Proofs.Ytpiokeidcnbmbaa
open Go.RowKit
set_option maxRecDepth 20000
theorem PkR.neqSelf (x : PkR) (W : World) : (binOp .neq 34 (.agg x.ps) (.agg x.ps)).run Try.prog W = .ok (.bool false) W := by
  have := PkR.neqRun x x W
  rw [PkR.eqB_self] at this
  exact this
theorem PkR.eqSelf (x : PkR) (W : World) : (binOp .eql 34 (.agg x.ps) (.agg x.ps)).run Try.prog W = .ok (.bool true) W := by
  have := PkR.eqRun x x W
  rw [PkR.eqB_self] at this
  exact this
theorem errors_any (x : PkR) (hx : x.Fine) (h9 : x.l.os.length ≤ 140737488355328) (mac ip kind code : Int) (hmac : 0 ≤ mac ∧ mac ≤ 18446744073709551615) (hip : 0 ≤ ip ∧ ip ≤ 4294967295) (w : World) :
    Calls Try.prog 5 #[.agg x.ps, .int .u64 mac, .int .u32 ip, .int .i64 kind, .int .i64 code] w fun e w' => e = .returned (.bool true) ∧ Below w.heap.size w w' := by
  by_cases h : x.Told
  · have hm : 0 ≤ mac % 281474976710656 ∧ mac % 281474976710656 ≤ 281474976710655 := by omega
    have hk : 0 ≤ kind % 256 ∧ kind % 256 ≤ 255 := by omega
    have hc : 0 ≤ code % 256 ∧ code % 256 ≤ 255 := by omega
    have HE := fun W => PkR.errorYes hx h mac ip kind code _ _ _ (and48 mac) (and255 kind) (and255 code) W
    have HR := fun W => PkR.rerrorYes hx h9 h mac ip kind code hmac W
    have f1 := PkR.err_fine hx h (mac % 281474976710656) ip (kind % 256) (code % 256) hm hip
    have f2 := PkR.err_fits h (mac % 281474976710656) ip (kind % 256) (code % 256) hm hk hc
    have f3 := PkR.err_len h (mac % 281474976710656) ip (kind % 256) (code % 256)
    have g33 : (x.errR (mac % 281474976710656) ip (kind % 256) (code % 256) x.quoted).ps[33]? = some (.string (strOfNums x.quoted)) := rfl
    have g0 : (x.errR (mac % 281474976710656) ip (kind % 256) (code % 256) x.quoted).ps[0]? = some (.int .u64 x.s) := rfl
    have g18 : (x.errR (mac % 281474976710656) ip (kind % 256) (code % 256) x.quoted).ps[18]? = some (.int .u32 x.src) := rfl
    have g4 : (x.errR (mac % 281474976710656) ip (kind % 256) (code % 256) x.quoted).et = 2048 := h.et
    have g14 : (x.errR (mac % 281474976710656) ip (kind % 256) (code % 256) x.quoted).fr = 0 := rfl
    have gb := PkR.err_body (x := x) (mac % 281474976710656) ip (kind % 256) (code % 256)
    generalize x.errR (mac % 281474976710656) ip (kind % 256) (code % 256) x.quoted = y at *
    refine PkR.errorsYes x mac ip kind code w y.ps (PkR.size y) (PkR.one y) y.bytes.length y.bytes x.quoted (PkR.bytes_bd f1 f2) f3.1 g33 g0 g18 f3.2 HE HR (fun W => PkR.neqSelf y W) (fun W => PkR.eqSelf y W) (fun W => PkR.printYes f1 f2 f3.1 W) (fun W a cap hB h1 h2 => ?_)
    have hp := PkR.parts f1 f2 f3.1 g4
    have := parse_whole W a _ cap y.bytes hB h1 h2 (by rw [PkR.back f1 f2 f3.1]) hp.1 (by rw [hp.2.1, g14]; decide +kernel) (by rw [hp.2.2.1, hp.2.2.2, gb]; omega)
    rw [PkR.back f1 f2 f3.1, pv_mk] at this
    exact this
  · have HN : ∀ W, (binOp .neq 34 (.agg zeroPk) (.agg zeroPk)).run Try.prog W = .ok (.bool false) W := fun W => by kernel_rfl
    exact PkR.errorsNo x mac ip kind code w zeroPk zsize one36 (fun W => PkR.errorNo hx h mac ip kind code W) (fun W => PkR.rerrorNo hx h9 h mac ip kind code W) HN
end Go.Proofs.Ytpiokeidcnbmbaa

namespace Go.Proofs.Ytpiokeidcnbmbaa
open Go.ChangeShapes Go.WideShapes Go.ChangeAt Go.RowKit
open Go.Proofs.Ytpiokeidcnbmbaa.Ca (own laidOut)

theorem bounds_u64' {x : Int} (h : (Lit.int .u64 x).wf = true) : 0 ≤ x ∧ x ≤ 18446744073709551615 := by
  simp [Lit.wf, IntKind.min, IntKind.max, IntKind.bits, IntKind.signed] at h; omega
theorem bounds_u32' {x : Int} (h : (Lit.int .u32 x).wf = true) : 0 ≤ x ∧ x ≤ 4294967295 := by
  simp [Lit.wf, IntKind.min, IntKind.max, IntKind.bits, IntKind.signed] at h; omega
set_option maxRecDepth 100000 in
theorem packetErrors_lifted (os : Os) (started : os.Started) (H : Type) (enc : TypeId × Value → H) :
    ReturnsInHanded {} Try.checked os 5 .any (Rows.packetErrorsSpec.pre6 enc Try.prog Try.f5 Rows.packetErrorsRow.domain false) (Rows.packetErrorsSpec.post enc Try.prog Try.f5 false true false false) := by
  refine returnsInHanded_of_change_sized (C := Try.checked) own started (by kernel_rfl) Try.func5
    (ChangeSpec.witness6 (enc := enc) (C := Try.checked) false ⟨#[], #[.agg zeroPk, .int .u64 0, .int .u32 0, .int .i64 0, .int .i64 0], []⟩ 8 (by kernel_rfl) (by kernel_rfl) (by kernel_rfl) (by kernel_rfl)) ?_
  intro W base args ds gs before hval0 hW _ hsz0 _
  have hsz : (DataW.weightsEach Try.prog (Try.f5.params.toList ++ Rows.packetErrorsSpec.plain.varTypes Try.prog) (ds ++ gs)).all (· ≤ reachBytes) = true := hsz0
  clear hsz0
  have hval : ∀ (j : Nat) t v, Try.f5.params[j]? = some t → args[j]? = some v → Value.okWide Try.prog W .any base t v := hval0
  have hW' := hW
  obtain ⟨p, q, hA0, hV, rfl, _, _⟩ := hW
  have hA : DataW.TrodAll enc Try.prog W 0 (fun _ => true) true Try.f5.params.toList args.toList ds p := hA0
  rw [Try.params5] at hA hval hsz
  obtain ⟨v0, vs0, d0, ds0, p0, q0, hargs, rfl, rfl, h0, r0⟩ := trodAll_cons hA
  obtain ⟨v1, vs1, d1, ds1, p1, q1, rfl, rfl, rfl, h1, r1⟩ := trodAll_cons r0
  obtain ⟨v2, vs2, d2, ds2, p2, q2, rfl, rfl, rfl, h2, r2⟩ := trodAll_cons r1
  obtain ⟨v3, vs3, d3, ds3, p3, q3, rfl, rfl, rfl, h3, r3⟩ := trodAll_cons r2
  obtain ⟨v4, vs4, d4, ds4, p4, q4, rfl, rfl, rfl, h4, r4⟩ := trodAll_cons r3
  obtain ⟨rfl, rfl, rfl⟩ := trodAll_nil r4
  obtain rfl : args = #[v0, v1, v2, v3, v4] := by cases args; simp_all
  obtain ⟨rfl, rfl⟩ := trodVars_none hV
  have k0 := h0
  have lt0 : ∀ x ∈ p0, x.block < W.heap.size := by obtain ⟨m, hm⟩ := k0; exact DataW.trod_lt m _ _ _ hm
  obtain ⟨x0, rfl, X0, X9⟩ := Ca.open_pkR 0 (hval 0 34 v0 rfl rfl) h0 hsz rfl rfl
  obtain ⟨a1, rfl, rfl, rfl, w1⟩ := open_int Try.underlying23 (hval 1 23 v1 rfl rfl) h1
  obtain ⟨a2, rfl, rfl, rfl, w2⟩ := open_int Try.underlying26 (hval 2 26 v2 rfl rfl) h2
  obtain ⟨a3, rfl, rfl, rfl, w3⟩ := open_int Try.underlying3 (hval 3 3 v3 rfl rfl) h3
  obtain ⟨a4, rfl, rfl, rfl, w4⟩ := open_int Try.underlying3 (hval 4 3 v4 rfl rfl) h4
  have k1 : 0 ≤ a1 ∧ a1 ≤ 18446744073709551615 := bounds_u64' w1
  have k2 : 0 ≤ a2 ∧ a2 ≤ 4294967295 := bounds_u32' w2
  clear hA0 hval0
  refine (errors_any x0 X0 X9 a1 a2 a3 a4 k1 k2 W).mono fun e W' ⟨he, bel⟩ => ?_
  subst he
  exact ⟨_, rfl, _, _, _, [], _, [], hW', trodAll_mk1 (shut_bool Try.underlying4 _), (trodAll_cons_mk (Below.trod laidOut (by kernel_rfl) (of_decide_eq_true (by kernel_rfl)) k0 bel lt0) (trodAll_cons_mk (shut_int Try.underlying23 w1) (trodAll_cons_mk (shut_int Try.underlying26 w2) (trodAll_cons_mk (shut_int Try.underlying3 w3) (trodAll_cons_mk (shut_int Try.underlying3 w4) trodAll_mk0))))), rfl, bel.frame _, fun h => by cases h⟩

theorem packetErrors_proved : Rows.PacketErrorsSaid :=
  OpenClaim.holds_of_wide 5 Try.f5 rfl rfl rfl rfl rfl rfl rfl ⟨rfl, rfl, rfl, rfl, rfl⟩ rfl rfl rfl rfl rfl (by kernel_rfl) Try.func5 (by kernel_rfl)
    (of_decide_eq_true (by kernel_rfl)) (by unfold Func.isWrapper; first | (rw [if_pos (by decide +kernel)]; kernel_rfl) | (rw [if_neg (by decide +kernel)]; exact ⟨rfl, rfl⟩))
    (fun os started H enc _ => packetErrors_lifted os started H enc)
#print axioms packetErrors_proved
end Go.Proofs.Ytpiokeidcnbmbaa
