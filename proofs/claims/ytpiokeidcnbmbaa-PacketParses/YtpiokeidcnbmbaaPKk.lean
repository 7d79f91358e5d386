/- Echo of package packet. No condition beyond cells of their kinds. -/
import Derived.Test.YtpiokeidcnbmbaaPKc
import Derived.Test.YtpiokeidcnbmbaaPCa
import Derived.Deep.RegionHeld3
namespace Go.Proofs.Ytpiokeidcnbmbaa
open Go.RowKit
set_option maxRecDepth 20000
set_option linter.unusedSimpArgs false
/-- A goal at which a walk stops. -/
@[irreducible] def StopP (p : Prop) : Prop := p
theorem StopP.out {p : Prop} (h : StopP p) : p := by unfold StopP at h; exact h
theorem StopP.mk {p : Prop} (h : p) : StopP p := by unfold StopP; exact h
/-- The reply to an echo. -/
def echoQ (ps : Array Value) (d s src dst : Int) : Array Value := ((((((ps.setIfInBounds 0 (.int .u64 s)).setIfInBounds 1 (.int .u64 d)).setIfInBounds 18 (.int .u32 src)).setIfInBounds 17 (.int .u32 dst)).setIfInBounds 15 (.int .i64 64)).setIfInBounds 21 (.int .i64 0))
theorem echoQ_size {ps : Array Value} (h : ps.size = 36) (d s src dst : Int) : (echoQ ps d s src dst).size = 36 := by simp [echoQ, h]
theorem echoQ_one {ps : Array Value} (ho : ps.all (·.oneCell') = true) (d s src dst : Int) : (echoQ ps d s src dst).all (·.oneCell') = true := (Ca.set_one (Ca.set_one (Ca.set_one (Ca.set_one (Ca.set_one (Ca.set_one ho rfl) rfl) rfl) rfl) rfl) rfl)
set_option maxHeartbeats 4000000 in
theorem echo_3 (ps : Array Value) (hs : ps.size = 36) (ho : ps.all (·.oneCell') = true) (tos id fr ttl pr src dst : Int) (io : List Int) (k ty co re sp dp : Int) (ns : Bool) (sq ak fl wi ur : Int) (lo ds : List Int) (hI : ps.extract 12 (12 + 8) = #[.int .i64 tos, .int .i64 id, .int .i64 fr, .int .i64 ttl, .int .i64 pr, .int .u32 src, .int .u32 dst, .string (strOfNums io)]) (hL : ps.extract 20 (20 + 14) = #[.int .i64 k, .int .i64 ty, .int .i64 co, .int .u32 re, .int .i64 sp, .int .i64 dp, .bool ns, .int .u32 sq, .int .u32 ak, .int .i64 fl, .int .i64 wi, .int .i64 ur, .string (strOfNums lo), .string (strOfNums ds)]) (d s : Int) (h11 : ps[11]? = some (.bool true)) (h1 : wholeB fr = true) (h2 : askedB k ty co = true) (g0 : ps[0]? = some (.int .u64 d)) (g1 : ps[1]? = some (.int .u64 s)) (g15 : ps[15]? = some (.int .i64 ttl)) (g17 : ps[17]? = some (.int .u32 src)) (g18 : ps[18]? = some (.int .u32 dst)) (g21 : ps[21]? = some (.int .i64 ty)) (w : World) :
    Calls Try.prog 15 #[.agg ps] w fun e w' => e = .returned (.tuple #[.agg (echoQ ps d s src dst), .bool true]) ∧ Below w.heap.size w w' := by
  have Zq : Hid ((echoQ ps d s src dst).size = 36) := echoQ_size hs d s src dst
  have Oq : Hid ((echoQ ps d s src dst).all (·.oneCell') = true) := echoQ_one ho d s src dst
  have G0 : Hid (ps[0]? = some (.int .u64 d)) := g0
  have G1 : Hid (ps[1]? = some (.int .u64 s)) := g1
  have G15 : Hid (ps[15]? = some (.int .i64 ttl)) := g15
  have G17 : Hid (ps[17]? = some (.int .u32 src)) := g17
  have G18 : Hid (ps[18]? = some (.int .u32 dst)) := g18
  have G21 : Hid (ps[21]? = some (.int .i64 ty)) := g21
  clear g0 g1 g15 g17 g18 g21
  have L1 : Hid _ := Ca.two_first w (.cells ps 34) (.cells zeroPk 34)
  have L2 : Hid _ := Ca.two_last w (.cells ps 34) (.cells zeroPk 34)
  have LB : Hid _ := below2 w (.cells ps 34) (.cells zeroPk 34)
  have HS : Hid (ps.size = 36) := hs
  clear hs ho
  go_enter Try.func15, Try.ntmps15
  go_wp2_with (refine Ca.wpList_load_atw (by rfl) 30 _ rfl (w.heap.size) 12 8 rfl ps #[.int .i64 tos, .int .i64 id, .int .i64 fr, .int .i64 ttl, .int .i64 pr, .int .u32 src, .int .u32 dst, .string (strOfNums io)] 34 _ L1.out Try.underlying30 rfl hI rfl (by kernel_rfl) ?_)
  refine (ipwhole_any tos id fr ttl pr src dst io _).mono ?_
  rintro e W1 ⟨rfl, hb⟩
  rw [h1]
  have B_W1 : Hid (Below w.heap.size w W1) := LB.out.trans (hb.mono (by first | exact LB.out.size | (simp; omega)))
  have R1_W1 : Hid (W1.heap[w.heap.size]? = some (.cells ps 34 (0, 0))) := (hb.block _ (Ca.lt_of_heap L1.out)).trans L1.out
  have R2_W1 : Hid (W1.heap[w.heap.size + 1]? = some (.cells zeroPk 34 (0, 0))) := (hb.block _ (Ca.lt_of_heap L2.out)).trans L2.out
  clear hb L1 L2 LB
  clear h11
  go_wp2_with (refine Ca.wpList_load_atw (by rfl) 32 _ rfl (w.heap.size) 20 14 rfl ps #[.int .i64 k, .int .i64 ty, .int .i64 co, .int .u32 re, .int .i64 sp, .int .i64 dp, .bool ns, .int .u32 sq, .int .u32 ak, .int .i64 fl, .int .i64 wi, .int .i64 ur, .string (strOfNums lo), .string (strOfNums ds)] 34 _ R1_W1.out Try.underlying32 rfl hL rfl (by kernel_rfl) ?_)
  refine (asked_any k ty co re sp dp ns sq ak fl wi ur lo ds _).mono ?_
  rintro e W2 ⟨rfl, hb⟩
  rw [h2]
  have B_W2 : Hid (Below w.heap.size w W2) := B_W1.out.trans (hb.mono (by first | exact B_W1.out.size | (simp; omega)))
  have R1_W2 : Hid (W2.heap[w.heap.size]? = some (.cells ps 34 (0, 0))) := (hb.block _ (Ca.lt_of_heap R1_W1.out)).trans R1_W1.out
  have R2_W2 : Hid (W2.heap[w.heap.size + 1]? = some (.cells zeroPk 34 (0, 0))) := (hb.block _ (Ca.lt_of_heap R2_W1.out)).trans R2_W1.out
  clear hb B_W1 R1_W1 R2_W1
  have c0 := (Ca.cell_row R1_W2.out 0).trans (show (ps)[0]? = some (.int .u64 d) from by exact G0.out)
  have f0 := frozen_of_row W2 _ 0 _ _ R1_W2.out
  have c1 := (Ca.cell_row R1_W2.out 1).trans (show (ps)[1]? = some (.int .u64 s) from by exact G1.out)
  have f1 := frozen_of_row W2 _ 1 _ _ R1_W2.out
  go_wp2_with (show wpList _ _ _ ({ dst := some 30, op := _, type := _, pos := _, after := _, guard := _ } :: _) _ _; refine StopP.out ?_)
  clear c0 f0 c1 f1
  have R1_W3 : Hid (((W2.setCell ⟨w.heap.size, 0, none⟩ (.int .u64 s)).setCell ⟨w.heap.size, 1, none⟩ (.int .u64 d)).heap[w.heap.size]? = some (.cells ((ps.setIfInBounds 0 (.int .u64 s)).setIfInBounds 1 (.int .u64 d)) 34 (0, 0))) := (Ca.row_setCell (Ca.row_setCell R1_W2.out 0 (.int .u64 s)) 1 (.int .u64 d))
  have R2_W3 : Hid (((W2.setCell ⟨w.heap.size, 0, none⟩ (.int .u64 s)).setCell ⟨w.heap.size, 1, none⟩ (.int .u64 d)).heap[w.heap.size + 1]? = some (.cells zeroPk 34 (0, 0))) := ((Below.heap_setCell _ _ _ _ (show w.heap.size + 1 ≠ w.heap.size by omega)).trans ((Below.heap_setCell _ _ _ _ (show w.heap.size + 1 ≠ w.heap.size by omega)).trans R2_W2.out))
  have B_W3 : Hid (Below w.heap.size w ((W2.setCell ⟨w.heap.size, 0, none⟩ (.int .u64 s)).setCell ⟨w.heap.size, 1, none⟩ (.int .u64 d))) := ((B_W2.out.setCell (Nat.le_refl _) _).setCell (Nat.le_refl _) _)
  obtain ⟨W3, hW⟩ : ∃ V, ((W2.setCell ⟨w.heap.size, 0, none⟩ (.int .u64 s)).setCell ⟨w.heap.size, 1, none⟩ (.int .u64 d)) = V := ⟨_, rfl⟩
  rw [hW] at R1_W3 R2_W3 B_W3 ⊢
  clear hW R1_W2 R2_W2 B_W2
  refine StopP.mk ?_
  have c17 := (Ca.cell_row R1_W3.out 17).trans (show (((ps.setIfInBounds 0 (.int .u64 s)).setIfInBounds 1 (.int .u64 d)))[17]? = some (.int .u32 src) from by rw [Array.getElem?_setIfInBounds_ne (by decide)]; rw [Array.getElem?_setIfInBounds_ne (by decide)]; exact G17.out)
  have f17 := frozen_of_row W3 _ 17 _ _ R1_W3.out
  have c18 := (Ca.cell_row R1_W3.out 18).trans (show (((ps.setIfInBounds 0 (.int .u64 s)).setIfInBounds 1 (.int .u64 d)))[18]? = some (.int .u32 dst) from by rw [Array.getElem?_setIfInBounds_ne (by decide)]; rw [Array.getElem?_setIfInBounds_ne (by decide)]; exact G18.out)
  have f18 := frozen_of_row W3 _ 18 _ _ R1_W3.out
  go_wp2_with (show wpList _ _ _ ({ dst := some 40, op := _, type := _, pos := _, after := _, guard := _ } :: _) _ _; refine StopP.out ?_)
  clear c17 f17 c18 f18
  have R1_W4 : Hid (((W3.setCell ⟨w.heap.size, 18, none⟩ (.int .u32 src)).setCell ⟨w.heap.size, 17, none⟩ (.int .u32 dst)).heap[w.heap.size]? = some (.cells ((((ps.setIfInBounds 0 (.int .u64 s)).setIfInBounds 1 (.int .u64 d)).setIfInBounds 18 (.int .u32 src)).setIfInBounds 17 (.int .u32 dst)) 34 (0, 0))) := (Ca.row_setCell (Ca.row_setCell R1_W3.out 18 (.int .u32 src)) 17 (.int .u32 dst))
  have R2_W4 : Hid (((W3.setCell ⟨w.heap.size, 18, none⟩ (.int .u32 src)).setCell ⟨w.heap.size, 17, none⟩ (.int .u32 dst)).heap[w.heap.size + 1]? = some (.cells zeroPk 34 (0, 0))) := ((Below.heap_setCell _ _ _ _ (show w.heap.size + 1 ≠ w.heap.size by omega)).trans ((Below.heap_setCell _ _ _ _ (show w.heap.size + 1 ≠ w.heap.size by omega)).trans R2_W3.out))
  have B_W4 : Hid (Below w.heap.size w ((W3.setCell ⟨w.heap.size, 18, none⟩ (.int .u32 src)).setCell ⟨w.heap.size, 17, none⟩ (.int .u32 dst))) := ((B_W3.out.setCell (Nat.le_refl _) _).setCell (Nat.le_refl _) _)
  obtain ⟨W4, hW⟩ : ∃ V, ((W3.setCell ⟨w.heap.size, 18, none⟩ (.int .u32 src)).setCell ⟨w.heap.size, 17, none⟩ (.int .u32 dst)) = V := ⟨_, rfl⟩
  rw [hW] at R1_W4 R2_W4 B_W4 ⊢
  clear hW R1_W3 R2_W3 B_W3
  refine StopP.mk ?_
  have c15 := (Ca.cell_row R1_W4.out 15).trans (show (((((ps.setIfInBounds 0 (.int .u64 s)).setIfInBounds 1 (.int .u64 d)).setIfInBounds 18 (.int .u32 src)).setIfInBounds 17 (.int .u32 dst)))[15]? = some (.int .i64 ttl) from by rw [Array.getElem?_setIfInBounds_ne (by decide)]; rw [Array.getElem?_setIfInBounds_ne (by decide)]; rw [Array.getElem?_setIfInBounds_ne (by decide)]; rw [Array.getElem?_setIfInBounds_ne (by decide)]; exact G15.out)
  have f15 := frozen_of_row W4 _ 15 _ _ R1_W4.out
  go_wp2_with (show wpList _ _ _ ({ dst := some 42, op := _, type := _, pos := _, after := _, guard := _ } :: _) _ _; refine StopP.out ?_)
  clear c15 f15
  have R1_W5 : Hid ((W4.setCell ⟨w.heap.size, 15, none⟩ (.int .i64 64)).heap[w.heap.size]? = some (.cells (((((ps.setIfInBounds 0 (.int .u64 s)).setIfInBounds 1 (.int .u64 d)).setIfInBounds 18 (.int .u32 src)).setIfInBounds 17 (.int .u32 dst)).setIfInBounds 15 (.int .i64 64)) 34 (0, 0))) := (Ca.row_setCell R1_W4.out 15 (.int .i64 64))
  have R2_W5 : Hid ((W4.setCell ⟨w.heap.size, 15, none⟩ (.int .i64 64)).heap[w.heap.size + 1]? = some (.cells zeroPk 34 (0, 0))) := ((Below.heap_setCell _ _ _ _ (show w.heap.size + 1 ≠ w.heap.size by omega)).trans R2_W4.out)
  have B_W5 : Hid (Below w.heap.size w (W4.setCell ⟨w.heap.size, 15, none⟩ (.int .i64 64))) := (B_W4.out.setCell (Nat.le_refl _) _)
  obtain ⟨W5, hW⟩ : ∃ V, (W4.setCell ⟨w.heap.size, 15, none⟩ (.int .i64 64)) = V := ⟨_, rfl⟩
  rw [hW] at R1_W5 R2_W5 B_W5 ⊢
  clear hW R1_W4 R2_W4 B_W4
  refine StopP.mk ?_
  have c21 := (Ca.cell_row R1_W5.out 21).trans (show ((((((ps.setIfInBounds 0 (.int .u64 s)).setIfInBounds 1 (.int .u64 d)).setIfInBounds 18 (.int .u32 src)).setIfInBounds 17 (.int .u32 dst)).setIfInBounds 15 (.int .i64 64)))[21]? = some (.int .i64 ty) from by rw [Array.getElem?_setIfInBounds_ne (by decide)]; rw [Array.getElem?_setIfInBounds_ne (by decide)]; rw [Array.getElem?_setIfInBounds_ne (by decide)]; rw [Array.getElem?_setIfInBounds_ne (by decide)]; rw [Array.getElem?_setIfInBounds_ne (by decide)]; exact G21.out)
  have f21 := frozen_of_row W5 _ 21 _ _ R1_W5.out
  go_wp2_with (show wpList _ _ _ ({ dst := some 44, op := _, type := _, pos := _, after := _, guard := _ } :: _) _ _; refine StopP.out ?_)
  clear c21 f21
  have R1_W6 : Hid ((W5.setCell ⟨w.heap.size, 21, none⟩ (.int .i64 0)).heap[w.heap.size]? = some (.cells ((((((ps.setIfInBounds 0 (.int .u64 s)).setIfInBounds 1 (.int .u64 d)).setIfInBounds 18 (.int .u32 src)).setIfInBounds 17 (.int .u32 dst)).setIfInBounds 15 (.int .i64 64)).setIfInBounds 21 (.int .i64 0)) 34 (0, 0))) := (Ca.row_setCell R1_W5.out 21 (.int .i64 0))
  have R2_W6 : Hid ((W5.setCell ⟨w.heap.size, 21, none⟩ (.int .i64 0)).heap[w.heap.size + 1]? = some (.cells zeroPk 34 (0, 0))) := ((Below.heap_setCell _ _ _ _ (show w.heap.size + 1 ≠ w.heap.size by omega)).trans R2_W5.out)
  have B_W6 : Hid (Below w.heap.size w (W5.setCell ⟨w.heap.size, 21, none⟩ (.int .i64 0))) := (B_W5.out.setCell (Nat.le_refl _) _)
  obtain ⟨W6, hW⟩ : ∃ V, (W5.setCell ⟨w.heap.size, 21, none⟩ (.int .i64 0)) = V := ⟨_, rfl⟩
  rw [hW] at R1_W6 R2_W6 B_W6 ⊢
  clear hW R1_W5 R2_W5 B_W5
  refine StopP.mk ?_
  go_wp2_with (first
    | refine wpList_load_row rfl 34 _ rfl (w.heap.size) rfl 34 (echoQ ps d s src dst) (0, 0) _ R1_W6.out Try.underlying34 rfl (info36 Zq.out) ?_
    | refine Ca.wpList_store_row rfl 34 _ _ rfl (w.heap.size + 1) zeroPk (echoQ ps d s src dst) 34 rfl rfl R2_W6.out (info36 Zq.out) (Eq.trans (b := 36) rfl Zq.out.symm) Oq.out ?_
    | fail)
  intro W9 y1 y2 y3 y4
  go_wp2
  exact bodyPost_ret (results_pk (p := 2) (u := 3) rfl _ _ (w.heap.size + 1) (echoQ ps d s src dst) rfl y1 Zq.out) rfl ⟨rfl, B_W6.out.trans (y4.mono (by omega))⟩
end Go.Proofs.Ytpiokeidcnbmbaa
