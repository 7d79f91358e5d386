/- Parts of the proof, in one text. -/
import Derived.Test.YtpiokeidcnbmbaaFG1
namespace Go.Proofs.Ytpiokeidcnbmbaa
open Go.RowKit
set_option maxRecDepth 20000
set_option maxHeartbeats 4000000 in
theorem parse_ok14A (w : World) (b off n cap p q : Nat) (zs : List Int) (h : BS w (some ⟨b, off, none⟩) n zs) (hs tt : Nat) (hp : p = 14 + hs) (hq : q = 14 + tt) (h0 : 0 < hs) (hst : hs ≤ tt) (hqn : q ≤ n) (hcap : n ≤ cap) (hc1 : ¬ cap = p) (hc2 : ¬ cap = q) (d s tag : Int) (tg : Bool) (tos id fr ttl pr src dst : Int) (io : List Int) (hw : wholeB fr = true) (k ty co re sp dp : Int) (ns : Bool) (sq ak fl wi ur : Int) (lo ds : List Int) (pd : ByteArray) (hpd : strOfNums (zs.drop q) = pd) (HH : Hid (∀ W, BS W (some ⟨b, off, none⟩) n zs → Calls Try.prog 18 #[.slice (some ⟨b, off, none⟩) n cap] W fun e w' => e = .returned (Eth.ethV d s tg tag 2048 14 0) ∧ Below W.heap.size W w'))
    (HI : Hid (∀ W, BS W (some ⟨b, off + 14, none⟩) (n - 14) (zs.drop 14) → Calls Try.prog 17 #[.slice (some ⟨b, off + 14, none⟩) (n - 14) (cap - 14)] W fun e w' => e = .returned (.tuple #[.agg #[.int .i64 tos, .int .i64 id, .int .i64 fr, .int .i64 ttl, .int .i64 pr, .int .u32 src, .int .u32 dst, .string (strOfNums io)], .int .i64 hs, .int .i64 tt, .int .i64 0]) ∧ Below W.heap.size W w'))
    (HL : Hid (∀ W, BS W (some ⟨b, off, none⟩) n zs → Calls Try.prog 21 #[.int .u32 src, .int .u32 dst, .int .i64 pr, .slice (some ⟨b, off + p, none⟩) (q - p) (cap - p)] W fun e w' => e = .returned (.tuple #[.agg #[.int .i64 k, .int .i64 ty, .int .i64 co, .int .u32 re, .int .i64 sp, .int .i64 dp, .bool ns, .int .u32 sq, .int .u32 ak, .int .i64 fl, .int .i64 wi, .int .i64 ur, .string (strOfNums lo), .string (strOfNums ds)], .int .i64 0]) ∧ Below W.heap.size W w')) :
    Calls Try.prog 8 #[.slice (some ⟨b, off, none⟩) n cap] w fun e w' => e = .returned (.tuple #[.agg ((Ca.putC (Ca.putC ((Ca.putC zeroPk 0 (#[.int .u64 d, .int .u64 s, .bool tg, .int .i64 tag, .int .i64 2048]).toList).setIfInBounds 11 (.bool true)) 12 (#[.int .i64 tos, .int .i64 id, .int .i64 fr, .int .i64 ttl, .int .i64 pr, .int .u32 src, .int .u32 dst, .string (strOfNums io)]).toList) 20 (#[.int .i64 k, .int .i64 ty, .int .i64 co, .int .u32 re, .int .i64 sp, .int .i64 dp, .bool ns, .int .u32 sq, .int .u32 ak, .int .i64 fl, .int .i64 wi, .int .i64 ur, .string (strOfNums lo), .string (strOfNums ds)]).toList).setIfInBounds 35 (.string pd)), .int .i64 0]) ∧ Below w.heap.size w w' := by
  obtain ⟨p2, hp2⟩ : ∃ p, Ca.putC zeroPk 0 (#[.int .u64 d, .int .u64 s, .bool tg, .int .i64 tag, .int .i64 2048]).toList = p := ⟨_, rfl⟩
  have Ep2 : Hid (Ca.putC zeroPk 0 (#[.int .u64 d, .int .u64 s, .bool tg, .int .i64 tag, .int .i64 2048]).toList = p2) := hp2
  have Zp2 : Hid (p2.size = 36) := by show _ = _; rw [← hp2]; kernel_rfl
  clear hp2
  obtain ⟨p3, hp3⟩ : ∃ p, p2.setIfInBounds 11 (.bool true) = p := ⟨_, rfl⟩
  have Ep3 : Hid (p2.setIfInBounds 11 (.bool true) = p3) := hp3
  have Zp3 : Hid (p3.size = 36) := by show _ = _; rw [← hp3]; rw [Array.size_setIfInBounds]; exact Zp2.out
  clear hp3
  obtain ⟨p4, hp4⟩ : ∃ p, Ca.putC p3 12 (#[.int .i64 tos, .int .i64 id, .int .i64 fr, .int .i64 ttl, .int .i64 pr, .int .u32 src, .int .u32 dst, .string (strOfNums io)]).toList = p := ⟨_, rfl⟩
  have Ep4 : Hid (Ca.putC p3 12 (#[.int .i64 tos, .int .i64 id, .int .i64 fr, .int .i64 ttl, .int .i64 pr, .int .u32 src, .int .u32 dst, .string (strOfNums io)]).toList = p4) := hp4
  have Zp4 : Hid (p4.size = 36) := by show _ = _; rw [← hp4]; rw [Ca.putC_size]; exact Zp3.out
  clear hp4
  obtain ⟨p5, hp5⟩ : ∃ p, Ca.putC p4 20 (#[.int .i64 k, .int .i64 ty, .int .i64 co, .int .u32 re, .int .i64 sp, .int .i64 dp, .bool ns, .int .u32 sq, .int .u32 ak, .int .i64 fl, .int .i64 wi, .int .i64 ur, .string (strOfNums lo), .string (strOfNums ds)]).toList = p := ⟨_, rfl⟩
  have Ep5 : Hid (Ca.putC p4 20 (#[.int .i64 k, .int .i64 ty, .int .i64 co, .int .u32 re, .int .i64 sp, .int .i64 dp, .bool ns, .int .u32 sq, .int .u32 ak, .int .i64 fl, .int .i64 wi, .int .i64 ur, .string (strOfNums lo), .string (strOfNums ds)]).toList = p5) := hp5
  have Zp5 : Hid (p5.size = 36) := by show _ = _; rw [← hp5]; rw [Ca.putC_size]; exact Zp4.out
  clear hp5
  obtain ⟨p6, hp6⟩ : ∃ p, p5.setIfInBounds 35 (.string pd) = p := ⟨_, rfl⟩
  have Ep6 : Hid (p5.setIfInBounds 35 (.string pd) = p6) := hp6
  have Zp6 : Hid (p6.size = 36) := by show _ = _; rw [← hp6]; rw [Array.size_setIfInBounds]; exact Zp5.out
  clear hp6
  have HRO : Hid (p6.all (·.oneCell') = true) := by show _ = _; rw [← Ep6.out, ← Ep5.out, ← Ep4.out, ← Ep3.out, ← Ep2.out]; kernel_rfl
  rw [Ep2.out, Ep3.out, Ep4.out, Ep5.out, Ep6.out]
  have hm : 14 ≤ n := by omega
  have hc : ¬ cap = 14 := by omega
  have h2 : (n : Int) ≤ cap := by omega
  have hrm := h.room
  have k1 : (14 : Int) + (hs : Int) = (p : Int) := by omega
  have k2 : (14 : Int) + (tt : Int) = (q : Int) := by omega
  have k3 : (p : Int) ≤ q := by omega
  have k4 : (q : Int) ≤ n := by omega
  have k5 : (q : Int) ≤ cap := by omega
  have k6 : (p : Int) ≤ cap := by omega
  have w1 : IntKind.i64.wrap (p : Int) = p := by simp [IntKind.wrap, IntKind.bits, IntKind.signed]; omega
  have w2 : IntKind.i64.wrap (q : Int) = q := by simp [IntKind.wrap, IntKind.bits, IntKind.signed]; omega
  have HN : Hid (14 ≤ n ∧ q ≤ n ∧ n ≤ cap ∧ p ≤ q ∧ 0 < p) := by show _ ∧ _; omega
  clear hp hq
  have H : Hid (BS w (some ⟨b, off, none⟩) n zs) := h
  clear h
  go_enter Try.func8, Try.ntmps8
  go_wp2_with fail
  refine scope_from ?_
  go_wp2_with fail
  refine (HH.out _ (H.out.below (below2 w _ _))).mono ?_
  unfold Eth.ethV
  rintro e W1 ⟨rfl, hb⟩
  have B_W1 : Hid (Below w.heap.size w W1) := (below2 w _ _).trans (hb.mono (by simp; omega))
  have R2_W1 : Hid (W1.heap[w.heap.size]? = some (.cells zeroPk 34 (0, 0))) := (hb.block _ (Ca.lt_of_heap (Ca.two_first w _ _))).trans (Ca.two_first w _ _)
  have R4_W1 : Hid (W1.heap[w.heap.size + 1]? = some (.cells (zeroPk) 34 (0, 0))) := (hb.block _ (Ca.lt_of_heap (Ca.two_last w _ _))).trans (Ca.two_last w _ _)
  clear hb HH
  go_wp2_with (refine Ca.wpList_store_at rfl 25 _ _ rfl (w.heap.size + 1) 0 (zeroPk) #[.int .u64 d, .int .u64 s, .bool tg, .int .i64 tag, .int .i64 2048] 34 rfl rfl R4_W1.out (by kernel_rfl) (Nat.le_of_ble_eq_true (by kernel_rfl)) (by kernel_rfl) ?_)
  intro W2 y1 y2 y3 y4
  have B_W2 : Hid (Below w.heap.size w W2) := B_W1.out.trans (y4.mono (by omega))
  have R2_W2 : Hid (W2.heap[w.heap.size]? = some (.cells zeroPk 34 (0, 0))) := (y2 _ (by omega)).trans R2_W1.out
  have R4_W2 : Hid (W2.heap[w.heap.size + 1]? = some (.cells p2 34 (0, 0))) := by show _ = _; rw [← Ep2.out]; exact y1
  clear y1 y2 y3 y4
  clear B_W1 R2_W1 R4_W1
  have c4 := (Ca.cell_row R4_W2.out 4).trans (show _ = some (Value.int .i64 2048) by rw [← Ep2.out]; kernel_rfl)
  have c11 := (Ca.cell_row R4_W2.out 11).trans (show _ = some (Value.bool false) by rw [← Ep2.out]; kernel_rfl)
  have f11 := frozen_of_row W2 _ 11 _ _ R4_W2.out
  go_wp2_with fail
  go_step3
  show FromLabel _ _ _ _ _ _
  refine from_label rfl ?_
  go_wp2_with fail
  have RW : Hid ((W2.setCell ⟨w.heap.size + 1, 11, none⟩ (.bool true)).heap[w.heap.size + 1]? = some (.cells p3 34 (0, 0))) := by show _ = _; rw [← Ep3.out]; exact Ca.row_setCell R4_W2.out 11 _
  have ZW : Hid ((W2.setCell ⟨w.heap.size + 1, 11, none⟩ (.bool true)).heap[w.heap.size]? = some (.cells zeroPk 34 (0, 0))) := (Below.heap_setCell _ _ _ _ (show w.heap.size ≠ w.heap.size + 1 by omega)).trans R2_W2.out
  have BW : Hid (Below w.heap.size w (W2.setCell ⟨w.heap.size + 1, 11, none⟩ (.bool true))) := B_W2.out.setCell (show w.heap.size ≤ w.heap.size + 1 by omega) _
  refine (HI.out _ ((H.out.below BW.out).drop (by have := HN.out; omega) 14 (by have := HN.out; omega))).mono ?_
  rintro e W3 ⟨rfl, hb⟩
  have B_W3 : Hid (Below w.heap.size w W3) := BW.out.trans (hb.mono BW.out.size)
  have R2_W3 : Hid (W3.heap[w.heap.size]? = some (.cells zeroPk 34 (0, 0))) := (hb.block _ (Ca.lt_of_heap ZW.out)).trans ZW.out
  have R4_W3 : Hid (W3.heap[w.heap.size + 1]? = some (.cells (p3) 34 (0, 0))) := (hb.block _ (Ca.lt_of_heap RW.out)).trans RW.out
  clear hb HI RW ZW BW B_W2 R2_W2 R4_W2 c4 c11 f11
  have hs_p4 : 12 + (#[.int .i64 tos, .int .i64 id, .int .i64 fr, .int .i64 ttl, .int .i64 pr, .int .u32 src, .int .u32 dst, .string (strOfNums io)] : Array Value).size ≤ p3.size := by rw [Zp3.out]; exact Nat.le_of_ble_eq_true (by kernel_rfl)
  go_wp2_with (refine Ca.wpList_store_at rfl 30 _ _ rfl (w.heap.size + 1) 12 p3 #[.int .i64 tos, .int .i64 id, .int .i64 fr, .int .i64 ttl, .int .i64 pr, .int .u32 src, .int .u32 dst, .string (strOfNums io)] 34 rfl rfl R4_W3.out (by kernel_rfl) hs_p4 (by kernel_rfl) ?_)
  intro W4 y1 y2 y3 y4
  have B_W4 : Hid (Below w.heap.size w W4) := B_W3.out.trans (y4.mono (by omega))
  have R2_W4 : Hid (W4.heap[w.heap.size]? = some (.cells zeroPk 34 (0, 0))) := (y2 _ (by omega)).trans R2_W3.out
  have R4_W4 : Hid (W4.heap[w.heap.size + 1]? = some (.cells (p4) 34 (0, 0))) := by show _ = _; rw [← Ep4.out]; exact y1
  clear y1 y2 y3 y4 hs_p4
  clear B_W3 R2_W3 R4_W3
  have hx8 : p4.extract 12 (12 + 8) = #[.int .i64 tos, .int .i64 id, .int .i64 fr, .int .i64 ttl, .int .i64 pr, .int .u32 src, .int .u32 dst, .string (strOfNums io)] := by rw [← Ep4.out, ← Ep3.out, ← Ep2.out]; kernel_rfl
  have hx9 : (p4.extract 12 (12 + 8)).size = 8 := by rw [hx8]; rfl
  go_wp2_with (refine Ca.wpList_load_at rfl 30 _ rfl (w.heap.size + 1) 12 8 rfl p4 34 _ R4_W4.out Try.underlying30 rfl hx9 (by kernel_rfl) ?_; rw [hx8])
  clear hx8 hx9
  refine (ipwhole_any tos id fr ttl pr src dst io _).mono ?_
  rintro e W5 ⟨rfl, hb⟩
  rw [hw]
  have B_W5 : Hid (Below w.heap.size w W5) := B_W4.out.trans (hb.mono B_W4.out.size)
  have R2_W5 : Hid (W5.heap[w.heap.size]? = some (.cells zeroPk 34 (0, 0))) := (hb.block _ (Ca.lt_of_heap R2_W4.out)).trans R2_W4.out
  have R4_W5 : Hid (W5.heap[w.heap.size + 1]? = some (.cells (p4) 34 (0, 0))) := (hb.block _ (Ca.lt_of_heap R4_W4.out)).trans R4_W4.out
  clear B_W4 R2_W4 R4_W4
  clear hb
  have c17 := (Ca.cell_row R4_W5.out 17).trans (show _ = some (Value.int .u32 src) by rw [← Ep4.out, ← Ep3.out, ← Ep2.out]; kernel_rfl)
  have c18 := (Ca.cell_row R4_W5.out 18).trans (show _ = some (Value.int .u32 dst) by rw [← Ep4.out, ← Ep3.out, ← Ep2.out]; kernel_rfl)
  have c16 := (Ca.cell_row R4_W5.out 16).trans (show _ = some (Value.int .i64 pr) by rw [← Ep4.out, ← Ep3.out, ← Ep2.out]; kernel_rfl)
  go_wp2_with fail
  clear c16 c17 c18
  refine (HL.out _ (H.out.below B_W5.out)).mono ?_
  rintro e W7 ⟨rfl, hb⟩
  have B_W7 : Hid (Below w.heap.size w W7) := B_W5.out.trans (hb.mono B_W5.out.size)
  have R2_W7 : Hid (W7.heap[w.heap.size]? = some (.cells zeroPk 34 (0, 0))) := (hb.block _ (Ca.lt_of_heap R2_W5.out)).trans R2_W5.out
  have R4_W7 : Hid (W7.heap[w.heap.size + 1]? = some (.cells (p4) 34 (0, 0))) := (hb.block _ (Ca.lt_of_heap R4_W5.out)).trans R4_W5.out
  clear B_W5 R2_W5 R4_W5
  clear hb HL
  have hs_p5 : 20 + (#[.int .i64 k, .int .i64 ty, .int .i64 co, .int .u32 re, .int .i64 sp, .int .i64 dp, .bool ns, .int .u32 sq, .int .u32 ak, .int .i64 fl, .int .i64 wi, .int .i64 ur, .string (strOfNums lo), .string (strOfNums ds)] : Array Value).size ≤ p4.size := by rw [Zp4.out]; exact Nat.le_of_ble_eq_true (by kernel_rfl)
  go_wp2_with (refine Ca.wpList_store_at rfl 32 _ _ rfl (w.heap.size + 1) 20 p4 #[.int .i64 k, .int .i64 ty, .int .i64 co, .int .u32 re, .int .i64 sp, .int .i64 dp, .bool ns, .int .u32 sq, .int .u32 ak, .int .i64 fl, .int .i64 wi, .int .i64 ur, .string (strOfNums lo), .string (strOfNums ds)] 34 rfl rfl R4_W7.out (by kernel_rfl) hs_p5 (by kernel_rfl) ?_)
  intro W6 y1 y2 y3 y4
  have B_W6 : Hid (Below w.heap.size w W6) := B_W7.out.trans (y4.mono (by omega))
  have R2_W6 : Hid (W6.heap[w.heap.size]? = some (.cells zeroPk 34 (0, 0))) := (y2 _ (by omega)).trans R2_W7.out
  have R4_W6 : Hid (W6.heap[w.heap.size + 1]? = some (.cells (p5) 34 (0, 0))) := by show _ = _; rw [← Ep5.out]; exact y1
  clear y1 y2 y3 y4 hs_p5
  clear B_W7 R2_W7 R4_W7
  have c35 := (Ca.cell_row R4_W6.out 35).trans (show _ = some (Value.string ⟨#[]⟩) by rw [← Ep5.out, ← Ep4.out, ← Ep3.out, ← Ep2.out]; kernel_rfl)
  have f35 := frozen_of_row W6 _ 35 _ _ R4_W6.out
  have cw : (convert 22 9 (.slice (some ⟨b, off + q, none⟩) (n - q) (cap - q))).run Try.prog W6 = .ok (.string pd) W6 := by
    rw [← hpd]
    exact run_conv_bs _ ((H.out.below B_W6.out).drop (by have := HN.out; omega) q (by have := HN.out; omega)) 22 9 5 Try.underlying22 Try.underlying5 Try.underlying9
  have RW : Hid ((W6.setCell ⟨w.heap.size + 1, 35, none⟩ (.string pd)).heap[w.heap.size + 1]? = some (.cells p6 34 (0, 0))) := by show _ = _; rw [← Ep6.out]; exact Ca.row_setCell R4_W6.out 35 _
  have ZW : Hid ((W6.setCell ⟨w.heap.size + 1, 35, none⟩ (.string pd)).heap[w.heap.size]? = some (.cells zeroPk 34 (0, 0))) := (Below.heap_setCell _ _ _ _ (show w.heap.size ≠ w.heap.size + 1 by omega)).trans R2_W6.out
  have BW : Hid (Below w.heap.size w (W6.setCell ⟨w.heap.size + 1, 35, none⟩ (.string pd))) := B_W6.out.setCell (show w.heap.size ≤ w.heap.size + 1 by omega) _
  clear B_W6 R2_W6 R4_W6 hpd H
  go_wp2_with fail
  go_step3
  go_wp2_with (first
    | refine wpList_load_row rfl 34 _ rfl (w.heap.size + 1) rfl 34 p6 (0, 0) _ RW.out Try.underlying34 rfl (info36 Zp6.out) ?_
    | refine Ca.wpList_store_row rfl 34 _ _ rfl (w.heap.size) zeroPk p6 34 rfl rfl ZW.out (info36 Zp6.out) (Eq.trans (b := 36) rfl Zp6.out.symm) HRO.out ?_
    | fail)
  intro W9 y1 y2 y3 y4
  go_wp2
  simp only [Exit.jumpTo]
  exact bodyPost_ret (results_pk (p := 2) (u := 3) rfl _ _ (w.heap.size) p6 rfl y1 Zp6.out) rfl ⟨rfl, BW.out.trans (y4.mono (Nat.le_refl _))⟩
set_option maxHeartbeats 4000000 in
theorem parse_ok14C (w : World) (b off p q : Nat) (zs : List Int) (h : BS w (some ⟨b, off, none⟩) q zs) (hs tt : Nat) (hp : p = 14 + hs) (hq : q = 14 + tt) (h0 : 0 < hs) (hst : hs ≤ tt) (hc1 : ¬ q = p) (d s tag : Int) (tg : Bool) (tos id fr ttl pr src dst : Int) (io : List Int) (hw : wholeB fr = true) (k ty co re sp dp : Int) (ns : Bool) (sq ak fl wi ur : Int) (lo ds : List Int) (pd : ByteArray) (hpd : strOfNums (zs.drop q) = pd) (HH : Hid (∀ W, BS W (some ⟨b, off, none⟩) q zs → Calls Try.prog 18 #[.slice (some ⟨b, off, none⟩) q q] W fun e w' => e = .returned (Eth.ethV d s tg tag 2048 14 0) ∧ Below W.heap.size W w'))
    (HI : Hid (∀ W, BS W (some ⟨b, off + 14, none⟩) (q - 14) (zs.drop 14) → Calls Try.prog 17 #[.slice (some ⟨b, off + 14, none⟩) (q - 14) (q - 14)] W fun e w' => e = .returned (.tuple #[.agg #[.int .i64 tos, .int .i64 id, .int .i64 fr, .int .i64 ttl, .int .i64 pr, .int .u32 src, .int .u32 dst, .string (strOfNums io)], .int .i64 hs, .int .i64 tt, .int .i64 0]) ∧ Below W.heap.size W w'))
    (HL : Hid (∀ W, BS W (some ⟨b, off, none⟩) q zs → Calls Try.prog 21 #[.int .u32 src, .int .u32 dst, .int .i64 pr, .slice (some ⟨b, off + p, none⟩) (q - p) (q - p)] W fun e w' => e = .returned (.tuple #[.agg #[.int .i64 k, .int .i64 ty, .int .i64 co, .int .u32 re, .int .i64 sp, .int .i64 dp, .bool ns, .int .u32 sq, .int .u32 ak, .int .i64 fl, .int .i64 wi, .int .i64 ur, .string (strOfNums lo), .string (strOfNums ds)], .int .i64 0]) ∧ Below W.heap.size W w')) :
    Calls Try.prog 8 #[.slice (some ⟨b, off, none⟩) q q] w fun e w' => e = .returned (.tuple #[.agg ((Ca.putC (Ca.putC ((Ca.putC zeroPk 0 (#[.int .u64 d, .int .u64 s, .bool tg, .int .i64 tag, .int .i64 2048]).toList).setIfInBounds 11 (.bool true)) 12 (#[.int .i64 tos, .int .i64 id, .int .i64 fr, .int .i64 ttl, .int .i64 pr, .int .u32 src, .int .u32 dst, .string (strOfNums io)]).toList) 20 (#[.int .i64 k, .int .i64 ty, .int .i64 co, .int .u32 re, .int .i64 sp, .int .i64 dp, .bool ns, .int .u32 sq, .int .u32 ak, .int .i64 fl, .int .i64 wi, .int .i64 ur, .string (strOfNums lo), .string (strOfNums ds)]).toList).setIfInBounds 35 (.string pd)), .int .i64 0]) ∧ Below w.heap.size w w' := by
  obtain ⟨p2, hp2⟩ : ∃ p, Ca.putC zeroPk 0 (#[.int .u64 d, .int .u64 s, .bool tg, .int .i64 tag, .int .i64 2048]).toList = p := ⟨_, rfl⟩
  have Ep2 : Hid (Ca.putC zeroPk 0 (#[.int .u64 d, .int .u64 s, .bool tg, .int .i64 tag, .int .i64 2048]).toList = p2) := hp2
  have Zp2 : Hid (p2.size = 36) := by show _ = _; rw [← hp2]; kernel_rfl
  clear hp2
  obtain ⟨p3, hp3⟩ : ∃ p, p2.setIfInBounds 11 (.bool true) = p := ⟨_, rfl⟩
  have Ep3 : Hid (p2.setIfInBounds 11 (.bool true) = p3) := hp3
  have Zp3 : Hid (p3.size = 36) := by show _ = _; rw [← hp3]; rw [Array.size_setIfInBounds]; exact Zp2.out
  clear hp3
  obtain ⟨p4, hp4⟩ : ∃ p, Ca.putC p3 12 (#[.int .i64 tos, .int .i64 id, .int .i64 fr, .int .i64 ttl, .int .i64 pr, .int .u32 src, .int .u32 dst, .string (strOfNums io)]).toList = p := ⟨_, rfl⟩
  have Ep4 : Hid (Ca.putC p3 12 (#[.int .i64 tos, .int .i64 id, .int .i64 fr, .int .i64 ttl, .int .i64 pr, .int .u32 src, .int .u32 dst, .string (strOfNums io)]).toList = p4) := hp4
  have Zp4 : Hid (p4.size = 36) := by show _ = _; rw [← hp4]; rw [Ca.putC_size]; exact Zp3.out
  clear hp4
  obtain ⟨p5, hp5⟩ : ∃ p, Ca.putC p4 20 (#[.int .i64 k, .int .i64 ty, .int .i64 co, .int .u32 re, .int .i64 sp, .int .i64 dp, .bool ns, .int .u32 sq, .int .u32 ak, .int .i64 fl, .int .i64 wi, .int .i64 ur, .string (strOfNums lo), .string (strOfNums ds)]).toList = p := ⟨_, rfl⟩
  have Ep5 : Hid (Ca.putC p4 20 (#[.int .i64 k, .int .i64 ty, .int .i64 co, .int .u32 re, .int .i64 sp, .int .i64 dp, .bool ns, .int .u32 sq, .int .u32 ak, .int .i64 fl, .int .i64 wi, .int .i64 ur, .string (strOfNums lo), .string (strOfNums ds)]).toList = p5) := hp5
  have Zp5 : Hid (p5.size = 36) := by show _ = _; rw [← hp5]; rw [Ca.putC_size]; exact Zp4.out
  clear hp5
  obtain ⟨p6, hp6⟩ : ∃ p, p5.setIfInBounds 35 (.string pd) = p := ⟨_, rfl⟩
  have Ep6 : Hid (p5.setIfInBounds 35 (.string pd) = p6) := hp6
  have Zp6 : Hid (p6.size = 36) := by show _ = _; rw [← hp6]; rw [Array.size_setIfInBounds]; exact Zp5.out
  clear hp6
  have HRO : Hid (p6.all (·.oneCell') = true) := by show _ = _; rw [← Ep6.out, ← Ep5.out, ← Ep4.out, ← Ep3.out, ← Ep2.out]; kernel_rfl
  rw [Ep2.out, Ep3.out, Ep4.out, Ep5.out, Ep6.out]
  have hm : 14 ≤ q := by omega
  have hc : ¬ q = 14 := by omega
  have hrm := h.room
  have k1 : (14 : Int) + (hs : Int) = (p : Int) := by omega
  have k2 : (14 : Int) + (tt : Int) = (q : Int) := by omega
  have k3 : (p : Int) ≤ q := by omega
  have w1 : IntKind.i64.wrap (p : Int) = p := by simp [IntKind.wrap, IntKind.bits, IntKind.signed]; omega
  have w2 : IntKind.i64.wrap (q : Int) = q := by simp [IntKind.wrap, IntKind.bits, IntKind.signed]; omega
  have HN : Hid (14 ≤ q ∧ q ≤ q ∧ q ≤ q ∧ p ≤ q ∧ 0 < p) := by show _ ∧ _; omega
  clear hp hq
  have H : Hid (BS w (some ⟨b, off, none⟩) q zs) := h
  clear h
  go_enter Try.func8, Try.ntmps8
  go_wp2_with fail
  refine scope_from ?_
  go_wp2_with fail
  refine (HH.out _ (H.out.below (below2 w _ _))).mono ?_
  unfold Eth.ethV
  rintro e W1 ⟨rfl, hb⟩
  have B_W1 : Hid (Below w.heap.size w W1) := (below2 w _ _).trans (hb.mono (by simp; omega))
  have R2_W1 : Hid (W1.heap[w.heap.size]? = some (.cells zeroPk 34 (0, 0))) := (hb.block _ (Ca.lt_of_heap (Ca.two_first w _ _))).trans (Ca.two_first w _ _)
  have R4_W1 : Hid (W1.heap[w.heap.size + 1]? = some (.cells (zeroPk) 34 (0, 0))) := (hb.block _ (Ca.lt_of_heap (Ca.two_last w _ _))).trans (Ca.two_last w _ _)
  clear hb HH
  go_wp2_with (refine Ca.wpList_store_at rfl 25 _ _ rfl (w.heap.size + 1) 0 (zeroPk) #[.int .u64 d, .int .u64 s, .bool tg, .int .i64 tag, .int .i64 2048] 34 rfl rfl R4_W1.out (by kernel_rfl) (Nat.le_of_ble_eq_true (by kernel_rfl)) (by kernel_rfl) ?_)
  intro W2 y1 y2 y3 y4
  have B_W2 : Hid (Below w.heap.size w W2) := B_W1.out.trans (y4.mono (by omega))
  have R2_W2 : Hid (W2.heap[w.heap.size]? = some (.cells zeroPk 34 (0, 0))) := (y2 _ (by omega)).trans R2_W1.out
  have R4_W2 : Hid (W2.heap[w.heap.size + 1]? = some (.cells p2 34 (0, 0))) := by show _ = _; rw [← Ep2.out]; exact y1
  clear y1 y2 y3 y4
  clear B_W1 R2_W1 R4_W1
  have c4 := (Ca.cell_row R4_W2.out 4).trans (show _ = some (Value.int .i64 2048) by rw [← Ep2.out]; kernel_rfl)
  have c11 := (Ca.cell_row R4_W2.out 11).trans (show _ = some (Value.bool false) by rw [← Ep2.out]; kernel_rfl)
  have f11 := frozen_of_row W2 _ 11 _ _ R4_W2.out
  go_wp2_with fail
  go_step3
  show FromLabel _ _ _ _ _ _
  refine from_label rfl ?_
  go_wp2_with fail
  have RW : Hid ((W2.setCell ⟨w.heap.size + 1, 11, none⟩ (.bool true)).heap[w.heap.size + 1]? = some (.cells p3 34 (0, 0))) := by show _ = _; rw [← Ep3.out]; exact Ca.row_setCell R4_W2.out 11 _
  have ZW : Hid ((W2.setCell ⟨w.heap.size + 1, 11, none⟩ (.bool true)).heap[w.heap.size]? = some (.cells zeroPk 34 (0, 0))) := (Below.heap_setCell _ _ _ _ (show w.heap.size ≠ w.heap.size + 1 by omega)).trans R2_W2.out
  have BW : Hid (Below w.heap.size w (W2.setCell ⟨w.heap.size + 1, 11, none⟩ (.bool true))) := B_W2.out.setCell (show w.heap.size ≤ w.heap.size + 1 by omega) _
  refine (HI.out _ ((H.out.below BW.out).drop (by have := HN.out; omega) 14 (by have := HN.out; omega))).mono ?_
  rintro e W3 ⟨rfl, hb⟩
  have B_W3 : Hid (Below w.heap.size w W3) := BW.out.trans (hb.mono BW.out.size)
  have R2_W3 : Hid (W3.heap[w.heap.size]? = some (.cells zeroPk 34 (0, 0))) := (hb.block _ (Ca.lt_of_heap ZW.out)).trans ZW.out
  have R4_W3 : Hid (W3.heap[w.heap.size + 1]? = some (.cells (p3) 34 (0, 0))) := (hb.block _ (Ca.lt_of_heap RW.out)).trans RW.out
  clear hb HI RW ZW BW B_W2 R2_W2 R4_W2 c4 c11 f11
  have hs_p4 : 12 + (#[.int .i64 tos, .int .i64 id, .int .i64 fr, .int .i64 ttl, .int .i64 pr, .int .u32 src, .int .u32 dst, .string (strOfNums io)] : Array Value).size ≤ p3.size := by rw [Zp3.out]; exact Nat.le_of_ble_eq_true (by kernel_rfl)
  go_wp2_with (refine Ca.wpList_store_at rfl 30 _ _ rfl (w.heap.size + 1) 12 p3 #[.int .i64 tos, .int .i64 id, .int .i64 fr, .int .i64 ttl, .int .i64 pr, .int .u32 src, .int .u32 dst, .string (strOfNums io)] 34 rfl rfl R4_W3.out (by kernel_rfl) hs_p4 (by kernel_rfl) ?_)
  intro W4 y1 y2 y3 y4
  have B_W4 : Hid (Below w.heap.size w W4) := B_W3.out.trans (y4.mono (by omega))
  have R2_W4 : Hid (W4.heap[w.heap.size]? = some (.cells zeroPk 34 (0, 0))) := (y2 _ (by omega)).trans R2_W3.out
  have R4_W4 : Hid (W4.heap[w.heap.size + 1]? = some (.cells (p4) 34 (0, 0))) := by show _ = _; rw [← Ep4.out]; exact y1
  clear y1 y2 y3 y4 hs_p4
  clear B_W3 R2_W3 R4_W3
  have hx8 : p4.extract 12 (12 + 8) = #[.int .i64 tos, .int .i64 id, .int .i64 fr, .int .i64 ttl, .int .i64 pr, .int .u32 src, .int .u32 dst, .string (strOfNums io)] := by rw [← Ep4.out, ← Ep3.out, ← Ep2.out]; kernel_rfl
  have hx9 : (p4.extract 12 (12 + 8)).size = 8 := by rw [hx8]; rfl
  go_wp2_with (refine Ca.wpList_load_at rfl 30 _ rfl (w.heap.size + 1) 12 8 rfl p4 34 _ R4_W4.out Try.underlying30 rfl hx9 (by kernel_rfl) ?_; rw [hx8])
  clear hx8 hx9
  refine (ipwhole_any tos id fr ttl pr src dst io _).mono ?_
  rintro e W5 ⟨rfl, hb⟩
  rw [hw]
  have B_W5 : Hid (Below w.heap.size w W5) := B_W4.out.trans (hb.mono B_W4.out.size)
  have R2_W5 : Hid (W5.heap[w.heap.size]? = some (.cells zeroPk 34 (0, 0))) := (hb.block _ (Ca.lt_of_heap R2_W4.out)).trans R2_W4.out
  have R4_W5 : Hid (W5.heap[w.heap.size + 1]? = some (.cells (p4) 34 (0, 0))) := (hb.block _ (Ca.lt_of_heap R4_W4.out)).trans R4_W4.out
  clear B_W4 R2_W4 R4_W4
  clear hb
  have c17 := (Ca.cell_row R4_W5.out 17).trans (show _ = some (Value.int .u32 src) by rw [← Ep4.out, ← Ep3.out, ← Ep2.out]; kernel_rfl)
  have c18 := (Ca.cell_row R4_W5.out 18).trans (show _ = some (Value.int .u32 dst) by rw [← Ep4.out, ← Ep3.out, ← Ep2.out]; kernel_rfl)
  have c16 := (Ca.cell_row R4_W5.out 16).trans (show _ = some (Value.int .i64 pr) by rw [← Ep4.out, ← Ep3.out, ← Ep2.out]; kernel_rfl)
  go_wp2_with fail
  clear c16 c17 c18
  refine (HL.out _ (H.out.below B_W5.out)).mono ?_
  rintro e W7 ⟨rfl, hb⟩
  have B_W7 : Hid (Below w.heap.size w W7) := B_W5.out.trans (hb.mono B_W5.out.size)
  have R2_W7 : Hid (W7.heap[w.heap.size]? = some (.cells zeroPk 34 (0, 0))) := (hb.block _ (Ca.lt_of_heap R2_W5.out)).trans R2_W5.out
  have R4_W7 : Hid (W7.heap[w.heap.size + 1]? = some (.cells (p4) 34 (0, 0))) := (hb.block _ (Ca.lt_of_heap R4_W5.out)).trans R4_W5.out
  clear B_W5 R2_W5 R4_W5
  clear hb HL
  have hs_p5 : 20 + (#[.int .i64 k, .int .i64 ty, .int .i64 co, .int .u32 re, .int .i64 sp, .int .i64 dp, .bool ns, .int .u32 sq, .int .u32 ak, .int .i64 fl, .int .i64 wi, .int .i64 ur, .string (strOfNums lo), .string (strOfNums ds)] : Array Value).size ≤ p4.size := by rw [Zp4.out]; exact Nat.le_of_ble_eq_true (by kernel_rfl)
  go_wp2_with (refine Ca.wpList_store_at rfl 32 _ _ rfl (w.heap.size + 1) 20 p4 #[.int .i64 k, .int .i64 ty, .int .i64 co, .int .u32 re, .int .i64 sp, .int .i64 dp, .bool ns, .int .u32 sq, .int .u32 ak, .int .i64 fl, .int .i64 wi, .int .i64 ur, .string (strOfNums lo), .string (strOfNums ds)] 34 rfl rfl R4_W7.out (by kernel_rfl) hs_p5 (by kernel_rfl) ?_)
  intro W6 y1 y2 y3 y4
  have B_W6 : Hid (Below w.heap.size w W6) := B_W7.out.trans (y4.mono (by omega))
  have R2_W6 : Hid (W6.heap[w.heap.size]? = some (.cells zeroPk 34 (0, 0))) := (y2 _ (by omega)).trans R2_W7.out
  have R4_W6 : Hid (W6.heap[w.heap.size + 1]? = some (.cells (p5) 34 (0, 0))) := by show _ = _; rw [← Ep5.out]; exact y1
  clear y1 y2 y3 y4 hs_p5
  clear B_W7 R2_W7 R4_W7
  have c35 := (Ca.cell_row R4_W6.out 35).trans (show _ = some (Value.string ⟨#[]⟩) by rw [← Ep5.out, ← Ep4.out, ← Ep3.out, ← Ep2.out]; kernel_rfl)
  have f35 := frozen_of_row W6 _ 35 _ _ R4_W6.out
  have cw : (convert 22 9 (.slice (some ⟨b, off, none⟩) 0 0)).run Try.prog W6 = .ok (.string pd) W6 := by
    rw [← hpd, List.drop_eq_nil_of_le (by have := H.out.len; omega)]
    exact run_conv_bs 0 (BS.empty (w := W6) (some ⟨b, off, none⟩)) 22 9 5 Try.underlying22 Try.underlying5 Try.underlying9
  have RW : Hid ((W6.setCell ⟨w.heap.size + 1, 35, none⟩ (.string pd)).heap[w.heap.size + 1]? = some (.cells p6 34 (0, 0))) := by show _ = _; rw [← Ep6.out]; exact Ca.row_setCell R4_W6.out 35 _
  have ZW : Hid ((W6.setCell ⟨w.heap.size + 1, 35, none⟩ (.string pd)).heap[w.heap.size]? = some (.cells zeroPk 34 (0, 0))) := (Below.heap_setCell _ _ _ _ (show w.heap.size ≠ w.heap.size + 1 by omega)).trans R2_W6.out
  have BW : Hid (Below w.heap.size w (W6.setCell ⟨w.heap.size + 1, 35, none⟩ (.string pd))) := B_W6.out.setCell (show w.heap.size ≤ w.heap.size + 1 by omega) _
  clear B_W6 R2_W6 R4_W6 hpd H
  go_wp2_with fail
  go_step3
  go_wp2_with (first
    | refine wpList_load_row rfl 34 _ rfl (w.heap.size + 1) rfl 34 p6 (0, 0) _ RW.out Try.underlying34 rfl (info36 Zp6.out) ?_
    | refine Ca.wpList_store_row rfl 34 _ _ rfl (w.heap.size) zeroPk p6 34 rfl rfl ZW.out (info36 Zp6.out) (Eq.trans (b := 36) rfl Zp6.out.symm) HRO.out ?_
    | fail)
  intro W9 y1 y2 y3 y4
  go_wp2
  simp only [Exit.jumpTo]
  exact bodyPost_ret (results_pk (p := 2) (u := 3) rfl _ _ (w.heap.size) p6 rfl y1 Zp6.out) rfl ⟨rfl, BW.out.trans (y4.mono (Nat.le_refl _))⟩
end Go.Proofs.Ytpiokeidcnbmbaa

namespace Go.Proofs.Ytpiokeidcnbmbaa
open Go.RowKit
set_option maxRecDepth 20000
set_option maxHeartbeats 4000000 in
theorem parse_ok18A (w : World) (b off n cap p q : Nat) (zs : List Int) (h : BS w (some ⟨b, off, none⟩) n zs) (hs tt : Nat) (hp : p = 18 + hs) (hq : q = 18 + tt) (h0 : 0 < hs) (hst : hs ≤ tt) (hqn : q ≤ n) (hcap : n ≤ cap) (hc1 : ¬ cap = p) (hc2 : ¬ cap = q) (d s tag : Int) (tg : Bool) (tos id fr ttl pr src dst : Int) (io : List Int) (hw : wholeB fr = true) (k ty co re sp dp : Int) (ns : Bool) (sq ak fl wi ur : Int) (lo ds : List Int) (pd : ByteArray) (hpd : strOfNums (zs.drop q) = pd) (HH : Hid (∀ W, BS W (some ⟨b, off, none⟩) n zs → Calls Try.prog 18 #[.slice (some ⟨b, off, none⟩) n cap] W fun e w' => e = .returned (Eth.ethV d s tg tag 2048 18 0) ∧ Below W.heap.size W w'))
    (HI : Hid (∀ W, BS W (some ⟨b, off + 18, none⟩) (n - 18) (zs.drop 18) → Calls Try.prog 17 #[.slice (some ⟨b, off + 18, none⟩) (n - 18) (cap - 18)] W fun e w' => e = .returned (.tuple #[.agg #[.int .i64 tos, .int .i64 id, .int .i64 fr, .int .i64 ttl, .int .i64 pr, .int .u32 src, .int .u32 dst, .string (strOfNums io)], .int .i64 hs, .int .i64 tt, .int .i64 0]) ∧ Below W.heap.size W w'))
    (HL : Hid (∀ W, BS W (some ⟨b, off, none⟩) n zs → Calls Try.prog 21 #[.int .u32 src, .int .u32 dst, .int .i64 pr, .slice (some ⟨b, off + p, none⟩) (q - p) (cap - p)] W fun e w' => e = .returned (.tuple #[.agg #[.int .i64 k, .int .i64 ty, .int .i64 co, .int .u32 re, .int .i64 sp, .int .i64 dp, .bool ns, .int .u32 sq, .int .u32 ak, .int .i64 fl, .int .i64 wi, .int .i64 ur, .string (strOfNums lo), .string (strOfNums ds)], .int .i64 0]) ∧ Below W.heap.size W w')) :
    Calls Try.prog 8 #[.slice (some ⟨b, off, none⟩) n cap] w fun e w' => e = .returned (.tuple #[.agg ((Ca.putC (Ca.putC ((Ca.putC zeroPk 0 (#[.int .u64 d, .int .u64 s, .bool tg, .int .i64 tag, .int .i64 2048]).toList).setIfInBounds 11 (.bool true)) 12 (#[.int .i64 tos, .int .i64 id, .int .i64 fr, .int .i64 ttl, .int .i64 pr, .int .u32 src, .int .u32 dst, .string (strOfNums io)]).toList) 20 (#[.int .i64 k, .int .i64 ty, .int .i64 co, .int .u32 re, .int .i64 sp, .int .i64 dp, .bool ns, .int .u32 sq, .int .u32 ak, .int .i64 fl, .int .i64 wi, .int .i64 ur, .string (strOfNums lo), .string (strOfNums ds)]).toList).setIfInBounds 35 (.string pd)), .int .i64 0]) ∧ Below w.heap.size w w' := by
  obtain ⟨p2, hp2⟩ : ∃ p, Ca.putC zeroPk 0 (#[.int .u64 d, .int .u64 s, .bool tg, .int .i64 tag, .int .i64 2048]).toList = p := ⟨_, rfl⟩
  have Ep2 : Hid (Ca.putC zeroPk 0 (#[.int .u64 d, .int .u64 s, .bool tg, .int .i64 tag, .int .i64 2048]).toList = p2) := hp2
  have Zp2 : Hid (p2.size = 36) := by show _ = _; rw [← hp2]; kernel_rfl
  clear hp2
  obtain ⟨p3, hp3⟩ : ∃ p, p2.setIfInBounds 11 (.bool true) = p := ⟨_, rfl⟩
  have Ep3 : Hid (p2.setIfInBounds 11 (.bool true) = p3) := hp3
  have Zp3 : Hid (p3.size = 36) := by show _ = _; rw [← hp3]; rw [Array.size_setIfInBounds]; exact Zp2.out
  clear hp3
  obtain ⟨p4, hp4⟩ : ∃ p, Ca.putC p3 12 (#[.int .i64 tos, .int .i64 id, .int .i64 fr, .int .i64 ttl, .int .i64 pr, .int .u32 src, .int .u32 dst, .string (strOfNums io)]).toList = p := ⟨_, rfl⟩
  have Ep4 : Hid (Ca.putC p3 12 (#[.int .i64 tos, .int .i64 id, .int .i64 fr, .int .i64 ttl, .int .i64 pr, .int .u32 src, .int .u32 dst, .string (strOfNums io)]).toList = p4) := hp4
  have Zp4 : Hid (p4.size = 36) := by show _ = _; rw [← hp4]; rw [Ca.putC_size]; exact Zp3.out
  clear hp4
  obtain ⟨p5, hp5⟩ : ∃ p, Ca.putC p4 20 (#[.int .i64 k, .int .i64 ty, .int .i64 co, .int .u32 re, .int .i64 sp, .int .i64 dp, .bool ns, .int .u32 sq, .int .u32 ak, .int .i64 fl, .int .i64 wi, .int .i64 ur, .string (strOfNums lo), .string (strOfNums ds)]).toList = p := ⟨_, rfl⟩
  have Ep5 : Hid (Ca.putC p4 20 (#[.int .i64 k, .int .i64 ty, .int .i64 co, .int .u32 re, .int .i64 sp, .int .i64 dp, .bool ns, .int .u32 sq, .int .u32 ak, .int .i64 fl, .int .i64 wi, .int .i64 ur, .string (strOfNums lo), .string (strOfNums ds)]).toList = p5) := hp5
  have Zp5 : Hid (p5.size = 36) := by show _ = _; rw [← hp5]; rw [Ca.putC_size]; exact Zp4.out
  clear hp5
  obtain ⟨p6, hp6⟩ : ∃ p, p5.setIfInBounds 35 (.string pd) = p := ⟨_, rfl⟩
  have Ep6 : Hid (p5.setIfInBounds 35 (.string pd) = p6) := hp6
  have Zp6 : Hid (p6.size = 36) := by show _ = _; rw [← hp6]; rw [Array.size_setIfInBounds]; exact Zp5.out
  clear hp6
  have HRO : Hid (p6.all (·.oneCell') = true) := by show _ = _; rw [← Ep6.out, ← Ep5.out, ← Ep4.out, ← Ep3.out, ← Ep2.out]; kernel_rfl
  rw [Ep2.out, Ep3.out, Ep4.out, Ep5.out, Ep6.out]
  have hm : 18 ≤ n := by omega
  have hc : ¬ cap = 18 := by omega
  have h2 : (n : Int) ≤ cap := by omega
  have hrm := h.room
  have k1 : (18 : Int) + (hs : Int) = (p : Int) := by omega
  have k2 : (18 : Int) + (tt : Int) = (q : Int) := by omega
  have k3 : (p : Int) ≤ q := by omega
  have k4 : (q : Int) ≤ n := by omega
  have k5 : (q : Int) ≤ cap := by omega
  have k6 : (p : Int) ≤ cap := by omega
  have w1 : IntKind.i64.wrap (p : Int) = p := by simp [IntKind.wrap, IntKind.bits, IntKind.signed]; omega
  have w2 : IntKind.i64.wrap (q : Int) = q := by simp [IntKind.wrap, IntKind.bits, IntKind.signed]; omega
  have HN : Hid (18 ≤ n ∧ q ≤ n ∧ n ≤ cap ∧ p ≤ q ∧ 0 < p) := by show _ ∧ _; omega
  clear hp hq
  have H : Hid (BS w (some ⟨b, off, none⟩) n zs) := h
  clear h
  go_enter Try.func8, Try.ntmps8
  go_wp2_with fail
  refine scope_from ?_
  go_wp2_with fail
  refine (HH.out _ (H.out.below (below2 w _ _))).mono ?_
  unfold Eth.ethV
  rintro e W1 ⟨rfl, hb⟩
  have B_W1 : Hid (Below w.heap.size w W1) := (below2 w _ _).trans (hb.mono (by simp; omega))
  have R2_W1 : Hid (W1.heap[w.heap.size]? = some (.cells zeroPk 34 (0, 0))) := (hb.block _ (Ca.lt_of_heap (Ca.two_first w _ _))).trans (Ca.two_first w _ _)
  have R4_W1 : Hid (W1.heap[w.heap.size + 1]? = some (.cells (zeroPk) 34 (0, 0))) := (hb.block _ (Ca.lt_of_heap (Ca.two_last w _ _))).trans (Ca.two_last w _ _)
  clear hb HH
  go_wp2_with (refine Ca.wpList_store_at rfl 25 _ _ rfl (w.heap.size + 1) 0 (zeroPk) #[.int .u64 d, .int .u64 s, .bool tg, .int .i64 tag, .int .i64 2048] 34 rfl rfl R4_W1.out (by kernel_rfl) (Nat.le_of_ble_eq_true (by kernel_rfl)) (by kernel_rfl) ?_)
  intro W2 y1 y2 y3 y4
  have B_W2 : Hid (Below w.heap.size w W2) := B_W1.out.trans (y4.mono (by omega))
  have R2_W2 : Hid (W2.heap[w.heap.size]? = some (.cells zeroPk 34 (0, 0))) := (y2 _ (by omega)).trans R2_W1.out
  have R4_W2 : Hid (W2.heap[w.heap.size + 1]? = some (.cells p2 34 (0, 0))) := by show _ = _; rw [← Ep2.out]; exact y1
  clear y1 y2 y3 y4
  clear B_W1 R2_W1 R4_W1
  have c4 := (Ca.cell_row R4_W2.out 4).trans (show _ = some (Value.int .i64 2048) by rw [← Ep2.out]; kernel_rfl)
  have c11 := (Ca.cell_row R4_W2.out 11).trans (show _ = some (Value.bool false) by rw [← Ep2.out]; kernel_rfl)
  have f11 := frozen_of_row W2 _ 11 _ _ R4_W2.out
  go_wp2_with fail
  go_step3
  show FromLabel _ _ _ _ _ _
  refine from_label rfl ?_
  go_wp2_with fail
  have RW : Hid ((W2.setCell ⟨w.heap.size + 1, 11, none⟩ (.bool true)).heap[w.heap.size + 1]? = some (.cells p3 34 (0, 0))) := by show _ = _; rw [← Ep3.out]; exact Ca.row_setCell R4_W2.out 11 _
  have ZW : Hid ((W2.setCell ⟨w.heap.size + 1, 11, none⟩ (.bool true)).heap[w.heap.size]? = some (.cells zeroPk 34 (0, 0))) := (Below.heap_setCell _ _ _ _ (show w.heap.size ≠ w.heap.size + 1 by omega)).trans R2_W2.out
  have BW : Hid (Below w.heap.size w (W2.setCell ⟨w.heap.size + 1, 11, none⟩ (.bool true))) := B_W2.out.setCell (show w.heap.size ≤ w.heap.size + 1 by omega) _
  refine (HI.out _ ((H.out.below BW.out).drop (by have := HN.out; omega) 18 (by have := HN.out; omega))).mono ?_
  rintro e W3 ⟨rfl, hb⟩
  have B_W3 : Hid (Below w.heap.size w W3) := BW.out.trans (hb.mono BW.out.size)
  have R2_W3 : Hid (W3.heap[w.heap.size]? = some (.cells zeroPk 34 (0, 0))) := (hb.block _ (Ca.lt_of_heap ZW.out)).trans ZW.out
  have R4_W3 : Hid (W3.heap[w.heap.size + 1]? = some (.cells (p3) 34 (0, 0))) := (hb.block _ (Ca.lt_of_heap RW.out)).trans RW.out
  clear hb HI RW ZW BW B_W2 R2_W2 R4_W2 c4 c11 f11
  have hs_p4 : 12 + (#[.int .i64 tos, .int .i64 id, .int .i64 fr, .int .i64 ttl, .int .i64 pr, .int .u32 src, .int .u32 dst, .string (strOfNums io)] : Array Value).size ≤ p3.size := by rw [Zp3.out]; exact Nat.le_of_ble_eq_true (by kernel_rfl)
  go_wp2_with (refine Ca.wpList_store_at rfl 30 _ _ rfl (w.heap.size + 1) 12 p3 #[.int .i64 tos, .int .i64 id, .int .i64 fr, .int .i64 ttl, .int .i64 pr, .int .u32 src, .int .u32 dst, .string (strOfNums io)] 34 rfl rfl R4_W3.out (by kernel_rfl) hs_p4 (by kernel_rfl) ?_)
  intro W4 y1 y2 y3 y4
  have B_W4 : Hid (Below w.heap.size w W4) := B_W3.out.trans (y4.mono (by omega))
  have R2_W4 : Hid (W4.heap[w.heap.size]? = some (.cells zeroPk 34 (0, 0))) := (y2 _ (by omega)).trans R2_W3.out
  have R4_W4 : Hid (W4.heap[w.heap.size + 1]? = some (.cells (p4) 34 (0, 0))) := by show _ = _; rw [← Ep4.out]; exact y1
  clear y1 y2 y3 y4 hs_p4
  clear B_W3 R2_W3 R4_W3
  have hx8 : p4.extract 12 (12 + 8) = #[.int .i64 tos, .int .i64 id, .int .i64 fr, .int .i64 ttl, .int .i64 pr, .int .u32 src, .int .u32 dst, .string (strOfNums io)] := by rw [← Ep4.out, ← Ep3.out, ← Ep2.out]; kernel_rfl
  have hx9 : (p4.extract 12 (12 + 8)).size = 8 := by rw [hx8]; rfl
  go_wp2_with (refine Ca.wpList_load_at rfl 30 _ rfl (w.heap.size + 1) 12 8 rfl p4 34 _ R4_W4.out Try.underlying30 rfl hx9 (by kernel_rfl) ?_; rw [hx8])
  clear hx8 hx9
  refine (ipwhole_any tos id fr ttl pr src dst io _).mono ?_
  rintro e W5 ⟨rfl, hb⟩
  rw [hw]
  have B_W5 : Hid (Below w.heap.size w W5) := B_W4.out.trans (hb.mono B_W4.out.size)
  have R2_W5 : Hid (W5.heap[w.heap.size]? = some (.cells zeroPk 34 (0, 0))) := (hb.block _ (Ca.lt_of_heap R2_W4.out)).trans R2_W4.out
  have R4_W5 : Hid (W5.heap[w.heap.size + 1]? = some (.cells (p4) 34 (0, 0))) := (hb.block _ (Ca.lt_of_heap R4_W4.out)).trans R4_W4.out
  clear B_W4 R2_W4 R4_W4
  clear hb
  have c17 := (Ca.cell_row R4_W5.out 17).trans (show _ = some (Value.int .u32 src) by rw [← Ep4.out, ← Ep3.out, ← Ep2.out]; kernel_rfl)
  have c18 := (Ca.cell_row R4_W5.out 18).trans (show _ = some (Value.int .u32 dst) by rw [← Ep4.out, ← Ep3.out, ← Ep2.out]; kernel_rfl)
  have c16 := (Ca.cell_row R4_W5.out 16).trans (show _ = some (Value.int .i64 pr) by rw [← Ep4.out, ← Ep3.out, ← Ep2.out]; kernel_rfl)
  go_wp2_with fail
  clear c16 c17 c18
  refine (HL.out _ (H.out.below B_W5.out)).mono ?_
  rintro e W7 ⟨rfl, hb⟩
  have B_W7 : Hid (Below w.heap.size w W7) := B_W5.out.trans (hb.mono B_W5.out.size)
  have R2_W7 : Hid (W7.heap[w.heap.size]? = some (.cells zeroPk 34 (0, 0))) := (hb.block _ (Ca.lt_of_heap R2_W5.out)).trans R2_W5.out
  have R4_W7 : Hid (W7.heap[w.heap.size + 1]? = some (.cells (p4) 34 (0, 0))) := (hb.block _ (Ca.lt_of_heap R4_W5.out)).trans R4_W5.out
  clear B_W5 R2_W5 R4_W5
  clear hb HL
  have hs_p5 : 20 + (#[.int .i64 k, .int .i64 ty, .int .i64 co, .int .u32 re, .int .i64 sp, .int .i64 dp, .bool ns, .int .u32 sq, .int .u32 ak, .int .i64 fl, .int .i64 wi, .int .i64 ur, .string (strOfNums lo), .string (strOfNums ds)] : Array Value).size ≤ p4.size := by rw [Zp4.out]; exact Nat.le_of_ble_eq_true (by kernel_rfl)
  go_wp2_with (refine Ca.wpList_store_at rfl 32 _ _ rfl (w.heap.size + 1) 20 p4 #[.int .i64 k, .int .i64 ty, .int .i64 co, .int .u32 re, .int .i64 sp, .int .i64 dp, .bool ns, .int .u32 sq, .int .u32 ak, .int .i64 fl, .int .i64 wi, .int .i64 ur, .string (strOfNums lo), .string (strOfNums ds)] 34 rfl rfl R4_W7.out (by kernel_rfl) hs_p5 (by kernel_rfl) ?_)
  intro W6 y1 y2 y3 y4
  have B_W6 : Hid (Below w.heap.size w W6) := B_W7.out.trans (y4.mono (by omega))
  have R2_W6 : Hid (W6.heap[w.heap.size]? = some (.cells zeroPk 34 (0, 0))) := (y2 _ (by omega)).trans R2_W7.out
  have R4_W6 : Hid (W6.heap[w.heap.size + 1]? = some (.cells (p5) 34 (0, 0))) := by show _ = _; rw [← Ep5.out]; exact y1
  clear y1 y2 y3 y4 hs_p5
  clear B_W7 R2_W7 R4_W7
  have c35 := (Ca.cell_row R4_W6.out 35).trans (show _ = some (Value.string ⟨#[]⟩) by rw [← Ep5.out, ← Ep4.out, ← Ep3.out, ← Ep2.out]; kernel_rfl)
  have f35 := frozen_of_row W6 _ 35 _ _ R4_W6.out
  have cw : (convert 22 9 (.slice (some ⟨b, off + q, none⟩) (n - q) (cap - q))).run Try.prog W6 = .ok (.string pd) W6 := by
    rw [← hpd]
    exact run_conv_bs _ ((H.out.below B_W6.out).drop (by have := HN.out; omega) q (by have := HN.out; omega)) 22 9 5 Try.underlying22 Try.underlying5 Try.underlying9
  have RW : Hid ((W6.setCell ⟨w.heap.size + 1, 35, none⟩ (.string pd)).heap[w.heap.size + 1]? = some (.cells p6 34 (0, 0))) := by show _ = _; rw [← Ep6.out]; exact Ca.row_setCell R4_W6.out 35 _
  have ZW : Hid ((W6.setCell ⟨w.heap.size + 1, 35, none⟩ (.string pd)).heap[w.heap.size]? = some (.cells zeroPk 34 (0, 0))) := (Below.heap_setCell _ _ _ _ (show w.heap.size ≠ w.heap.size + 1 by omega)).trans R2_W6.out
  have BW : Hid (Below w.heap.size w (W6.setCell ⟨w.heap.size + 1, 35, none⟩ (.string pd))) := B_W6.out.setCell (show w.heap.size ≤ w.heap.size + 1 by omega) _
  clear B_W6 R2_W6 R4_W6 hpd H
  go_wp2_with fail
  go_step3
  go_wp2_with (first
    | refine wpList_load_row rfl 34 _ rfl (w.heap.size + 1) rfl 34 p6 (0, 0) _ RW.out Try.underlying34 rfl (info36 Zp6.out) ?_
    | refine Ca.wpList_store_row rfl 34 _ _ rfl (w.heap.size) zeroPk p6 34 rfl rfl ZW.out (info36 Zp6.out) (Eq.trans (b := 36) rfl Zp6.out.symm) HRO.out ?_
    | fail)
  intro W9 y1 y2 y3 y4
  go_wp2
  simp only [Exit.jumpTo]
  exact bodyPost_ret (results_pk (p := 2) (u := 3) rfl _ _ (w.heap.size) p6 rfl y1 Zp6.out) rfl ⟨rfl, BW.out.trans (y4.mono (Nat.le_refl _))⟩
set_option maxHeartbeats 4000000 in
theorem parse_ok18C (w : World) (b off p q : Nat) (zs : List Int) (h : BS w (some ⟨b, off, none⟩) q zs) (hs tt : Nat) (hp : p = 18 + hs) (hq : q = 18 + tt) (h0 : 0 < hs) (hst : hs ≤ tt) (hc1 : ¬ q = p) (d s tag : Int) (tg : Bool) (tos id fr ttl pr src dst : Int) (io : List Int) (hw : wholeB fr = true) (k ty co re sp dp : Int) (ns : Bool) (sq ak fl wi ur : Int) (lo ds : List Int) (pd : ByteArray) (hpd : strOfNums (zs.drop q) = pd) (HH : Hid (∀ W, BS W (some ⟨b, off, none⟩) q zs → Calls Try.prog 18 #[.slice (some ⟨b, off, none⟩) q q] W fun e w' => e = .returned (Eth.ethV d s tg tag 2048 18 0) ∧ Below W.heap.size W w'))
    (HI : Hid (∀ W, BS W (some ⟨b, off + 18, none⟩) (q - 18) (zs.drop 18) → Calls Try.prog 17 #[.slice (some ⟨b, off + 18, none⟩) (q - 18) (q - 18)] W fun e w' => e = .returned (.tuple #[.agg #[.int .i64 tos, .int .i64 id, .int .i64 fr, .int .i64 ttl, .int .i64 pr, .int .u32 src, .int .u32 dst, .string (strOfNums io)], .int .i64 hs, .int .i64 tt, .int .i64 0]) ∧ Below W.heap.size W w'))
    (HL : Hid (∀ W, BS W (some ⟨b, off, none⟩) q zs → Calls Try.prog 21 #[.int .u32 src, .int .u32 dst, .int .i64 pr, .slice (some ⟨b, off + p, none⟩) (q - p) (q - p)] W fun e w' => e = .returned (.tuple #[.agg #[.int .i64 k, .int .i64 ty, .int .i64 co, .int .u32 re, .int .i64 sp, .int .i64 dp, .bool ns, .int .u32 sq, .int .u32 ak, .int .i64 fl, .int .i64 wi, .int .i64 ur, .string (strOfNums lo), .string (strOfNums ds)], .int .i64 0]) ∧ Below W.heap.size W w')) :
    Calls Try.prog 8 #[.slice (some ⟨b, off, none⟩) q q] w fun e w' => e = .returned (.tuple #[.agg ((Ca.putC (Ca.putC ((Ca.putC zeroPk 0 (#[.int .u64 d, .int .u64 s, .bool tg, .int .i64 tag, .int .i64 2048]).toList).setIfInBounds 11 (.bool true)) 12 (#[.int .i64 tos, .int .i64 id, .int .i64 fr, .int .i64 ttl, .int .i64 pr, .int .u32 src, .int .u32 dst, .string (strOfNums io)]).toList) 20 (#[.int .i64 k, .int .i64 ty, .int .i64 co, .int .u32 re, .int .i64 sp, .int .i64 dp, .bool ns, .int .u32 sq, .int .u32 ak, .int .i64 fl, .int .i64 wi, .int .i64 ur, .string (strOfNums lo), .string (strOfNums ds)]).toList).setIfInBounds 35 (.string pd)), .int .i64 0]) ∧ Below w.heap.size w w' := by
  obtain ⟨p2, hp2⟩ : ∃ p, Ca.putC zeroPk 0 (#[.int .u64 d, .int .u64 s, .bool tg, .int .i64 tag, .int .i64 2048]).toList = p := ⟨_, rfl⟩
  have Ep2 : Hid (Ca.putC zeroPk 0 (#[.int .u64 d, .int .u64 s, .bool tg, .int .i64 tag, .int .i64 2048]).toList = p2) := hp2
  have Zp2 : Hid (p2.size = 36) := by show _ = _; rw [← hp2]; kernel_rfl
  clear hp2
  obtain ⟨p3, hp3⟩ : ∃ p, p2.setIfInBounds 11 (.bool true) = p := ⟨_, rfl⟩
  have Ep3 : Hid (p2.setIfInBounds 11 (.bool true) = p3) := hp3
  have Zp3 : Hid (p3.size = 36) := by show _ = _; rw [← hp3]; rw [Array.size_setIfInBounds]; exact Zp2.out
  clear hp3
  obtain ⟨p4, hp4⟩ : ∃ p, Ca.putC p3 12 (#[.int .i64 tos, .int .i64 id, .int .i64 fr, .int .i64 ttl, .int .i64 pr, .int .u32 src, .int .u32 dst, .string (strOfNums io)]).toList = p := ⟨_, rfl⟩
  have Ep4 : Hid (Ca.putC p3 12 (#[.int .i64 tos, .int .i64 id, .int .i64 fr, .int .i64 ttl, .int .i64 pr, .int .u32 src, .int .u32 dst, .string (strOfNums io)]).toList = p4) := hp4
  have Zp4 : Hid (p4.size = 36) := by show _ = _; rw [← hp4]; rw [Ca.putC_size]; exact Zp3.out
  clear hp4
  obtain ⟨p5, hp5⟩ : ∃ p, Ca.putC p4 20 (#[.int .i64 k, .int .i64 ty, .int .i64 co, .int .u32 re, .int .i64 sp, .int .i64 dp, .bool ns, .int .u32 sq, .int .u32 ak, .int .i64 fl, .int .i64 wi, .int .i64 ur, .string (strOfNums lo), .string (strOfNums ds)]).toList = p := ⟨_, rfl⟩
  have Ep5 : Hid (Ca.putC p4 20 (#[.int .i64 k, .int .i64 ty, .int .i64 co, .int .u32 re, .int .i64 sp, .int .i64 dp, .bool ns, .int .u32 sq, .int .u32 ak, .int .i64 fl, .int .i64 wi, .int .i64 ur, .string (strOfNums lo), .string (strOfNums ds)]).toList = p5) := hp5
  have Zp5 : Hid (p5.size = 36) := by show _ = _; rw [← hp5]; rw [Ca.putC_size]; exact Zp4.out
  clear hp5
  obtain ⟨p6, hp6⟩ : ∃ p, p5.setIfInBounds 35 (.string pd) = p := ⟨_, rfl⟩
  have Ep6 : Hid (p5.setIfInBounds 35 (.string pd) = p6) := hp6
  have Zp6 : Hid (p6.size = 36) := by show _ = _; rw [← hp6]; rw [Array.size_setIfInBounds]; exact Zp5.out
  clear hp6
  have HRO : Hid (p6.all (·.oneCell') = true) := by show _ = _; rw [← Ep6.out, ← Ep5.out, ← Ep4.out, ← Ep3.out, ← Ep2.out]; kernel_rfl
  rw [Ep2.out, Ep3.out, Ep4.out, Ep5.out, Ep6.out]
  have hm : 18 ≤ q := by omega
  have hc : ¬ q = 18 := by omega
  have hrm := h.room
  have k1 : (18 : Int) + (hs : Int) = (p : Int) := by omega
  have k2 : (18 : Int) + (tt : Int) = (q : Int) := by omega
  have k3 : (p : Int) ≤ q := by omega
  have w1 : IntKind.i64.wrap (p : Int) = p := by simp [IntKind.wrap, IntKind.bits, IntKind.signed]; omega
  have w2 : IntKind.i64.wrap (q : Int) = q := by simp [IntKind.wrap, IntKind.bits, IntKind.signed]; omega
  have HN : Hid (18 ≤ q ∧ q ≤ q ∧ q ≤ q ∧ p ≤ q ∧ 0 < p) := by show _ ∧ _; omega
  clear hp hq
  have H : Hid (BS w (some ⟨b, off, none⟩) q zs) := h
  clear h
  go_enter Try.func8, Try.ntmps8
  go_wp2_with fail
  refine scope_from ?_
  go_wp2_with fail
  refine (HH.out _ (H.out.below (below2 w _ _))).mono ?_
  unfold Eth.ethV
  rintro e W1 ⟨rfl, hb⟩
  have B_W1 : Hid (Below w.heap.size w W1) := (below2 w _ _).trans (hb.mono (by simp; omega))
  have R2_W1 : Hid (W1.heap[w.heap.size]? = some (.cells zeroPk 34 (0, 0))) := (hb.block _ (Ca.lt_of_heap (Ca.two_first w _ _))).trans (Ca.two_first w _ _)
  have R4_W1 : Hid (W1.heap[w.heap.size + 1]? = some (.cells (zeroPk) 34 (0, 0))) := (hb.block _ (Ca.lt_of_heap (Ca.two_last w _ _))).trans (Ca.two_last w _ _)
  clear hb HH
  go_wp2_with (refine Ca.wpList_store_at rfl 25 _ _ rfl (w.heap.size + 1) 0 (zeroPk) #[.int .u64 d, .int .u64 s, .bool tg, .int .i64 tag, .int .i64 2048] 34 rfl rfl R4_W1.out (by kernel_rfl) (Nat.le_of_ble_eq_true (by kernel_rfl)) (by kernel_rfl) ?_)
  intro W2 y1 y2 y3 y4
  have B_W2 : Hid (Below w.heap.size w W2) := B_W1.out.trans (y4.mono (by omega))
  have R2_W2 : Hid (W2.heap[w.heap.size]? = some (.cells zeroPk 34 (0, 0))) := (y2 _ (by omega)).trans R2_W1.out
  have R4_W2 : Hid (W2.heap[w.heap.size + 1]? = some (.cells p2 34 (0, 0))) := by show _ = _; rw [← Ep2.out]; exact y1
  clear y1 y2 y3 y4
  clear B_W1 R2_W1 R4_W1
  have c4 := (Ca.cell_row R4_W2.out 4).trans (show _ = some (Value.int .i64 2048) by rw [← Ep2.out]; kernel_rfl)
  have c11 := (Ca.cell_row R4_W2.out 11).trans (show _ = some (Value.bool false) by rw [← Ep2.out]; kernel_rfl)
  have f11 := frozen_of_row W2 _ 11 _ _ R4_W2.out
  go_wp2_with fail
  go_step3
  show FromLabel _ _ _ _ _ _
  refine from_label rfl ?_
  go_wp2_with fail
  have RW : Hid ((W2.setCell ⟨w.heap.size + 1, 11, none⟩ (.bool true)).heap[w.heap.size + 1]? = some (.cells p3 34 (0, 0))) := by show _ = _; rw [← Ep3.out]; exact Ca.row_setCell R4_W2.out 11 _
  have ZW : Hid ((W2.setCell ⟨w.heap.size + 1, 11, none⟩ (.bool true)).heap[w.heap.size]? = some (.cells zeroPk 34 (0, 0))) := (Below.heap_setCell _ _ _ _ (show w.heap.size ≠ w.heap.size + 1 by omega)).trans R2_W2.out
  have BW : Hid (Below w.heap.size w (W2.setCell ⟨w.heap.size + 1, 11, none⟩ (.bool true))) := B_W2.out.setCell (show w.heap.size ≤ w.heap.size + 1 by omega) _
  refine (HI.out _ ((H.out.below BW.out).drop (by have := HN.out; omega) 18 (by have := HN.out; omega))).mono ?_
  rintro e W3 ⟨rfl, hb⟩
  have B_W3 : Hid (Below w.heap.size w W3) := BW.out.trans (hb.mono BW.out.size)
  have R2_W3 : Hid (W3.heap[w.heap.size]? = some (.cells zeroPk 34 (0, 0))) := (hb.block _ (Ca.lt_of_heap ZW.out)).trans ZW.out
  have R4_W3 : Hid (W3.heap[w.heap.size + 1]? = some (.cells (p3) 34 (0, 0))) := (hb.block _ (Ca.lt_of_heap RW.out)).trans RW.out
  clear hb HI RW ZW BW B_W2 R2_W2 R4_W2 c4 c11 f11
  have hs_p4 : 12 + (#[.int .i64 tos, .int .i64 id, .int .i64 fr, .int .i64 ttl, .int .i64 pr, .int .u32 src, .int .u32 dst, .string (strOfNums io)] : Array Value).size ≤ p3.size := by rw [Zp3.out]; exact Nat.le_of_ble_eq_true (by kernel_rfl)
  go_wp2_with (refine Ca.wpList_store_at rfl 30 _ _ rfl (w.heap.size + 1) 12 p3 #[.int .i64 tos, .int .i64 id, .int .i64 fr, .int .i64 ttl, .int .i64 pr, .int .u32 src, .int .u32 dst, .string (strOfNums io)] 34 rfl rfl R4_W3.out (by kernel_rfl) hs_p4 (by kernel_rfl) ?_)
  intro W4 y1 y2 y3 y4
  have B_W4 : Hid (Below w.heap.size w W4) := B_W3.out.trans (y4.mono (by omega))
  have R2_W4 : Hid (W4.heap[w.heap.size]? = some (.cells zeroPk 34 (0, 0))) := (y2 _ (by omega)).trans R2_W3.out
  have R4_W4 : Hid (W4.heap[w.heap.size + 1]? = some (.cells (p4) 34 (0, 0))) := by show _ = _; rw [← Ep4.out]; exact y1
  clear y1 y2 y3 y4 hs_p4
  clear B_W3 R2_W3 R4_W3
  have hx8 : p4.extract 12 (12 + 8) = #[.int .i64 tos, .int .i64 id, .int .i64 fr, .int .i64 ttl, .int .i64 pr, .int .u32 src, .int .u32 dst, .string (strOfNums io)] := by rw [← Ep4.out, ← Ep3.out, ← Ep2.out]; kernel_rfl
  have hx9 : (p4.extract 12 (12 + 8)).size = 8 := by rw [hx8]; rfl
  go_wp2_with (refine Ca.wpList_load_at rfl 30 _ rfl (w.heap.size + 1) 12 8 rfl p4 34 _ R4_W4.out Try.underlying30 rfl hx9 (by kernel_rfl) ?_; rw [hx8])
  clear hx8 hx9
  refine (ipwhole_any tos id fr ttl pr src dst io _).mono ?_
  rintro e W5 ⟨rfl, hb⟩
  rw [hw]
  have B_W5 : Hid (Below w.heap.size w W5) := B_W4.out.trans (hb.mono B_W4.out.size)
  have R2_W5 : Hid (W5.heap[w.heap.size]? = some (.cells zeroPk 34 (0, 0))) := (hb.block _ (Ca.lt_of_heap R2_W4.out)).trans R2_W4.out
  have R4_W5 : Hid (W5.heap[w.heap.size + 1]? = some (.cells (p4) 34 (0, 0))) := (hb.block _ (Ca.lt_of_heap R4_W4.out)).trans R4_W4.out
  clear B_W4 R2_W4 R4_W4
  clear hb
  have c17 := (Ca.cell_row R4_W5.out 17).trans (show _ = some (Value.int .u32 src) by rw [← Ep4.out, ← Ep3.out, ← Ep2.out]; kernel_rfl)
  have c18 := (Ca.cell_row R4_W5.out 18).trans (show _ = some (Value.int .u32 dst) by rw [← Ep4.out, ← Ep3.out, ← Ep2.out]; kernel_rfl)
  have c16 := (Ca.cell_row R4_W5.out 16).trans (show _ = some (Value.int .i64 pr) by rw [← Ep4.out, ← Ep3.out, ← Ep2.out]; kernel_rfl)
  go_wp2_with fail
  clear c16 c17 c18
  refine (HL.out _ (H.out.below B_W5.out)).mono ?_
  rintro e W7 ⟨rfl, hb⟩
  have B_W7 : Hid (Below w.heap.size w W7) := B_W5.out.trans (hb.mono B_W5.out.size)
  have R2_W7 : Hid (W7.heap[w.heap.size]? = some (.cells zeroPk 34 (0, 0))) := (hb.block _ (Ca.lt_of_heap R2_W5.out)).trans R2_W5.out
  have R4_W7 : Hid (W7.heap[w.heap.size + 1]? = some (.cells (p4) 34 (0, 0))) := (hb.block _ (Ca.lt_of_heap R4_W5.out)).trans R4_W5.out
  clear B_W5 R2_W5 R4_W5
  clear hb HL
  have hs_p5 : 20 + (#[.int .i64 k, .int .i64 ty, .int .i64 co, .int .u32 re, .int .i64 sp, .int .i64 dp, .bool ns, .int .u32 sq, .int .u32 ak, .int .i64 fl, .int .i64 wi, .int .i64 ur, .string (strOfNums lo), .string (strOfNums ds)] : Array Value).size ≤ p4.size := by rw [Zp4.out]; exact Nat.le_of_ble_eq_true (by kernel_rfl)
  go_wp2_with (refine Ca.wpList_store_at rfl 32 _ _ rfl (w.heap.size + 1) 20 p4 #[.int .i64 k, .int .i64 ty, .int .i64 co, .int .u32 re, .int .i64 sp, .int .i64 dp, .bool ns, .int .u32 sq, .int .u32 ak, .int .i64 fl, .int .i64 wi, .int .i64 ur, .string (strOfNums lo), .string (strOfNums ds)] 34 rfl rfl R4_W7.out (by kernel_rfl) hs_p5 (by kernel_rfl) ?_)
  intro W6 y1 y2 y3 y4
  have B_W6 : Hid (Below w.heap.size w W6) := B_W7.out.trans (y4.mono (by omega))
  have R2_W6 : Hid (W6.heap[w.heap.size]? = some (.cells zeroPk 34 (0, 0))) := (y2 _ (by omega)).trans R2_W7.out
  have R4_W6 : Hid (W6.heap[w.heap.size + 1]? = some (.cells (p5) 34 (0, 0))) := by show _ = _; rw [← Ep5.out]; exact y1
  clear y1 y2 y3 y4 hs_p5
  clear B_W7 R2_W7 R4_W7
  have c35 := (Ca.cell_row R4_W6.out 35).trans (show _ = some (Value.string ⟨#[]⟩) by rw [← Ep5.out, ← Ep4.out, ← Ep3.out, ← Ep2.out]; kernel_rfl)
  have f35 := frozen_of_row W6 _ 35 _ _ R4_W6.out
  have cw : (convert 22 9 (.slice (some ⟨b, off, none⟩) 0 0)).run Try.prog W6 = .ok (.string pd) W6 := by
    rw [← hpd, List.drop_eq_nil_of_le (by have := H.out.len; omega)]
    exact run_conv_bs 0 (BS.empty (w := W6) (some ⟨b, off, none⟩)) 22 9 5 Try.underlying22 Try.underlying5 Try.underlying9
  have RW : Hid ((W6.setCell ⟨w.heap.size + 1, 35, none⟩ (.string pd)).heap[w.heap.size + 1]? = some (.cells p6 34 (0, 0))) := by show _ = _; rw [← Ep6.out]; exact Ca.row_setCell R4_W6.out 35 _
  have ZW : Hid ((W6.setCell ⟨w.heap.size + 1, 35, none⟩ (.string pd)).heap[w.heap.size]? = some (.cells zeroPk 34 (0, 0))) := (Below.heap_setCell _ _ _ _ (show w.heap.size ≠ w.heap.size + 1 by omega)).trans R2_W6.out
  have BW : Hid (Below w.heap.size w (W6.setCell ⟨w.heap.size + 1, 35, none⟩ (.string pd))) := B_W6.out.setCell (show w.heap.size ≤ w.heap.size + 1 by omega) _
  clear B_W6 R2_W6 R4_W6 hpd H
  go_wp2_with fail
  go_step3
  go_wp2_with (first
    | refine wpList_load_row rfl 34 _ rfl (w.heap.size + 1) rfl 34 p6 (0, 0) _ RW.out Try.underlying34 rfl (info36 Zp6.out) ?_
    | refine Ca.wpList_store_row rfl 34 _ _ rfl (w.heap.size) zeroPk p6 34 rfl rfl ZW.out (info36 Zp6.out) (Eq.trans (b := 36) rfl Zp6.out.symm) HRO.out ?_
    | fail)
  intro W9 y1 y2 y3 y4
  go_wp2
  simp only [Exit.jumpTo]
  exact bodyPost_ret (results_pk (p := 2) (u := 3) rfl _ _ (w.heap.size) p6 rfl y1 Zp6.out) rfl ⟨rfl, BW.out.trans (y4.mono (Nat.le_refl _))⟩
end Go.Proofs.Ytpiokeidcnbmbaa
