/- Encode of package l4, of ICMP packets. Conditions: as said. -/
import Derived.Test.YtgonckbdkgiddaaL4z
namespace Go.Proofs.Ytgonckbdkgiddaa
open Go.RowKit Go.Lib
set_option maxRecDepth 100000
set_option maxHeartbeats 4000000 in
theorem encs1A (src dst ty co re sp dp : Int) (sq ak fl wi ur : Int) (os ds Hd : List Int) (n0 N : Nat) (w : World) (hok : l4Ok 1 ty co re sp dp false sq ak fl wi ur (strOfNums os) (strOfNums ds) = true) (hn0 : Hd.length = n0) (hN : N = n0 + os.length + ds.length) (hfx : fixV 1 + os.length + ds.length = (N : Int)) (hNm : N ≤ 65515) (hfo : ∀ i, 0 ≤ os.getD i 0 ∧ os.getD i 0 ≤ 255) (hfd : ∀ i, 0 ≤ ds.getD i 0 ∧ ds.getD i 0 ≤ 255) (hfh : ∀ i, 0 ≤ Hd.getD i 0 ∧ Hd.getD i 0 ≤ 255)
    (hH : ∀ W, Calls Try.prog 40 #[l4V 1 ty co re sp dp false sq ak fl wi ur os ds] W fun e w' => ∃ x cap, e = .returned (.slice (some x) n0 cap) ∧ BS w' (some x) n0 Hd ∧ Below W.heap.size W w') (hc2 : 0 < ds.length) (hs : 0 ≤ src ∧ src ≤ 4294967295) (ht : 0 ≤ dst ∧ dst ≤ 4294967295) (hat : 2 + 2 ≤ n0) :
    Calls Try.prog 19 #[.int .u32 src, .int .u32 dst, l4V 1 ty co re sp dp false sq ak fl wi ur os ds] w fun e w' => ∃ g, e = .returned (.tuple #[.slice (some ⟨g, 0, none⟩) N N, .int .i64 0]) ∧ EncS w w' g N N (setC src dst 1 (Hd ++ os ++ ds)) := by
  have HH : Hid _ := hH
  have HK : Hid (∀ W, Calls Try.prog 38 #[l4V 1 ty co re sp dp false sq ak fl wi ur os ds] W fun e w' => e = .returned (.int .i64 0) ∧ Below W.heap.size W w') := fun W => by
    have := l4check_any 1 ty co re sp dp false sq ak fl wi ur os ds W (by omega)
    rw [hok] at this
    exact this
  have HS : Hid (∀ W, Calls Try.prog 39 #[l4V 1 ty co re sp dp false sq ak fl wi ur os ds] W fun e w' => e = .returned (.int .i64 (N : Int)) ∧ Below W.heap.size W w') := fun W => by
    have := sizeOf_any 1 ty co re sp dp false sq ak fl wi ur os ds W (by omega) (by omega)
    rw [hfx] at this
    exact this
  clear hH hok hfx
  have hmk : ∀ w, (Instr.makeSlice 26 (.int .i64 (N : Int)) (.int .i64 (N : Int))).run Try.prog w = .ok (.slice (some ⟨w.heap.size, 0, none⟩) N N) (w.alloc (.cells (madeCells #[.int .u8 0] N) 5)) := fun w => make_full w N (by omega)
  have hNI : (N : Int) ≤ 65515 := by omega
  have hN1 : n0 ≤ N := by omega
  have hN2 : n0 + os.length ≤ N := by omega
  have HN : Hid (N = n0 + os.length + ds.length) := hN
  have Hn0 : Hid (Hd.length = n0) := hn0
  clear hN hn0
  unfold l4V
  go_enter Try.func19, Try.ntmps19
  go_wp2_with fail
  refine (HK.out _).mono ?_
  clear HK
  rintro e W1 ⟨rfl, hb1⟩
  have A1 : Hid (AtB W1 w.heap.size #[.int .i64 1, .int .i64 ty, .int .i64 co, .int .u32 re, .int .i64 sp, .int .i64 dp, .bool false, .int .u32 sq, .int .u32 ak, .int .i64 fl, .int .i64 wi, .int .i64 ur, .string (strOfNums os), .string (strOfNums ds)]) := AtB.below (atB_new w #[.int .i64 1, .int .i64 ty, .int .i64 co, .int .u32 re, .int .i64 sp, .int .i64 dp, .bool false, .int .u32 sq, .int .u32 ak, .int .i64 fl, .int .i64 wi, .int .i64 ur, .string (strOfNums os), .string (strOfNums ds)] 48 _ rfl) hb1
  obtain ⟨x0, x1, x2, x3, x4, x5, x6, x7, x8, x9, x10, x11, x12, x13⟩ := AtB.cells14 A1.out
  have B1 : Below w.heap.size w W1 := (below1 w _).trans (hb1.mono (by simp))
  clear hb1
  go_wp2_with fail
  refine (HS.out _).mono ?_
  clear HS
  rintro e W2 ⟨rfl, hb2⟩
  have A2 : Hid (AtB W2 w.heap.size #[.int .i64 1, .int .i64 ty, .int .i64 co, .int .u32 re, .int .i64 sp, .int .i64 dp, .bool false, .int .u32 sq, .int .u32 ak, .int .i64 fl, .int .i64 wi, .int .i64 ur, .string (strOfNums os), .string (strOfNums ds)]) := AtB.below A1.out hb2
  have B2 : Below w.heap.size w W2 := B1.trans (hb2.mono B1.size)
  clear x0 x1 x2 x3 x4 x5 x6 x7 x8 x9 x10 x11 x12 x13 hb2 A1 B1
  obtain ⟨x0, x1, x2, x3, x4, x5, x6, x7, x8, x9, x10, x11, x12, x13⟩ := AtB.cells14 (AtB.below A2.out (below1 W2 (.cells (madeCells #[.int .u8 0] N) 5)))
  go_wp2_with fail
  refine (HH.out _).mono ?_
  clear HH
  rintro e W3 ⟨a3, c3, rfl, H3, hb3⟩
  have hp3 : n0 = 0 ∨ ∃ b off, a3 = ⟨b, off, none⟩ := by
    rcases H3.cells with h0 | ⟨b, off, e, _⟩
    · exact .inl h0
    · cases e; exact .inr ⟨b, off, rfl⟩
  have A3 : Hid (AtB W3 w.heap.size #[.int .i64 1, .int .i64 ty, .int .i64 co, .int .u32 re, .int .i64 sp, .int .i64 dp, .bool false, .int .u32 sq, .int .u32 ak, .int .i64 fl, .int .i64 wi, .int .i64 ur, .string (strOfNums os), .string (strOfNums ds)]) := AtB.below (AtB.below A2.out (below1 W2 _)) hb3
  have B3 : Below w.heap.size w W3 := (B2.alloc B2.size _).trans (hb3.mono (by have := B2.size; simp; omega))
  have hr3 : RowB W3 W2.heap.size (List.replicate N 0) := by
    have := (hb3.block _ (by simp)).trans (heap_alloc_new W2 (.cells (madeCells #[.int .u8 0] N) 5))
    rw [made_row] at this
    exact this
  have hgw : w.heap.size < W2.heap.size := A2.out.1
  clear x0 x1 x2 x3 x4 x5 x6 x7 x8 x9 x10 x11 x12 x13 hb3 A2 B2 hmk
  generalize W2.heap.size = g at *
  obtain ⟨V1, cp1, r1, bv1⟩ := copy_rowB W3 g N _ a3 n0 c3 Hd hr3 (by simp) H3 (by omega) hp3
  have R1 : Hid (RowB V1 g (Hd ++ (List.replicate N (0 : Int)).drop n0)) := r1
  clear r1 hr3 H3
  have A4 : Hid (AtB V1 w.heap.size #[.int .i64 1, .int .i64 ty, .int .i64 co, .int .u32 re, .int .i64 sp, .int .i64 dp, .bool false, .int .u32 sq, .int .u32 ak, .int .i64 fl, .int .i64 wi, .int .i64 ur, .string (strOfNums os), .string (strOfNums ds)]) := ⟨Nat.lt_of_lt_of_le A3.out.1 bv1.size, fun i => (bv1.cell hgw).trans (A3.out.2 i)⟩
  have B4 : Hid (Below w.heap.size w V1) := B3.trans (bv1.mono (Nat.le_of_lt hgw))
  clear B3 A3 bv1
  have hnb : ¬ N = n0 := by have := HN.out; omega
  obtain ⟨V2, cp2, r2, bv0⟩ := copy_strB V1.drew g N n0 _ os hfo R1.out (by have := Hn0.out; simp; omega) (by omega)
  have bv : Below g V1 V2 := (Below.refl g V1).drew.trans bv0
  have R2 : Hid (RowB V2 g (Hd ++ os ++ (List.replicate N (0 : Int)).drop (n0 + os.length))) := by
    have e1 : (Hd ++ (List.replicate N (0 : Int)).drop n0).take n0 = Hd := by rw [List.take_append_of_le_length (by rw [Hn0.out]; omega), List.take_of_length_le (by rw [Hn0.out]; omega)]
    have e2 : (Hd ++ (List.replicate N (0 : Int)).drop n0).drop (n0 + os.length) = (List.replicate N (0 : Int)).drop (n0 + os.length) := by
      rw [List.drop_append, List.drop_eq_nil_of_le (by rw [Hn0.out]; omega), List.nil_append, List.drop_drop]
      congr 1
      rw [Hn0.out]; omega
    rw [e1, e2] at r2
    exact r2
  clear r2 bv0
  have A5 : Hid (AtB V2 w.heap.size #[.int .i64 1, .int .i64 ty, .int .i64 co, .int .u32 re, .int .i64 sp, .int .i64 dp, .bool false, .int .u32 sq, .int .u32 ak, .int .i64 fl, .int .i64 wi, .int .i64 ur, .string (strOfNums os), .string (strOfNums ds)]) := ⟨Nat.lt_of_lt_of_le A4.out.1 bv.size, fun i => (bv.cell hgw).trans (A4.out.2 i)⟩
  have B5 : Hid (Below w.heap.size w V2) := B4.out.trans ((bv.mono (Nat.le_of_lt hgw)))
  clear bv
  obtain ⟨x0, x1, x2, x3, x4, x5, x6, x7, x8, x9, x10, x11, x12, x13⟩ := AtB.cells14 A4.out
  go_wp2_with fail
  go_region
  clear x0 x1 x2 x3 x4 x5 x6 x7 x8 x9 x10 x11 x12 x13 cp2 cp1 hnb
  have hnb3 : ¬ N = n0 + os.length := by have := HN.out; omega
  obtain ⟨V3, cp3, r3, bv0⟩ := copy_strB V2.drew g N (n0 + os.length) _ ds hfd R2.out (by have := Hn0.out; have := HN.out; simp; omega) (by have := HN.out; omega)
  have bv : Below g V2 V3 := (Below.refl g V2).drew.trans bv0
  have R3 : Hid (RowB V3 g (Hd ++ os ++ ds)) := by
    have e1 : (Hd ++ os ++ (List.replicate N (0 : Int)).drop (n0 + os.length)).take (n0 + os.length) = Hd ++ os := by rw [List.take_append_of_le_length (by simp [Hn0.out]), List.take_of_length_le (by simp [Hn0.out])]
    have e2 : (Hd ++ os ++ (List.replicate N (0 : Int)).drop (n0 + os.length)).drop (n0 + os.length + ds.length) = [] := by
      apply List.drop_eq_nil_of_le
      have := Hn0.out; have := HN.out
      simp; omega
    rw [e1, e2, List.append_nil] at r3
    exact r3
  clear r3 bv0
  have A6 : Hid (AtB V3 w.heap.size #[.int .i64 1, .int .i64 ty, .int .i64 co, .int .u32 re, .int .i64 sp, .int .i64 dp, .bool false, .int .u32 sq, .int .u32 ak, .int .i64 fl, .int .i64 wi, .int .i64 ur, .string (strOfNums os), .string (strOfNums ds)]) := ⟨Nat.lt_of_lt_of_le A5.out.1 bv.size, fun i => (bv.cell hgw).trans (A5.out.2 i)⟩
  have B6 : Hid (Below w.heap.size w V3) := B5.out.trans ((bv.mono (Nat.le_of_lt hgw)))
  clear bv
  obtain ⟨x0, x1, x2, x3, x4, x5, x6, x7, x8, x9, x10, x11, x12, x13⟩ := AtB.cells14 A5.out
  go_wp2_with fail
  go_region
  clear x0 x1 x2 x3 x4 x5 x6 x7 x8 x9 x10 x11 x12 x13 cp3 hnb3
  have HE : Hid (EncS w V3 g N N (Hd ++ os ++ ds)) := encS_filled w V3 g N _ (Nat.le_of_lt hgw) B6.out R3.out (by have := Hn0.out; have := HN.out; simp; omega) (fits_append (fits_append hfh hfo) hfd) (by omega)
  clear R1 R2 R3 B4 B5 B6 A4 A5
  obtain ⟨x0, x1, x2, x3, x4, x5, x6, x7, x8, x9, x10, x11, x12, x13⟩ := AtB.cells14 A6.out
  have hSb := sumV_bd src dst 1 (Hd ++ os ++ ds) hs.1 ht.1 HE.out.fits
  · go_wp2_with fail
    refine (sumOf_any src dst 1 hs ht _ HE.out.bs).mono ?_
    rintro e w5 ⟨rfl, nq2, rfl⟩
    have HE5 : Hid _ := HE.out.drewN nq2
    have HC : Hid (chkC src dst 1 (Hd ++ os ++ ds) = 65535 - sumV src dst 1 (Hd ++ os ++ ds)) := by
      show _ = _
      unfold chkC
      rw [if_neg (by omega)]
    have hx := not16 _ hSb.1 hSb.2
    have hsg : IntKind.u16.signed = false := rfl
    have hmx : IntKind.u16.max = 65535 := rfl
    generalize sumV src dst 1 (Hd ++ os ++ ds) = S at *
    go_wp2_with fail
    refine (checkAt_any 1 _).mono ?_
    rintro e w6 ⟨rfl, hw6⟩
    rw [hw6]
    clear hw6
    go_wp2_with fail
    refine (setWord_row HE5.out 2 (65535 - S) (by omega) (by omega)).mono ?_
    rintro e V6 ⟨rfl, rfl, hE6⟩
    have HE6 : Hid _ := hE6
    clear hE6
    go_wp2
    go_ret2
    refine ⟨g, rfl, ?_⟩
    unfold setC
    rw [HC.out]
    exact HE6.out
set_option maxHeartbeats 4000000 in
theorem encs1C (src dst ty co re sp dp : Int) (sq ak fl wi ur : Int) (os ds Hd : List Int) (n0 N : Nat) (w : World) (hok : l4Ok 1 ty co re sp dp false sq ak fl wi ur (strOfNums os) (strOfNums ds) = true) (hn0 : Hd.length = n0) (hN : N = n0 + os.length + ds.length) (hfx : fixV 1 + os.length + ds.length = (N : Int)) (hNm : N ≤ 65515) (hfo : ∀ i, 0 ≤ os.getD i 0 ∧ os.getD i 0 ≤ 255) (hfd : ∀ i, 0 ≤ ds.getD i 0 ∧ ds.getD i 0 ≤ 255) (hfh : ∀ i, 0 ≤ Hd.getD i 0 ∧ Hd.getD i 0 ≤ 255)
    (hH : ∀ W, Calls Try.prog 40 #[l4V 1 ty co re sp dp false sq ak fl wi ur os ds] W fun e w' => ∃ x cap, e = .returned (.slice (some x) n0 cap) ∧ BS w' (some x) n0 Hd ∧ Below W.heap.size W w') (hc : os.length = 0) (hc2 : ds.length = 0) (hs : 0 ≤ src ∧ src ≤ 4294967295) (ht : 0 ≤ dst ∧ dst ≤ 4294967295) (hat : 2 + 2 ≤ n0) :
    Calls Try.prog 19 #[.int .u32 src, .int .u32 dst, l4V 1 ty co re sp dp false sq ak fl wi ur os ds] w fun e w' => ∃ g, e = .returned (.tuple #[.slice (some ⟨g, 0, none⟩) N N, .int .i64 0]) ∧ EncS w w' g N N (setC src dst 1 (Hd ++ os ++ ds)) := by
  have HH : Hid _ := hH
  have HK : Hid (∀ W, Calls Try.prog 38 #[l4V 1 ty co re sp dp false sq ak fl wi ur os ds] W fun e w' => e = .returned (.int .i64 0) ∧ Below W.heap.size W w') := fun W => by
    have := l4check_any 1 ty co re sp dp false sq ak fl wi ur os ds W (by omega)
    rw [hok] at this
    exact this
  have HS : Hid (∀ W, Calls Try.prog 39 #[l4V 1 ty co re sp dp false sq ak fl wi ur os ds] W fun e w' => e = .returned (.int .i64 (N : Int)) ∧ Below W.heap.size W w') := fun W => by
    have := sizeOf_any 1 ty co re sp dp false sq ak fl wi ur os ds W (by omega) (by omega)
    rw [hfx] at this
    exact this
  clear hH hok hfx
  have hmk : ∀ w, (Instr.makeSlice 26 (.int .i64 (N : Int)) (.int .i64 (N : Int))).run Try.prog w = .ok (.slice (some ⟨w.heap.size, 0, none⟩) N N) (w.alloc (.cells (madeCells #[.int .u8 0] N) 5)) := fun w => make_full w N (by omega)
  have hNI : (N : Int) ≤ 65515 := by omega
  have hN1 : n0 ≤ N := by omega
  have hN2 : n0 + os.length ≤ N := by omega
  have HN : Hid (N = n0 + os.length + ds.length) := hN
  have Hn0 : Hid (Hd.length = n0) := hn0
  clear hN hn0
  unfold l4V
  go_enter Try.func19, Try.ntmps19
  go_wp2_with fail
  refine (HK.out _).mono ?_
  clear HK
  rintro e W1 ⟨rfl, hb1⟩
  have A1 : Hid (AtB W1 w.heap.size #[.int .i64 1, .int .i64 ty, .int .i64 co, .int .u32 re, .int .i64 sp, .int .i64 dp, .bool false, .int .u32 sq, .int .u32 ak, .int .i64 fl, .int .i64 wi, .int .i64 ur, .string (strOfNums os), .string (strOfNums ds)]) := AtB.below (atB_new w #[.int .i64 1, .int .i64 ty, .int .i64 co, .int .u32 re, .int .i64 sp, .int .i64 dp, .bool false, .int .u32 sq, .int .u32 ak, .int .i64 fl, .int .i64 wi, .int .i64 ur, .string (strOfNums os), .string (strOfNums ds)] 48 _ rfl) hb1
  obtain ⟨x0, x1, x2, x3, x4, x5, x6, x7, x8, x9, x10, x11, x12, x13⟩ := AtB.cells14 A1.out
  have B1 : Below w.heap.size w W1 := (below1 w _).trans (hb1.mono (by simp))
  clear hb1
  go_wp2_with fail
  refine (HS.out _).mono ?_
  clear HS
  rintro e W2 ⟨rfl, hb2⟩
  have A2 : Hid (AtB W2 w.heap.size #[.int .i64 1, .int .i64 ty, .int .i64 co, .int .u32 re, .int .i64 sp, .int .i64 dp, .bool false, .int .u32 sq, .int .u32 ak, .int .i64 fl, .int .i64 wi, .int .i64 ur, .string (strOfNums os), .string (strOfNums ds)]) := AtB.below A1.out hb2
  have B2 : Below w.heap.size w W2 := B1.trans (hb2.mono B1.size)
  clear x0 x1 x2 x3 x4 x5 x6 x7 x8 x9 x10 x11 x12 x13 hb2 A1 B1
  obtain ⟨x0, x1, x2, x3, x4, x5, x6, x7, x8, x9, x10, x11, x12, x13⟩ := AtB.cells14 (AtB.below A2.out (below1 W2 (.cells (madeCells #[.int .u8 0] N) 5)))
  go_wp2_with fail
  refine (HH.out _).mono ?_
  clear HH
  rintro e W3 ⟨a3, c3, rfl, H3, hb3⟩
  have hp3 : n0 = 0 ∨ ∃ b off, a3 = ⟨b, off, none⟩ := by
    rcases H3.cells with h0 | ⟨b, off, e, _⟩
    · exact .inl h0
    · cases e; exact .inr ⟨b, off, rfl⟩
  have A3 : Hid (AtB W3 w.heap.size #[.int .i64 1, .int .i64 ty, .int .i64 co, .int .u32 re, .int .i64 sp, .int .i64 dp, .bool false, .int .u32 sq, .int .u32 ak, .int .i64 fl, .int .i64 wi, .int .i64 ur, .string (strOfNums os), .string (strOfNums ds)]) := AtB.below (AtB.below A2.out (below1 W2 _)) hb3
  have B3 : Below w.heap.size w W3 := (B2.alloc B2.size _).trans (hb3.mono (by have := B2.size; simp; omega))
  have hr3 : RowB W3 W2.heap.size (List.replicate N 0) := by
    have := (hb3.block _ (by simp)).trans (heap_alloc_new W2 (.cells (madeCells #[.int .u8 0] N) 5))
    rw [made_row] at this
    exact this
  have hgw : w.heap.size < W2.heap.size := A2.out.1
  clear x0 x1 x2 x3 x4 x5 x6 x7 x8 x9 x10 x11 x12 x13 hb3 A2 B2 hmk
  generalize W2.heap.size = g at *
  obtain ⟨V1, cp1, r1, bv1⟩ := copy_rowB W3 g N _ a3 n0 c3 Hd hr3 (by simp) H3 (by omega) hp3
  have R1 : Hid (RowB V1 g (Hd ++ (List.replicate N (0 : Int)).drop n0)) := r1
  clear r1 hr3 H3
  have A4 : Hid (AtB V1 w.heap.size #[.int .i64 1, .int .i64 ty, .int .i64 co, .int .u32 re, .int .i64 sp, .int .i64 dp, .bool false, .int .u32 sq, .int .u32 ak, .int .i64 fl, .int .i64 wi, .int .i64 ur, .string (strOfNums os), .string (strOfNums ds)]) := ⟨Nat.lt_of_lt_of_le A3.out.1 bv1.size, fun i => (bv1.cell hgw).trans (A3.out.2 i)⟩
  have B4 : Hid (Below w.heap.size w V1) := B3.trans (bv1.mono (Nat.le_of_lt hgw))
  clear B3 A3 bv1
  have hol : os.length = 0 := by have := HN.out; omega
  obtain rfl : n0 = N := by have := HN.out; omega
  have cp2 := copy_strE V1.drew g os hol
  have hE0 : (n0 : Int) + (os.length : Int) = (n0 : Int) := by omega
  have R2 : Hid (RowB V1.drew g (Hd ++ os ++ (List.replicate n0 (0 : Int)).drop (n0 + os.length))) := by
    rw [List.eq_nil_of_length_eq_zero hol, List.append_nil]
    exact R1.out
  have bv : Below g V1 V1.drew := (Below.refl _ _).drew
  have A5 : Hid (AtB V1.drew w.heap.size #[.int .i64 1, .int .i64 ty, .int .i64 co, .int .u32 re, .int .i64 sp, .int .i64 dp, .bool false, .int .u32 sq, .int .u32 ak, .int .i64 fl, .int .i64 wi, .int .i64 ur, .string (strOfNums os), .string (strOfNums ds)]) := ⟨Nat.lt_of_lt_of_le A4.out.1 bv.size, fun i => (bv.cell hgw).trans (A4.out.2 i)⟩
  have B5 : Hid (Below w.heap.size w V1.drew) := B4.out.trans ((bv.mono (Nat.le_of_lt hgw)))
  clear bv hol
  obtain ⟨x0, x1, x2, x3, x4, x5, x6, x7, x8, x9, x10, x11, x12, x13⟩ := AtB.cells14 A4.out
  go_wp2_with fail
  go_region
  clear x0 x1 x2 x3 x4 x5 x6 x7 x8 x9 x10 x11 x12 x13 cp2 cp1 hE0
  generalize V1.drew = V2 at *
  have hdl : ds.length = 0 := by have := HN.out; omega
  have hE1 : (n0 : Int) + (os.length : Int) = (n0 : Int) := by have := HN.out; omega
  have cp3 := copy_strE V2.drew g ds hdl
  have R3 : Hid (RowB V2.drew g (Hd ++ os ++ ds)) := by
    have := R2.out
    rw [List.drop_eq_nil_of_le (by have := HN.out; rw [List.length_replicate]; omega), List.append_nil] at this
    rw [List.eq_nil_of_length_eq_zero hdl, List.append_nil]
    exact this
  have bv : Below g V2 V2.drew := (Below.refl _ _).drew
  have A6 : Hid (AtB V2.drew w.heap.size #[.int .i64 1, .int .i64 ty, .int .i64 co, .int .u32 re, .int .i64 sp, .int .i64 dp, .bool false, .int .u32 sq, .int .u32 ak, .int .i64 fl, .int .i64 wi, .int .i64 ur, .string (strOfNums os), .string (strOfNums ds)]) := ⟨Nat.lt_of_lt_of_le A5.out.1 bv.size, fun i => (bv.cell hgw).trans (A5.out.2 i)⟩
  have B6 : Hid (Below w.heap.size w V2.drew) := B5.out.trans ((bv.mono (Nat.le_of_lt hgw)))
  clear bv hdl
  obtain ⟨x0, x1, x2, x3, x4, x5, x6, x7, x8, x9, x10, x11, x12, x13⟩ := AtB.cells14 A5.out
  go_wp2_with fail
  go_region
  clear x0 x1 x2 x3 x4 x5 x6 x7 x8 x9 x10 x11 x12 x13 cp3 hE1
  generalize V2.drew = V3 at *
  have HE : Hid (EncS w V3 g n0 n0 (Hd ++ os ++ ds)) := encS_filled w V3 g n0 _ (Nat.le_of_lt hgw) B6.out R3.out (by have := Hn0.out; have := HN.out; simp; omega) (fits_append (fits_append hfh hfo) hfd) (by omega)
  clear R1 R2 R3 B4 B5 B6 A4 A5
  obtain ⟨x0, x1, x2, x3, x4, x5, x6, x7, x8, x9, x10, x11, x12, x13⟩ := AtB.cells14 A6.out
  have hSb := sumV_bd src dst 1 (Hd ++ os ++ ds) hs.1 ht.1 HE.out.fits
  · go_wp2_with fail
    refine (sumOf_any src dst 1 hs ht _ HE.out.bs).mono ?_
    rintro e w5 ⟨rfl, nq2, rfl⟩
    have HE5 : Hid _ := HE.out.drewN nq2
    have HC : Hid (chkC src dst 1 (Hd ++ os ++ ds) = 65535 - sumV src dst 1 (Hd ++ os ++ ds)) := by
      show _ = _
      unfold chkC
      rw [if_neg (by omega)]
    have hx := not16 _ hSb.1 hSb.2
    have hsg : IntKind.u16.signed = false := rfl
    have hmx : IntKind.u16.max = 65535 := rfl
    generalize sumV src dst 1 (Hd ++ os ++ ds) = S at *
    go_wp2_with fail
    refine (checkAt_any 1 _).mono ?_
    rintro e w6 ⟨rfl, hw6⟩
    rw [hw6]
    clear hw6
    go_wp2_with fail
    refine (setWord_row HE5.out 2 (65535 - S) (by omega) (by omega)).mono ?_
    rintro e V6 ⟨rfl, rfl, hE6⟩
    have HE6 : Hid _ := hE6
    clear hE6
    go_wp2
    go_ret2
    refine ⟨g, rfl, ?_⟩
    unfold setC
    rw [HC.out]
    exact HE6.out
end Go.Proofs.Ytgonckbdkgiddaa
