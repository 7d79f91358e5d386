/- The document's Encode of ICMP packets that may be. Conditions: as said. -/
import Derived.Test.YtanilaofhaelkaaL4cb
import Derived.Deep.RegionHeld3
namespace Go.Proofs.Ytanilaofhaelkaa
open Go.RowKit Go.Lib
set_option linter.unusedSimpArgs false
theorem fits_icmp (ty co : Int) (h1 : 0 ≤ ty ∧ ty ≤ 255) (h2 : 0 ≤ co ∧ co ≤ 255) : ∀ i, 0 ≤ [ty, co, 0, 0].getD i 0 ∧ [ty, co, 0, 0].getD i 0 ≤ 255 := fits_append (xs := [ty, co]) (fits_two h1 h2) (fits_two (by omega) (by omega))
theorem own_row (W : World) (base : Nat) (L : List Int) (n : Nat) (hb : base ≤ W.heap.size) (hl : L.length = n) (hn : n ≤ 1000000) : (W.alloc (.cells (L.map (Value.int .u8)).toArray 5)).ownsRow base 5 1 (.slice (some ⟨W.heap.size, 0, none⟩) n n) n (L.map (Value.int .u8)) := by
  refine ⟨by simpa using hl, .inr ⟨W.heap.size, n, _, rfl, hb, heap_alloc_new W _, Nat.le_refl _, by unfold maxLen; omega, by simpa using hl, ?_⟩⟩
  rw [List.take_of_length_le (by simp; omega)]
theorem rb_icmp1 (W1 : World) (ty co re : Int) : RB W1 ((W1.alloc (.cells #[.int .u8 ty, .int .u8 co, .int .u8 0, .int .u8 0] 5)).drew.alloc (.cells ((be re (4 : Int).toNat).map (Value.int .u8)).toArray 5)) (.slice (some ⟨W1.heap.size, 0, none⟩) 4 4) 4 [ty, co, 0, 0] := by
  refine ⟨?_, ?_⟩
  · have := own_row W1 W1.heap.size [ty, co, 0, 0] 4 (Nat.le_refl _) rfl (by omega)
    exact World.ownsRow.alloc (World.ownsRow.drew this) _
  · exact ((below1 W1 _).drew).alloc (by simp) _
theorem bs_icmp1 (W1 : World) (ty co re : Int) : BS ((W1.alloc (.cells #[.int .u8 ty, .int .u8 co, .int .u8 0, .int .u8 0] 5)).drew.alloc (.cells ((be re (4 : Int).toNat).map (Value.int .u8)).toArray 5)) (some ⟨(W1.alloc (.cells #[.int .u8 ty, .int .u8 co, .int .u8 0, .int .u8 0] 5)).drew.heap.size, 0, none⟩) 4 (be re 4) :=
  own_bs (own_made (W1.alloc (.cells #[.int .u8 ty, .int .u8 co, .int .u8 0, .int .u8 0] 5)).drew _ 4 re (Nat.le_refl _) (by omega)) (be_bd _ _) (by omega)
theorem rb_icmp2 (W1 : World) (ty co re : Int) : RB W1 ((W1.alloc (.cells ((be re 4).map (Value.int .u8)).toArray 5)).alloc (.cells #[.int .u8 ty, .int .u8 co, .int .u8 0, .int .u8 0] 5)).drew (.slice (some ⟨W1.heap.size + 1, 0, none⟩) 4 4) 4 [ty, co, 0, 0] := by
  refine ⟨?_, (below2 W1 _ _).drew⟩
  have := own_row (W1.alloc (.cells ((be re 4).map (Value.int .u8)).toArray 5)) W1.heap.size [ty, co, 0, 0] 4 (by simp) rfl (by omega)
  rw [show (W1.alloc (.cells ((be re 4).map (Value.int .u8)).toArray 5)).heap.size = W1.heap.size + 1 by simp] at this
  exact World.ownsRow.drew this
theorem bs_icmp2 (W1 : World) (ty co re : Int) : BS ((W1.alloc (.cells ((be re 4).map (Value.int .u8)).toArray 5)).alloc (.cells #[.int .u8 ty, .int .u8 co, .int .u8 0, .int .u8 0] 5)).drew (some ⟨W1.heap.size, 0, none⟩) 4 (be re 4) :=
  ((own_bs (own_made W1 _ 4 re (Nat.le_refl _) (by omega)) (be_bd _ _) (by omega)).below (below1 _ _)).drew
set_option maxRecDepth 20000 in
set_option maxHeartbeats 4000000 in
theorem renc_icmp (src dst : Int) (ty co re sp dp : Int) (ns : Bool) (sq ak fl wi ur : Int) (os ds : List Int) (h1 : 0 ≤ ty ∧ ty ≤ 255) (h2 : 0 ≤ co ∧ co ≤ 255) (h3 : 0 ≤ re ∧ re ≤ 4294967295) (hd : ds.length ≤ 65507) (hfd : ∀ i, 0 ≤ ds.getD i 0 ∧ ds.getD i 0 ≤ 255) (w : World)
    (HK : Hid (∀ W, Calls Try.prog 13 #[.agg #[.int .i64 1, .int .i64 ty, .int .i64 co, .int .u32 re, .int .i64 sp, .int .i64 dp, .bool ns, .int .u32 sq, .int .u32 ak, .int .i64 fl, .int .i64 wi, .int .i64 ur, .string (strOfNums os), .string (strOfNums ds)]] W fun e w' => e = .returned (.int .i64 0) ∧ Below W.heap.size W w')) :
    Calls Try.prog 11 #[.int .u32 src, .int .u32 dst, .agg #[.int .i64 1, .int .i64 ty, .int .i64 co, .int .u32 re, .int .i64 sp, .int .i64 dp, .bool ns, .int .u32 sq, .int .u32 ak, .int .i64 fl, .int .i64 wi, .int .i64 ur, .string (strOfNums os), .string (strOfNums ds)]] w fun e w' => ∃ a cap, e = .returned (.tuple #[.slice a (8 + ds.length) cap, .int .i64 0]) ∧ BS w' a (8 + ds.length) (setC src dst 1 (([ty, co, 0, 0] ++ be re 4 ++ ds))) ∧ 8 + ds.length ≤ cap ∧ Below w.heap.size w w' := by
  obtain ⟨i0, hi, hz0, hz1, hz2⟩ := info_parts info5
  have hq0 : IntKind.u8.wrap ty = ty := by rw [IntKind.wrap_u8]; omega
  have hq1 : IntKind.u8.wrap co = co := by rw [IntKind.wrap_u8]; omega
  have hq2 : IntKind.u64.wrap re = re := by simp [IntKind.wrap, IntKind.bits, IntKind.signed]; omega
  go_enter Try.func11, Try.ntmps11
  go_wp2_with fail
  refine (HK.out _).mono ?_
  clear HK
  rintro e W1 ⟨rfl, hb1⟩
  have A1 : Hid (AtB W1 w.heap.size #[.int .i64 1, .int .i64 ty, .int .i64 co, .int .u32 re, .int .i64 sp, .int .i64 dp, .bool ns, .int .u32 sq, .int .u32 ak, .int .i64 fl, .int .i64 wi, .int .i64 ur, .string (strOfNums os), .string (strOfNums ds)]) := AtB.below (atB_new w #[.int .i64 1, .int .i64 ty, .int .i64 co, .int .u32 re, .int .i64 sp, .int .i64 dp, .bool ns, .int .u32 sq, .int .u32 ak, .int .i64 fl, .int .i64 wi, .int .i64 ur, .string (strOfNums os), .string (strOfNums ds)] 25 _ rfl) hb1
  have B1 : Hid (Below w.heap.size w W1) := (below1 w _).trans (hb1.mono (by simp))
  clear hb1
  obtain ⟨x0, x1, x2, x3, x4, x5, x6, x7, x8, x9, x10, x11, x12, x13⟩ := AtB.cells14 A1.out
  go_wp2_with fail
  clear x0 x1 x2 x3 x4 x5 x6 x7 x8 x9 x10 x11 x12 x13
  refine wp_region_held_drew (S := (fun W => AtB W w.heap.size #[.int .i64 1, .int .i64 ty, .int .i64 co, .int .u32 re, .int .i64 sp, .int .i64 dp, .bool ns, .int .u32 sq, .int .u32 ak, .int .i64 fl, .int .i64 wi, .int .i64 ur, .string (strOfNums os), .string (strOfNums ds)])) (by kernel_rfl) A1.out (fun hHeld => ?_)
  refine wpAnyH_take (i := 0) (v := ?_) rfl (by kernel_rfl) (by kernel_rfl) (by kernel_rfl) (fun _ _ _ h => h) (Or.inl ⟨by rfl, ?_⟩) (by assumption) ?_
  rotate_left
  · (intro w hSw; (try dsimp only at hSw); go_simp; try with_reducible rfl)
  try simp only [List.getElem_toArray, List.getElem_cons_zero, List.getElem_cons_succ, Act.put, List.setIfInBounds_toArray, List.set_cons_zero, List.set_cons_succ]
  refine wpAnyH_take (i := 1) (v := .int .i64 ty) rfl (by kernel_rfl) (by kernel_rfl) (by kernel_rfl) (fun _ _ _ h => h) (Or.inl ⟨by rfl, fun W hW => by obtain ⟨x0, x1, x2, x3, x4, x5, x6, x7, x8, x9, x10, x11, x12, x13⟩ := AtB.cells14 hW; go_simp⟩) (by assumption) ?_
  try simp only [List.getElem_toArray, List.getElem_cons_zero, List.getElem_cons_succ, Act.put, List.setIfInBounds_toArray, List.set_cons_zero, List.set_cons_succ]
  refine wpAnyH_take (i := 2) (v := ?_) rfl (by kernel_rfl) (by kernel_rfl) (by kernel_rfl) (fun _ _ _ h => h) (Or.inl ⟨by rfl, ?_⟩) (by assumption) ?_
  rotate_left
  · (intro w hSw; (try dsimp only at hSw); go_simp; try with_reducible rfl)
  try simp only [List.getElem_toArray, List.getElem_cons_zero, List.getElem_cons_succ, Act.put, List.setIfInBounds_toArray, List.set_cons_zero, List.set_cons_succ]
  refine wpAnyH_take (i := 3) (v := ?_) rfl (by kernel_rfl) (by kernel_rfl) (by kernel_rfl) (fun _ _ _ h => h) (Or.inl ⟨by rfl, ?_⟩) (by assumption) ?_
  rotate_left
  · (intro w hSw; (try dsimp only at hSw); go_simp; try with_reducible rfl)
  try simp only [List.getElem_toArray, List.getElem_cons_zero, List.getElem_cons_succ, Act.put, List.setIfInBounds_toArray, List.set_cons_zero, List.set_cons_succ]
  refine wpAnyH_take (i := 4) (v := .int .i64 co) rfl (by kernel_rfl) (by kernel_rfl) (by kernel_rfl) (fun _ _ _ h => h) (Or.inl ⟨by rfl, fun W hW => by obtain ⟨x0, x1, x2, x3, x4, x5, x6, x7, x8, x9, x10, x11, x12, x13⟩ := AtB.cells14 hW; go_simp⟩) (by assumption) ?_
  try simp only [List.getElem_toArray, List.getElem_cons_zero, List.getElem_cons_succ, Act.put, List.setIfInBounds_toArray, List.set_cons_zero, List.set_cons_succ]
  refine wpAnyH_take (i := 5) (v := ?_) rfl (by kernel_rfl) (by kernel_rfl) (by kernel_rfl) (fun _ _ _ h => h) (Or.inl ⟨by rfl, ?_⟩) (by assumption) ?_
  rotate_left
  · (intro w hSw; (try dsimp only at hSw); go_simp; try with_reducible rfl)
  try simp only [List.getElem_toArray, List.getElem_cons_zero, List.getElem_cons_succ, Act.put, List.setIfInBounds_toArray, List.set_cons_zero, List.set_cons_succ]
  refine wpAnyH_take (i := 7) (v := ?_) rfl (by kernel_rfl) (by kernel_rfl) (by kernel_rfl) (fun _ _ _ h => h) (Or.inl ⟨by rfl, ?_⟩) (by assumption) ?_
  rotate_left
  · (intro w hSw; (try dsimp only at hSw); go_simp; try with_reducible rfl)
  try simp only [List.getElem_toArray, List.getElem_cons_zero, List.getElem_cons_succ, Act.put, List.setIfInBounds_toArray, List.set_cons_zero, List.set_cons_succ]
  refine wpAnyH_take (i := 8) (v := .int .u32 re) rfl (by kernel_rfl) (by kernel_rfl) (by kernel_rfl) (fun _ _ _ h => h) (Or.inl ⟨by rfl, fun W hW => by obtain ⟨x0, x1, x2, x3, x4, x5, x6, x7, x8, x9, x10, x11, x12, x13⟩ := AtB.cells14 hW; go_simp⟩) (by assumption) ?_
  try simp only [List.getElem_toArray, List.getElem_cons_zero, List.getElem_cons_succ, Act.put, List.setIfInBounds_toArray, List.set_cons_zero, List.set_cons_succ]
  refine wpAnyH_take (i := 9) (v := ?_) rfl (by kernel_rfl) (by kernel_rfl) (by kernel_rfl) (fun _ _ _ h => h) (Or.inl ⟨by rfl, ?_⟩) (by assumption) ?_
  rotate_left
  · (intro w hSw; (try dsimp only at hSw); go_simp; try with_reducible rfl)
  try simp only [List.getElem_toArray, List.getElem_cons_zero, List.getElem_cons_succ, Act.put, List.setIfInBounds_toArray, List.set_cons_zero, List.set_cons_succ]
  refine wpAnyH_ready (rs := [6, 10]) (by kernel_rfl) (by simp) ?_
  refine AllReadyH.cons (o := _) rfl (fun K hK => ?_) (AllReadyH.cons (o := _) rfl (fun K hK => ?_) AllReadyH.nil)
  · go_simp
    have A2 : Hid (AtB (W1.alloc (.cells #[.int .u8 ty, .int .u8 co, .int .u8 0, .int .u8 0] 5)).drew w.heap.size #[.int .i64 1, .int .i64 ty, .int .i64 co, .int .u32 re, .int .i64 sp, .int .i64 dp, .bool ns, .int .u32 sq, .int .u32 ak, .int .i64 fl, .int .i64 wi, .int .i64 ur, .string (strOfNums os), .string (strOfNums ds)]) := AtB.below A1.out ((below1 W1 _).drew)
    refine hK _ _ A2.out (fun hHeld => ?_)
    try simp only [List.getElem_toArray, List.getElem_cons_zero, List.getElem_cons_succ, Act.put, List.setIfInBounds_toArray, List.set_cons_zero, List.set_cons_succ]
    refine wpAnyH_ready (rs := [10]) (by kernel_rfl) (by simp) ?_
    refine AllReadyH.cons (o := _) rfl (fun K hK => ?_) AllReadyH.nil
    go_simp
    refine (made4 re (by omega) _).mono ?_
    rintro e w' ⟨rfl, hw'⟩
    rw [hw']
    clear hw'
    have A3 : Hid (AtB ((W1.alloc (.cells #[.int .u8 ty, .int .u8 co, .int .u8 0, .int .u8 0] 5)).drew.alloc (.cells ((be re (4 : Int).toNat).map (Value.int .u8)).toArray 5)) w.heap.size #[.int .i64 1, .int .i64 ty, .int .i64 co, .int .u32 re, .int .i64 sp, .int .i64 dp, .bool ns, .int .u32 sq, .int .u32 ak, .int .i64 fl, .int .i64 wi, .int .i64 ur, .string (strOfNums os), .string (strOfNums ds)]) := AtB.below A2.out (below1 _ _)
    refine hK _ _ A3.out (fun hHeld => ?_)
    try simp only [List.getElem_toArray, List.getElem_cons_zero, List.getElem_cons_succ, Act.put, List.setIfInBounds_toArray, List.set_cons_zero, List.set_cons_succ]
    refine wpAnyH_ready (rs := [11]) (by kernel_rfl) (by simp) ?_
    refine AllReadyH.cons (o := _) rfl (fun K hK => ?_) AllReadyH.nil
    refine step_append_rb (w1 := W1) Try.underlying23 info5 rfl (.tmp 30) (.tmp 34) rfl _ 4 [ty, co, 0, 0] rfl (rb_icmp1 W1 ty co re) _ 4 4 (be re 4) rfl (bs_icmp1 W1 ty co re) (by omega) ?_
    intro a2 c2 W4 r4
    have R4 : Hid (RB W1 W4 (.slice a2 8 c2) 8 ([ty, co, 0, 0] ++ be re 4)) := r4
    have A4 : Hid (AtB W4 w.heap.size #[.int .i64 1, .int .i64 ty, .int .i64 co, .int .u32 re, .int .i64 sp, .int .i64 dp, .bool ns, .int .u32 sq, .int .u32 ak, .int .i64 fl, .int .i64 wi, .int .i64 ur, .string (strOfNums os), .string (strOfNums ds)]) := AtB.below A1.out r4.bel
    clear r4
    refine hK _ _ A4.out (fun hHeld => ?_)
    try simp only [List.getElem_toArray, List.getElem_cons_zero, List.getElem_cons_succ, Act.put, List.setIfInBounds_toArray, List.set_cons_zero, List.set_cons_succ]
    refine wpAnyH_ready (rs := [12]) (by kernel_rfl) (by simp) ?_
    refine AllReadyH.cons (o := _) rfl (fun K hK => ?_) AllReadyH.nil
    go_simp
    refine hK _ _ A4.out (fun hHeld => ?_)
    refine wpAnyH_done (by kernel_rfl) ?_ _
    try simp only [List.getElem_toArray, List.getElem_cons_zero, List.getElem_cons_succ, Act.put, List.setIfInBounds_toArray, List.set_cons_zero, List.set_cons_succ]
    obtain ⟨x0, x1, x2, x3, x4, x5, x6, x7, x8, x9, x10, x11, x12, x13⟩ := AtB.cells14 A4.out
    have hd4 : (ds.length : Int) ≤ 65507 := by omega
    go_wp2_with (at_builtin; refine wpList_append_str (by rfl) _ _ 23 9 rfl W1.heap.size 5 i0 Try.underlying23 Try.underlying9 hi hz0 hz1 hz2 _ 8 _ rfl R4.out.own ds hfd rfl (by omega) R4.out.bel.size ?_)
    intro a5 c5 W5 own5 g5
    have B5 : Hid (Below W1.heap.size W1 W5) := R4.out.bel.grown g5 R4.out.bel.size (fun k hk => (World.ownsRow.lt R4.out.own k hk).1)
    obtain ⟨g, rfl, hg1, hg2⟩ := own_some own5 (by omega)
    have hcc := own_caps own5
    have E5 : Hid (EncS W1 W5 g (8 + ds.length) c5 ([ty, co, 0, 0] ++ be re 4 ++ ds)) := ⟨own5, B5.out, fits_append (fits_append (fits_icmp ty co h1 h2) (be_bd _ _)) hfd, by omega⟩
    clear x0 x1 x2 x3 x4 x5 x6 x7 x8 x9 x10 x11 x12 x13 own5 g5 R4 A4
    go_wp2_with fail
    have hSb := fld_bd (wsum ([ty, co, 0, 0] ++ be re 4 ++ ds)) (wsum_bd E5.out.fits)
    have HC : Hid (chkC src dst 1 ([ty, co, 0, 0] ++ be re 4 ++ ds) = 65535 - fld (wsum ([ty, co, 0, 0] ++ be re 4 ++ ds))) := by
      show _ = _
      unfold chkC sumV
      rw [if_neg (by omega), if_pos rfl]
    refine (rcheck_any _ E5.out.bs).mono ?_
    rintro e w' ⟨rfl, hw'⟩
    rw [hw']
    clear hw'
    generalize fld (wsum ([ty, co, 0, 0] ++ be re 4 ++ ds)) = Sm at *
    obtain ⟨cc, hcc2⟩ : ∃ c, 65535 - Sm = c := ⟨_, rfl⟩
    rw [hcc2] at HC ⊢
    have hcb : 0 ≤ cc ∧ cc ≤ 65535 := by omega
    clear hcc2 hSb
    have k2 := E5.out.cell 2 (by omega)
    have k3 := E5.out.cell 3 (by omega)
    have f2 := E5.out.own.frozenAt 2
    have f3 := E5.out.own.frozenAt 3
    have t1 : cc.tdiv 256 = cc / 256 := Int.tdiv_eq_ediv_of_nonneg hcb.1
    have t2 : cc.tmod 256 = cc % 256 := Int.tmod_eq_emod_of_nonneg hcb.1
    have t3 : IntKind.u8.wrap (cc / 256) = cc / 256 := by rw [IntKind.wrap_u8]; omega
    have t4 : IntKind.u8.wrap (cc % 256) = cc % 256 := by rw [IntKind.wrap_u8]; omega
    have t5 : IntKind.u16.wrap (cc / 256) = cc / 256 := by rw [IntKind.wrap_u16]; omega
    have hN2 : (2 : Int) < 8 + (ds.length : Int) := by omega
    have hN3 : (3 : Int) < 8 + (ds.length : Int) := by omega
    have E6 : Hid _ := (E5.out.set 2 (cc / 256) (by omega)).set 3 (cc % 256) (by omega)
    go_wp2
    go_ret2
    refine ⟨some ⟨g, 0, none⟩, c5, rfl, ?_, by omega, B1.out.trans (E6.out.bel.mono B1.out.size)⟩
    unfold setC
    rw [show chkC src dst 1 (ty :: co :: 0 :: 0 :: (be re 4 ++ ds)) = cc from HC.out]
    exact E6.out.bs
  · go_simp
    refine (made4 re (by omega) _).mono ?_
    rintro e w' ⟨rfl, hw'⟩
    rw [hw']
    clear hw'
    have A2 : Hid (AtB (W1.drew.alloc (.cells ((be re (4 : Int).toNat).map (Value.int .u8)).toArray 5)) w.heap.size #[.int .i64 1, .int .i64 ty, .int .i64 co, .int .u32 re, .int .i64 sp, .int .i64 dp, .bool ns, .int .u32 sq, .int .u32 ak, .int .i64 fl, .int .i64 wi, .int .i64 ur, .string (strOfNums os), .string (strOfNums ds)]) := AtB.below A1.out ((Below.refl W1.heap.size W1).drew.alloc (Nat.le_refl _) _)
    refine hK _ _ A2.out (fun hHeld => ?_)
    try simp only [List.getElem_toArray, List.getElem_cons_zero, List.getElem_cons_succ, Act.put, List.setIfInBounds_toArray, List.set_cons_zero, List.set_cons_succ]
    refine wpAnyH_ready (rs := [6]) (by kernel_rfl) (by simp) ?_
    refine AllReadyH.cons (o := _) rfl (fun K hK => ?_) AllReadyH.nil
    go_simp
    refine hK _ _ (AtB.below A1.out (below2 W1 _ _).drew) (fun hHeld => ?_)
    try simp only [List.getElem_toArray, List.getElem_cons_zero, List.getElem_cons_succ, Act.put, List.setIfInBounds_toArray, List.set_cons_zero, List.set_cons_succ]
    refine wpAnyH_ready (rs := [11]) (by kernel_rfl) (by simp) ?_
    refine AllReadyH.cons (o := _) rfl (fun K hK => ?_) AllReadyH.nil
    refine step_append_rb (w1 := W1) Try.underlying23 info5 rfl (.tmp 30) (.tmp 34) rfl _ 4 [ty, co, 0, 0] rfl (rb_icmp2 W1 ty co re) _ 4 4 (be re 4) rfl (bs_icmp2 W1 ty co re) (by omega) ?_
    intro a2 c2 W4 r4
    have R4 : Hid (RB W1 W4 (.slice a2 8 c2) 8 ([ty, co, 0, 0] ++ be re 4)) := r4
    have A4 : Hid (AtB W4 w.heap.size #[.int .i64 1, .int .i64 ty, .int .i64 co, .int .u32 re, .int .i64 sp, .int .i64 dp, .bool ns, .int .u32 sq, .int .u32 ak, .int .i64 fl, .int .i64 wi, .int .i64 ur, .string (strOfNums os), .string (strOfNums ds)]) := AtB.below A1.out r4.bel
    clear r4
    refine hK _ _ A4.out (fun hHeld => ?_)
    try simp only [List.getElem_toArray, List.getElem_cons_zero, List.getElem_cons_succ, Act.put, List.setIfInBounds_toArray, List.set_cons_zero, List.set_cons_succ]
    refine wpAnyH_ready (rs := [12]) (by kernel_rfl) (by simp) ?_
    refine AllReadyH.cons (o := _) rfl (fun K hK => ?_) AllReadyH.nil
    go_simp
    refine hK _ _ A4.out (fun hHeld => ?_)
    refine wpAnyH_done (by kernel_rfl) ?_ _
    try simp only [List.getElem_toArray, List.getElem_cons_zero, List.getElem_cons_succ, Act.put, List.setIfInBounds_toArray, List.set_cons_zero, List.set_cons_succ]
    obtain ⟨x0, x1, x2, x3, x4, x5, x6, x7, x8, x9, x10, x11, x12, x13⟩ := AtB.cells14 A4.out
    have hd4 : (ds.length : Int) ≤ 65507 := by omega
    go_wp2_with (at_builtin; refine wpList_append_str (by rfl) _ _ 23 9 rfl W1.heap.size 5 i0 Try.underlying23 Try.underlying9 hi hz0 hz1 hz2 _ 8 _ rfl R4.out.own ds hfd rfl (by omega) R4.out.bel.size ?_)
    intro a5 c5 W5 own5 g5
    have B5 : Hid (Below W1.heap.size W1 W5) := R4.out.bel.grown g5 R4.out.bel.size (fun k hk => (World.ownsRow.lt R4.out.own k hk).1)
    obtain ⟨g, rfl, hg1, hg2⟩ := own_some own5 (by omega)
    have hcc := own_caps own5
    have E5 : Hid (EncS W1 W5 g (8 + ds.length) c5 ([ty, co, 0, 0] ++ be re 4 ++ ds)) := ⟨own5, B5.out, fits_append (fits_append (fits_icmp ty co h1 h2) (be_bd _ _)) hfd, by omega⟩
    clear x0 x1 x2 x3 x4 x5 x6 x7 x8 x9 x10 x11 x12 x13 own5 g5 R4 A4
    go_wp2_with fail
    have hSb := fld_bd (wsum ([ty, co, 0, 0] ++ be re 4 ++ ds)) (wsum_bd E5.out.fits)
    have HC : Hid (chkC src dst 1 ([ty, co, 0, 0] ++ be re 4 ++ ds) = 65535 - fld (wsum ([ty, co, 0, 0] ++ be re 4 ++ ds))) := by
      show _ = _
      unfold chkC sumV
      rw [if_neg (by omega), if_pos rfl]
    refine (rcheck_any _ E5.out.bs).mono ?_
    rintro e w' ⟨rfl, hw'⟩
    rw [hw']
    clear hw'
    generalize fld (wsum ([ty, co, 0, 0] ++ be re 4 ++ ds)) = Sm at *
    obtain ⟨cc, hcc2⟩ : ∃ c, 65535 - Sm = c := ⟨_, rfl⟩
    rw [hcc2] at HC ⊢
    have hcb : 0 ≤ cc ∧ cc ≤ 65535 := by omega
    clear hcc2 hSb
    have k2 := E5.out.cell 2 (by omega)
    have k3 := E5.out.cell 3 (by omega)
    have f2 := E5.out.own.frozenAt 2
    have f3 := E5.out.own.frozenAt 3
    have t1 : cc.tdiv 256 = cc / 256 := Int.tdiv_eq_ediv_of_nonneg hcb.1
    have t2 : cc.tmod 256 = cc % 256 := Int.tmod_eq_emod_of_nonneg hcb.1
    have t3 : IntKind.u8.wrap (cc / 256) = cc / 256 := by rw [IntKind.wrap_u8]; omega
    have t4 : IntKind.u8.wrap (cc % 256) = cc % 256 := by rw [IntKind.wrap_u8]; omega
    have t5 : IntKind.u16.wrap (cc / 256) = cc / 256 := by rw [IntKind.wrap_u16]; omega
    have hN2 : (2 : Int) < 8 + (ds.length : Int) := by omega
    have hN3 : (3 : Int) < 8 + (ds.length : Int) := by omega
    have E6 : Hid _ := (E5.out.set 2 (cc / 256) (by omega)).set 3 (cc % 256) (by omega)
    go_wp2
    go_ret2
    refine ⟨some ⟨g, 0, none⟩, c5, rfl, ?_, by omega, B1.out.trans (E6.out.bel.mono B1.out.size)⟩
    unfold setC
    rw [show chkC src dst 1 (ty :: co :: 0 :: 0 :: (be re 4 ++ ds)) = cc from HC.out]
    exact E6.out.bs
end Go.Proofs.Ytanilaofhaelkaa
