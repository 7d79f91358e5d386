/- The law DhcpEncodes, where what stands behind is of at most a thousand million bytes. -/
import Derived.Test.YtjoekmcogmfhjaaFE
import Derived.Test.YtjoekmcogmfhjaaRF
import Derived.Test.YtjoekmcogmfhjaaDH
import Derived.Test.YtjoekmcogmfhjaaSA
namespace Go.Proofs.Ytjoekmcogmfhjaa
open Go.RowKit

theorem rencode_no (op xid secs flags ci yi si gi ch : Int) (a : Option Addr) (n cap : Nat) (os : List Opt) (w : World) (h : OS w a n os) (hx : 0 ≤ xid ∧ xid ≤ 4294967295) (hci : 0 ≤ ci ∧ ci ≤ 4294967295) (hyi : 0 ≤ yi ∧ yi ≤ 4294967295) (hsi : 0 ≤ si ∧ si ≤ 4294967295) (hgi : 0 ≤ gi ∧ gi ≤ 4294967295) (hch : 0 ≤ ch ∧ ch ≤ 18446744073709551615) (hy : (fixB op secs flags ch && optsB os) = false) :
    Calls Try.prog 12 #[dhcpV op xid secs flags ci yi si gi ch (.slice a n cap)] w fun e w' => e = .returned (.tuple #[.slice none 0 0, .int .i64 1]) ∧ Below w.heap.size w w' := by
  rw [tests_agree, h.len] at hy
  cases hr : rfixB op secs flags ch n with
  | false => exact rencode_no1 op xid secs flags ci yi si gi ch a n cap w hr
  | true =>
    rw [hr, Bool.true_and] at hy
    refine (rencode_main op xid secs flags ci yi si gi ch a n cap os w h hx hci hyi hsi hgi hch hr).mono ?_
    rintro e w' ⟨⟨h1, _⟩ | ⟨_, h2⟩, hb⟩
    · rw [hy] at h1; cases h1
    · exact ⟨h2, hb⟩

theorem rencode_yes (op xid secs flags ci yi si gi ch : Int) (a : Option Addr) (n cap : Nat) (os : List Opt) (w : World) (h : OS w a n os) (hx : 0 ≤ xid ∧ xid ≤ 4294967295) (hci : 0 ≤ ci ∧ ci ≤ 4294967295) (hyi : 0 ≤ yi ∧ yi ≤ 4294967295) (hsi : 0 ≤ si ∧ si ≤ 4294967295) (hgi : 0 ≤ gi ∧ gi ≤ 4294967295) (hch : 0 ≤ ch ∧ ch ≤ 18446744073709551615) (hy : (fixB op secs flags ch && optsB os) = true) :
    Calls Try.prog 12 #[dhcpV op xid secs flags ci yi si gi ch (.slice a n cap)] w fun e w' => ∃ a' N cap', e = .returned (.tuple #[.slice a' N cap', .int .i64 0]) ∧ w'.ownsRow w.heap.size 5 1 (.slice a' N cap') N ((encBytes op xid secs flags ci yi si gi ch os).map (Value.int .u8)) ∧ Below w.heap.size w w' := by
  rw [tests_agree, h.len, Bool.and_eq_true] at hy
  refine (rencode_main op xid secs flags ci yi si gi ch a n cap os w h hx hci hyi hsi hgi hch hy.1).mono ?_
  rintro e w' ⟨⟨_, a', N, c', h1, h2⟩ | ⟨h2, _⟩, hb⟩
  · exact ⟨a', N, c', h1, h2, hb⟩
  · rw [hy.2] at h2; cases h2

set_option maxHeartbeats 2000000 in
theorem dhcpEncodes_no (w : World) (op xid secs flags ci yi si gi ch : Int) (a : Option Addr) (n cap : Nat) (os : List Opt) (hos : OS w a n os) (hx : 0 ≤ xid ∧ xid ≤ 4294967295) (hci : 0 ≤ ci ∧ ci ≤ 4294967295) (hyi : 0 ≤ yi ∧ yi ≤ 4294967295) (hsi : 0 ≤ si ∧ si ≤ 4294967295) (hgi : 0 ≤ gi ∧ gi ≤ 4294967295) (hch : 0 ≤ ch ∧ ch ≤ 18446744073709551615) (a2 : Option Addr) (n2 cap2 : Nat) (hy : (fixB op secs flags ch && optsB os) = false) :
    Calls Try.prog 4 #[dhcpV op xid secs flags ci yi si gi ch (.slice a n cap), .slice a2 n2 cap2] w fun e w' => e = .returned (.bool true) ∧ Below w.heap.size w w' := by
  have hnil : ∀ W, (convert 22 9 (.slice none 0 0)).run Try.prog W = .ok (.string ByteArray.empty) W := fun W => run_convert_bytes_nil W 22 5 Try.underlying22 Try.underlying5 0 0 9 Try.underlying9
  have hun : dhcpV op xid secs flags ci yi si gi ch (.slice a n cap) = .agg #[.int .i64 op, .int .u32 xid, .int .i64 secs, .int .i64 flags, .int .u32 ci, .int .u32 yi, .int .u32 si, .int .u32 gi, .int .u64 ch, .slice a n cap] := rfl
  have A0 : Hid _ := atB_new w #[.int .i64 op, .int .u32 xid, .int .i64 secs, .int .i64 flags, .int .u32 ci, .int .u32 yi, .int .u32 si, .int .u32 gi, .int .u64 ch, .slice a n cap] 27 w.heap.size rfl
  have hb0 := below1 w (.cells #[.int .i64 op, .int .u32 xid, .int .i64 secs, .int .i64 flags, .int .u32 ci, .int .u32 yi, .int .u32 si, .int .u32 gi, .int .u64 ch, .slice a n cap] 27)
  have HOS : Hid _ := hos
  have HY : Hid _ := hy
  clear hos hy
  rw [hun]
  go_enter Try.func4, Try.ntmps4
  go_wp2_with fail
  rw [← hun]
  refine (encode_no op xid secs flags ci yi si gi ch a n cap os _ (HOS.out.below hb0) HY.out).mono ?_
  rw [hun]
  rintro e W1 ⟨rfl, hb⟩
  have hb1 : Below w.heap.size w W1 := hb0.trans (hb.mono (by simp))
  obtain ⟨x0, x1, x2, x3, x4, x5, x6, x7, x8, x9⟩ := AtB.ten (AtB.below A0.out hb)
  clear hb hb0 A0
  go_wp2_with fail
  rw [← hun]
  refine (rencode_no op xid secs flags ci yi si gi ch a n cap os _ (HOS.out.below hb1) hx hci hyi hsi hgi hch HY.out).mono ?_
  rw [hun]
  rintro e W2 ⟨rfl, hb⟩
  have hb2 : Below w.heap.size w W2 := hb1.trans (hb.mono hb1.size)
  clear hb hb1 x0 x1 x2 x3 x4 x5 x6 x7 x8 x9
  go_wp2_with fail
  refine (lives_any _).mono ?_
  rintro e W3 ⟨rfl, hb⟩
  have hb3 : Below w.heap.size w W3 := hb2.trans (hb.mono hb2.size)
  clear hb2 hb
  go_wp2
  go_ret
  exact ⟨rfl, hb3⟩

/-- The written bytes are bytes. -/
theorem be_fits (v : Int) (s : Nat) : ∀ i, 0 ≤ (be v s).getD i 0 ∧ (be v s).getD i 0 ≤ 255 := by
  induction s with
  | zero => intro i; simp [be]
  | succ s ih =>
    intro i
    cases i with
    | zero => simp only [be, List.getD_cons_zero]; omega
    | succ i => simpa only [be, List.getD_cons_succ] using ih i
theorem optBytes_fits (os : List Opt) (h : os.all optB = true) : ∀ i, 0 ≤ (optBytes os).getD i 0 ∧ (optBytes os).getD i 0 ≤ 255 := by
  induction os with
  | nil => intro i; simp [optBytes]
  | cons o r ih =>
    rw [List.all_cons, Bool.and_eq_true] at h
    obtain ⟨ho, hr⟩ := h
    unfold optB at ho
    simp only [Bool.and_eq_true, decide_eq_true_eq, beq_iff_eq] at ho
    obtain ⟨h1, h2, h3, h4⟩ := ho
    have ih := ih hr
    intro i
    show 0 ≤ (o.code :: (o.data.size : Int) :: (dnums o.data ++ optBytes r)).getD i 0 ∧ (o.code :: (o.data.size : Int) :: (dnums o.data ++ optBytes r)).getD i 0 ≤ 255
    rcases i with _ | _ | i
    · simp only [List.getD_cons_zero]; omega
    · simp only [List.getD_cons_succ, List.getD_cons_zero]; omega
    · simp only [List.getD_cons_succ]
      exact fits_append (dnums_fits o.data) ih i
theorem noughts_fits : ∀ i, 0 ≤ noughts.getD i 0 ∧ noughts.getD i 0 ≤ 255 := by
  intro i
  unfold noughts
  rw [List.getD_eq_getElem?_getD, List.getElem?_replicate]
  split <;> simp
theorem fixBytes_fits (op xid secs flags ci yi si gi ch : Int) : ∀ i, 0 ≤ (fixBytes op xid secs flags ci yi si gi ch).getD i 0 ∧ (fixBytes op xid secs flags ci yi si gi ch).getD i 0 ≤ 255 := by
  unfold fixBytes
  have nf : ∀ i, 0 ≤ ([] : List Int).getD i 0 ∧ ([] : List Int).getD i 0 ≤ 255 := by intro i; simp
  exact fits_append (fits_append (fits_append (fits_append (fits_append (fits_append (fits_append (fits_append (fits_append (fits_append (fits_append (fits_append nf (be_fits _ _)) (dnums_fits _)) (be_fits _ _)) (be_fits _ _)) (be_fits _ _)) (be_fits _ _)) (be_fits _ _)) (be_fits _ _)) (be_fits _ _)) (be_fits _ _)) noughts_fits) (dnums_fits _)
theorem encBytes_fits (op xid secs flags ci yi si gi ch : Int) (os : List Opt) (h : os.all optB = true) : ∀ i, 0 ≤ (encBytes op xid secs flags ci yi si gi ch os).getD i 0 ∧ (encBytes op xid secs flags ci yi si gi ch os).getD i 0 ≤ 255 := by
  unfold encBytes
  refine fits_append (fits_append (fixBytes_fits op xid secs flags ci yi si gi ch) (optBytes_fits os h)) ?_
  intro i
  rcases i with _ | i <;> simp

set_option maxHeartbeats 800000 in
theorem dhcpEncodes_yes (w : World) (op xid secs flags ci yi si gi ch : Int) (a : Option Addr) (n cap : Nat) (os : List Opt) (hos : OS w a n os) (hx : 0 ≤ xid ∧ xid ≤ 4294967295) (hci : 0 ≤ ci ∧ ci ≤ 4294967295) (hyi : 0 ≤ yi ∧ yi ≤ 4294967295) (hsi : 0 ≤ si ∧ si ≤ 4294967295) (hgi : 0 ≤ gi ∧ gi ≤ 4294967295) (hch : 0 ≤ ch ∧ ch ≤ 18446744073709551615) (a2 : Option Addr) (n2 cap2 : Nat) (us : List Int) (hU : BS w a2 n2 us) (hc2 : n2 ≤ 1000000000) (hy : (fixB op secs flags ch && optsB os) = true) :
    Calls Try.prog 4 #[dhcpV op xid secs flags ci yi si gi ch (.slice a n cap), .slice a2 n2 cap2] w fun e w' => e = .returned (.bool true) ∧ Below w.heap.size w w' := by
  have hnl := hos.len
  subst hnl
  obtain ⟨i0, hi, hz0, hz1, hz2⟩ := info_parts info5
  have hun : dhcpV op xid secs flags ci yi si gi ch (.slice a os.length cap) = .agg #[.int .i64 op, .int .u32 xid, .int .i64 secs, .int .i64 flags, .int .u32 ci, .int .u32 yi, .int .u32 si, .int .u32 gi, .int .u64 ch, .slice a os.length cap] := rfl
  have hall : os.all optB = true ∧ os.length ≤ 64 ∧ (op = 1 ∨ op = 2) ∧ (0 ≤ secs ∧ secs ≤ 65535) ∧ (0 ≤ flags ∧ flags ≤ 65535) ∧ ch ≤ 281474976710655 := by
    unfold fixB optsB at hy
    rw [fit16_eq, fit16_eq] at hy
    simp only [Bool.and_eq_true, Bool.or_eq_true, beq_iff_eq, decide_eq_true_eq] at hy
    exact ⟨hy.2.2, hy.2.1, hy.1.1, hy.1.2.1, hy.1.2.2.1, hy.1.2.2.2⟩
  obtain ⟨hao, hol, hop, hse, hfl, hcm⟩ := hall
  have hsplit : Hid (encBytes op xid secs flags ci yi si gi ch os ++ us = fixBytes op xid secs flags ci yi si gi ch ++ (optBytes os ++ 255 :: us)) := by
    show _ = _
    unfold encBytes
    simp only [List.append_assoc, List.cons_append, List.nil_append]
  have hmsg : Hid (isMsgB (encBytes op xid secs flags ci yi si gi ch os ++ us) = true) := by show _ = _; rw [hsplit.out]; exact wr_isMsg _ _ _ _ _ _ _ _ _ hop _
  have hpar : Hid (parseO ((encBytes op xid secs flags ci yi si gi ch os ++ us).drop 240) = some os) := by show _ = _; rw [hsplit.out, wr_drop]; exact parse_written os us hao
  have hfix : Hid (∀ s, fixV2 (encBytes op xid secs flags ci yi si gi ch os ++ us) s = dhcpV op xid secs flags ci yi si gi ch s) := by intro s; rw [hsplit.out]; exact wr_fields _ _ _ _ _ _ _ _ _ hop hx hse hfl hci hyi hsi hgi ⟨hch.1, hcm⟩ _ s
  have hbd : Hid _ := encBytes_fits op xid secs flags ci yi si gi ch os hao
  have hBl : (encBytes op xid secs flags ci yi si gi ch os).length ≤ 20000 ∧ 0 < (encBytes op xid secs flags ci yi si gi ch os).length := by
    have := optBytes_len hao
    unfold encBytes
    rw [List.length_append, List.length_append, fixBytes_len]
    simp only [List.length_cons, List.length_nil]
    omega
  have HU : Hid (BS w a2 n2 us) := hU
  have HOS : Hid _ := hos
  have HY : Hid _ := hy
  clear hos hy hU hsplit
  generalize hB : encBytes op xid secs flags ci yi si gi ch os = B at *
  have HB : Hid _ := hB
  clear hB
  have A0 : Hid _ := atB_new w #[.int .i64 op, .int .u32 xid, .int .i64 secs, .int .i64 flags, .int .u32 ci, .int .u32 yi, .int .u32 si, .int .u32 gi, .int .u64 ch, .slice a os.length cap] 27 w.heap.size rfl
  have hb0 := below1 w (.cells #[.int .i64 op, .int .u32 xid, .int .i64 secs, .int .i64 flags, .int .u32 ci, .int .u32 yi, .int .u32 si, .int .u32 gi, .int .u64 ch, .slice a os.length cap] 27)
  rw [hun]
  go_enter Try.func4, Try.ntmps4
  go_wp2_with fail
  rw [← hun]
  refine (encode_yes op xid secs flags ci yi si gi ch a os.length cap os _ (HOS.out.below hb0) hx hci hyi hsi hgi hch HY.out).mono ?_
  rw [hun, HB.out]
  rintro e W1 ⟨b1, N1, c1, rfl, ho1, hb⟩
  have hb1 : Below w.heap.size w W1 := hb0.trans (hb.mono (by simp))
  have hN1 : N1 = B.length := by have := own_len ho1; simpa using this
  subst hN1
  have A1 : Hid (AtB W1 w.heap.size #[.int .i64 op, .int .u32 xid, .int .i64 secs, .int .i64 flags, .int .u32 ci, .int .u32 yi, .int .u32 si, .int .u32 gi, .int .u64 ch, .slice a os.length cap]) := AtB.below A0.out hb
  obtain ⟨x0, x1, x2, x3, x4, x5, x6, x7, x8, x9⟩ := AtB.ten A1.out
  have O1 : Hid (BS W1 b1 B.length B) := own_bs ho1 hbd.out (by omega)
  clear hb hb0 A0 ho1
  go_wp2_with fail
  rw [← hun]
  refine (rencode_yes op xid secs flags ci yi si gi ch a os.length cap os _ (HOS.out.below hb1) hx hci hyi hsi hgi hch HY.out).mono ?_
  rw [hun, HB.out]
  rintro e W2 ⟨b2, N2, c2, rfl, ho2, hb⟩
  have hb2 : Below w.heap.size w W2 := hb1.trans (hb.mono hb1.size)
  have hN2 : N2 = B.length := by have := own_len ho2; simpa using this
  subst hN2
  have A2 : Hid (AtB W2 w.heap.size #[.int .i64 op, .int .u32 xid, .int .i64 secs, .int .i64 flags, .int .u32 ci, .int .u32 yi, .int .u32 si, .int .u32 gi, .int .u64 ch, .slice a os.length cap]) := AtB.below A1.out hb
  have O2 : Hid (BS W2 b1 B.length B) := O1.out.below hb
  have R2 : Hid (BS W2 b2 B.length B) := own_bs ho2 hbd.out (by omega)
  clear hb hb1 x0 x1 x2 x3 x4 x5 x6 x7 x8 x9 A1 O1 ho2
  go_wp2_with fail
  refine (lives_any _).mono ?_
  rintro e W3 ⟨rfl, hb⟩
  have hb3 : Below w.heap.size w W3 := hb2.trans (hb.mono hb2.size)
  have A3 : Hid (AtB W3 w.heap.size #[.int .i64 op, .int .u32 xid, .int .i64 secs, .int .i64 flags, .int .u32 ci, .int .u32 yi, .int .u32 si, .int .u32 gi, .int .u64 ch, .slice a os.length cap]) := AtB.below A2.out hb
  have O3 : Hid (BS W3 b1 B.length B) := O2.out.below hb
  have cv1 : (convert 22 9 (.slice b1 B.length c1)).run Try.prog W3 = .ok (.string (strOfNums B)) W3 := run_conv_bs _ O3.out 22 9 5 Try.underlying22 Try.underlying5 Try.underlying9
  have cv2 : (convert 22 9 (.slice b2 B.length c2)).run Try.prog W3 = .ok (.string (strOfNums B)) W3 := run_conv_bs _ (R2.out.below hb) 22 9 5 Try.underlying22 Try.underlying5 Try.underlying9
  clear hb hb2 A2 O2 R2
  go_wp2_with (at_builtin; refine wpList_append_bs (by rfl) _ _ 22 rfl W3.heap.size 5 i0 Try.underlying22 hi hz0 hz1 hz2 _ 0 [] rfl (own_empty W3 _ (Nat.le_refl _)) b1 B.length c1 B rfl (O3.out.below (below1 W3 _)) (by omega) (by simp) ?_)
  intro a4 c4 W4 o4 g4
  have b4 : Below W3.heap.size W3 W4 := (below1 W3 _).grown g4 (by simp) (by rintro k ⟨⟩; exact Nat.le_refl _)
  have o5 : W4.ownsRow W3.heap.size 5 1 (.slice a4 B.length c4) B.length (B.map (Value.int .u8)) := by simpa using o4
  clear o4 g4 cv1 cv2
  go_wp2_with (at_builtin; refine wpList_append_bs (by rfl) _ _ 22 rfl W3.heap.size 5 i0 Try.underlying22 hi hz0 hz1 hz2 _ B.length B rfl o5 a2 n2 cap2 us rfl ((HU.out.below hb3).below b4) (by omega) b4.size ?_)
  intro a7 c7 W7 o7 g7
  have b7 : Below W3.heap.size W3 W7 := b4.grown g7 b4.size (fun k hk => (World.ownsRow.lt o5 k hk).1)
  rw [← List.map_append] at o7
  have O7 : Hid (BS W7 a7 (B.length + n2) (B ++ us)) := own_bs o7 (fits_append hbd.out HU.out.fits) (by omega)
  have hcc := own_caps o7
  have A7 : Hid (AtB W7 w.heap.size #[.int .i64 op, .int .u32 xid, .int .i64 secs, .int .i64 flags, .int .u32 ci, .int .u32 yi, .int .u32 si, .int .u32 gi, .int .u64 ch, .slice a os.length cap]) := AtB.below A3.out b7
  have hb7 : Below w.heap.size w W7 := hb3.trans (b7.mono hb3.size)
  clear o7 g7 b4 b7 A3 O3 hi hz0 hz1 hz2 hb3 o5
  rcases O7.out.cells with h00 | ⟨ab, ao, rfl, _⟩
  · omega
  go_wp2_with fail
  refine (decode_yes W7 ab ao _ c7 _ os O7.out hcc.1 hmsg.out hpar.out (by omega)).mono ?_
  rintro e W8 ⟨a8, c8, rfl, os8, hb⟩
  rw [hfix.out]
  have hb8 : Below w.heap.size w W8 := hb7.trans (hb.mono hb7.size)
  have A8 : Hid (AtB W8 w.heap.size #[.int .i64 op, .int .u32 xid, .int .i64 secs, .int .i64 flags, .int .u32 ci, .int .u32 yi, .int .u32 si, .int .u32 gi, .int .u64 ch, .slice a os.length cap]) := AtB.below A7.out hb
  have OS8 : Hid _ := os8
  clear hb hb7 A7 O7 hcc os8
  unfold dhcpV
  have bA := below1 W8 (.cells #[.int .i64 op, .int .u32 xid, .int .i64 secs, .int .i64 flags, .int .u32 ci, .int .u32 yi, .int .u32 si, .int .u32 gi, .int .u64 ch, .slice a8 os.length c8] 27)
  have hm8 : w.heap.size < W8.heap.size := A8.out.1
  obtain ⟨x0, x1, x2, x3, x4, x5, x6, x7, x8, x9⟩ := AtB.ten A8.out
  have BA : Hid _ := bA
  clear bA
  go_wp2_with fail
  refine (same_yes op xid secs flags ci yi si gi ch a8 a os.length c8 cap os _ (OS8.out.below BA.out) (HOS.out.below (hb8.alloc hb8.size _))).mono ?_
  rintro e W9 ⟨rfl, hb⟩
  go_wp2
  go_ret
  exact ⟨rfl, (hb8.alloc hb8.size _).trans (hb.mono (hb8.alloc hb8.size _).size)⟩

theorem dhcpEncodes_walk (w : World) (op xid secs flags ci yi si gi ch : Int) (a : Option Addr) (n cap : Nat) (os : List Opt) (hos : OS w a n os) (hx : 0 ≤ xid ∧ xid ≤ 4294967295) (hci : 0 ≤ ci ∧ ci ≤ 4294967295) (hyi : 0 ≤ yi ∧ yi ≤ 4294967295) (hsi : 0 ≤ si ∧ si ≤ 4294967295) (hgi : 0 ≤ gi ∧ gi ≤ 4294967295) (hch : 0 ≤ ch ∧ ch ≤ 18446744073709551615) (a2 : Option Addr) (n2 cap2 : Nat) (us : List Int) (hU : BS w a2 n2 us) (hc2 : n2 ≤ 1000000000) :
    Calls Try.prog 4 #[dhcpV op xid secs flags ci yi si gi ch (.slice a n cap), .slice a2 n2 cap2] w fun e w' => e = .returned (.bool true) ∧ Below w.heap.size w w' := by
  cases hy : (fixB op secs flags ch && optsB os) with
  | false => exact dhcpEncodes_no w op xid secs flags ci yi si gi ch a n cap os hos hx hci hyi hsi hgi hch a2 n2 cap2 hy
  | true => exact dhcpEncodes_yes w op xid secs flags ci yi si gi ch a n cap os hos hx hci hyi hsi hgi hch a2 n2 cap2 us hU hc2 hy

end Go.Proofs.Ytjoekmcogmfhjaa
