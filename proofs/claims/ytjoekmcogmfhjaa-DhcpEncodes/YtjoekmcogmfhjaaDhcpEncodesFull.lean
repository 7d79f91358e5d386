/- DhcpEncodes: the bytes of any message, and back, whatever stands behind; for every input, no condition. -/
import Derived.Test.YtjoekmcogmfhjaaWF
namespace Go.Proofs.Ytjoekmcogmfhjaa.W
open Go.ChangeShapes Go.WideShapes Go.ChangeAt Go.RowKit

set_option maxHeartbeats 800000 in
theorem dhcpEncodes_yes (w : World) (op xid secs flags ci yi si gi ch : Int) (a : Option Addr) (n cap : Nat) (os : List Opt) (hos : OS w a n os) (hx : 0 ≤ xid ∧ xid ≤ 4294967295) (hci : 0 ≤ ci ∧ ci ≤ 4294967295) (hyi : 0 ≤ yi ∧ yi ≤ 4294967295) (hsi : 0 ≤ si ∧ si ≤ 4294967295) (hgi : 0 ≤ gi ∧ gi ≤ 4294967295) (hch : 0 ≤ ch ∧ ch ≤ 18446744073709551615) (a2 : Option Addr) (n2 cap2 : Nat) (us : List Int) (hU0 : Go.Proofs.Ytjoekmcogmfhjaa.BS w a2 n2 us) (hc2 : n2 ≤ 140737488351232) (hy : (fixB op secs flags ch && optsB os) = true) :
    Calls Try.prog 4 #[dhcpV op xid secs flags ci yi si gi ch (.slice a n cap), .slice a2 n2 cap2] w fun e w' => e = .returned (.bool true) ∧ Below w.heap.size w w' := by
  have hnl := hos.len
  subst hnl
  obtain ⟨i0, hi, hz0, hz1, hz2⟩ := info_parts info5
  have hun : dhcpV op xid secs flags ci yi si gi ch (.slice a os.length cap) = .agg #[.int .i64 op, .int .u32 xid, .int .i64 secs, .int .i64 flags, .int .u32 ci, .int .u32 yi, .int .u32 si, .int .u32 gi, .int .u64 ch, .slice a os.length cap] := rfl
  have hall : os.all optB = true ∧ os.length ≤ 64 ∧ (op = 1 ∨ op = 2) ∧ (0 ≤ secs ∧ secs ≤ 65535) ∧ (0 ≤ flags ∧ flags ≤ 65535) ∧ ch ≤ 281474976710655 := by
    unfold fixB optsB at hy
    rw [fit16_eq, fit16_eq] at hy
    simp only [Bool.and_eq_true, Bool.or_eq_true, beq_iff_eq, decide_eq_true_eq] at hy
    exact ⟨hy.2.2, hy.2.1, hy.1.1, hy.1.2.1, hy.1.2.2.1, hy.1.2.2.2⟩
  obtain ⟨hao, hol, hop, hse, hfl, hcm⟩ := hall
  have hsplit : Hid (encBytes op xid secs flags ci yi si gi ch os ++ us = fixBytes op xid secs flags ci yi si gi ch ++ (optBytes os ++ 255 :: us)) := by
    show _ = _
    unfold encBytes
    simp only [List.append_assoc, List.cons_append, List.nil_append]
  have hmsg : Hid (isMsgB (encBytes op xid secs flags ci yi si gi ch os ++ us) = true) := by show _ = _; rw [hsplit.out]; exact wr_isMsg _ _ _ _ _ _ _ _ _ hop _
  have hpar : Hid (parseO ((encBytes op xid secs flags ci yi si gi ch os ++ us).drop 240) = some os) := by show _ = _; rw [hsplit.out, wr_drop]; exact parse_written os us hao
  have hfix : Hid (∀ s, fixV2 (encBytes op xid secs flags ci yi si gi ch os ++ us) s = dhcpV op xid secs flags ci yi si gi ch s) := by intro s; rw [hsplit.out]; exact wr_fields _ _ _ _ _ _ _ _ _ hop hx hse hfl hci hyi hsi hgi ⟨hch.1, hcm⟩ _ s
  have hbd : Hid _ := encBytes_fits op xid secs flags ci yi si gi ch os hao
  have hBl : (encBytes op xid secs flags ci yi si gi ch os).length ≤ 20000 ∧ 0 < (encBytes op xid secs flags ci yi si gi ch os).length := by
    have := optBytes_len hao
    unfold encBytes
    rw [List.length_append, List.length_append, fixBytes_len]
    simp only [List.length_cons, List.length_nil]
    omega
  have HU : Hid (BS w a2 n2 us) := toW hU0
  have HOS : Hid _ := hos
  have HY : Hid _ := hy
  clear hos hy hU0 hsplit
  generalize hB : encBytes op xid secs flags ci yi si gi ch os = B at *
  have HB : Hid _ := hB
  clear hB
  have A0 : Hid _ := atB_new w #[.int .i64 op, .int .u32 xid, .int .i64 secs, .int .i64 flags, .int .u32 ci, .int .u32 yi, .int .u32 si, .int .u32 gi, .int .u64 ch, .slice a os.length cap] 27 w.heap.size rfl
  have hb0 := below1 w (.cells #[.int .i64 op, .int .u32 xid, .int .i64 secs, .int .i64 flags, .int .u32 ci, .int .u32 yi, .int .u32 si, .int .u32 gi, .int .u64 ch, .slice a os.length cap] 27)
  rw [hun]
  go_enter Try.func4, Try.ntmps4
  go_wp2_with fail
  rw [← hun]
  refine (encode_yes op xid secs flags ci yi si gi ch a os.length cap os _ (HOS.out.below hb0) hx hci hyi hsi hgi hch HY.out).mono ?_
  rw [hun, HB.out]
  rintro e W1 ⟨b1, N1, c1, rfl, ho1, hb⟩
  have hb1 : Below w.heap.size w W1 := hb0.trans (hb.mono (by simp))
  have hN1 : N1 = B.length := by have := own_len ho1; simpa using this
  subst hN1
  have A1 : Hid (AtB W1 w.heap.size #[.int .i64 op, .int .u32 xid, .int .i64 secs, .int .i64 flags, .int .u32 ci, .int .u32 yi, .int .u32 si, .int .u32 gi, .int .u64 ch, .slice a os.length cap]) := AtB.below A0.out hb
  obtain ⟨x0, x1, x2, x3, x4, x5, x6, x7, x8, x9⟩ := AtB.ten A1.out
  have O1 : Hid (BS W1 b1 B.length B) := own_bs ho1 hbd.out (by omega)
  clear hb hb0 A0 ho1
  go_wp2_with fail
  rw [← hun]
  refine (rencode_yes op xid secs flags ci yi si gi ch a os.length cap os _ (HOS.out.below hb1) hx hci hyi hsi hgi hch HY.out).mono ?_
  rw [hun, HB.out]
  rintro e W2 ⟨b2, N2, c2, rfl, ho2, hb⟩
  have hb2 : Below w.heap.size w W2 := hb1.trans (hb.mono hb1.size)
  have hN2 : N2 = B.length := by have := own_len ho2; simpa using this
  subst hN2
  have A2 : Hid (AtB W2 w.heap.size #[.int .i64 op, .int .u32 xid, .int .i64 secs, .int .i64 flags, .int .u32 ci, .int .u32 yi, .int .u32 si, .int .u32 gi, .int .u64 ch, .slice a os.length cap]) := AtB.below A1.out hb
  have O2 : Hid (BS W2 b1 B.length B) := O1.out.below hb
  have R2 : Hid (BS W2 b2 B.length B) := own_bs ho2 hbd.out (by omega)
  clear hb hb1 x0 x1 x2 x3 x4 x5 x6 x7 x8 x9 A1 O1 ho2
  go_wp2_with fail
  refine (lives_any _).mono ?_
  rintro e W3 ⟨rfl, hb⟩
  have hb3 : Below w.heap.size w W3 := hb2.trans (hb.mono hb2.size)
  have A3 : Hid (AtB W3 w.heap.size #[.int .i64 op, .int .u32 xid, .int .i64 secs, .int .i64 flags, .int .u32 ci, .int .u32 yi, .int .u32 si, .int .u32 gi, .int .u64 ch, .slice a os.length cap]) := AtB.below A2.out hb
  have O3 : Hid (BS W3 b1 B.length B) := O2.out.below hb
  have cv1 : (convert 22 9 (.slice b1 B.length c1)).run Try.prog W3 = .ok (.string (strOfNums B)) W3 := run_conv_bs _ O3.out 22 9 5 Try.underlying22 Try.underlying5 Try.underlying9
  have cv2 : (convert 22 9 (.slice b2 B.length c2)).run Try.prog W3 = .ok (.string (strOfNums B)) W3 := run_conv_bs _ (R2.out.below hb) 22 9 5 Try.underlying22 Try.underlying5 Try.underlying9
  clear hb hb2 A2 O2 R2
  go_wp2_with (at_builtin; refine wpList_append_bsw (by rfl) _ _ 22 rfl W3.heap.size 5 i0 Try.underlying22 hi hz0 hz1 hz2 _ 0 [] rfl (own_empty W3 _ (Nat.le_refl _)) b1 B.length c1 B rfl (O3.out.below (below1 W3 _)) (by omega) (by simp) ?_)
  intro a4 c4 W4 o4 g4
  have b4 : Below W3.heap.size W3 W4 := (below1 W3 _).grown g4 (by simp) (by rintro k ⟨⟩; exact Nat.le_refl _)
  have o5 : W4.ownsRow W3.heap.size 5 1 (.slice a4 B.length c4) B.length (B.map (Value.int .u8)) := by simpa using o4
  clear o4 g4 cv1 cv2
  go_wp2_with (at_builtin; refine wpList_append_bsw (by rfl) _ _ 22 rfl W3.heap.size 5 i0 Try.underlying22 hi hz0 hz1 hz2 _ B.length B rfl o5 a2 n2 cap2 us rfl ((HU.out.below hb3).below b4) (by omega) b4.size ?_)
  intro a7 c7 W7 o7 g7
  have b7 : Below W3.heap.size W3 W7 := b4.grown g7 b4.size (fun k hk => (World.ownsRow.lt o5 k hk).1)
  rw [← List.map_append] at o7
  have O7 : Hid (BS W7 a7 (B.length + n2) (B ++ us)) := own_bs o7 (fits_append hbd.out HU.out.fits) (by omega)
  have hcc := own_caps o7
  have A7 : Hid (AtB W7 w.heap.size #[.int .i64 op, .int .u32 xid, .int .i64 secs, .int .i64 flags, .int .u32 ci, .int .u32 yi, .int .u32 si, .int .u32 gi, .int .u64 ch, .slice a os.length cap]) := AtB.below A3.out b7
  have hb7 : Below w.heap.size w W7 := hb3.trans (b7.mono hb3.size)
  clear o7 g7 b4 b7 A3 O3 hi hz0 hz1 hz2 hb3 o5
  rcases O7.out.cells with h00 | ⟨ab, ao, rfl, _⟩
  · omega
  go_wp2_with fail
  refine (decode_yes W7 ab ao _ c7 _ os O7.out hcc.1 hmsg.out hpar.out (by omega)).mono ?_
  rintro e W8 ⟨a8, c8, rfl, os8, hb⟩
  rw [hfix.out]
  have hb8 : Below w.heap.size w W8 := hb7.trans (hb.mono hb7.size)
  have A8 : Hid (AtB W8 w.heap.size #[.int .i64 op, .int .u32 xid, .int .i64 secs, .int .i64 flags, .int .u32 ci, .int .u32 yi, .int .u32 si, .int .u32 gi, .int .u64 ch, .slice a os.length cap]) := AtB.below A7.out hb
  have OS8 : Hid _ := os8
  clear hb hb7 A7 O7 hcc os8
  unfold dhcpV
  have bA := below1 W8 (.cells #[.int .i64 op, .int .u32 xid, .int .i64 secs, .int .i64 flags, .int .u32 ci, .int .u32 yi, .int .u32 si, .int .u32 gi, .int .u64 ch, .slice a8 os.length c8] 27)
  have hm8 : w.heap.size < W8.heap.size := A8.out.1
  obtain ⟨x0, x1, x2, x3, x4, x5, x6, x7, x8, x9⟩ := AtB.ten A8.out
  have BA : Hid _ := bA
  clear bA
  go_wp2_with fail
  refine (same_yes op xid secs flags ci yi si gi ch a8 a os.length c8 cap os _ (OS8.out.below BA.out) (HOS.out.below (hb8.alloc hb8.size _))).mono ?_
  rintro e W9 ⟨rfl, hb⟩
  go_wp2
  go_ret
  exact ⟨rfl, (hb8.alloc hb8.size _).trans (hb.mono (hb8.alloc hb8.size _).size)⟩


theorem dhcpEncodes_walk (w : World) (op xid secs flags ci yi si gi ch : Int) (a : Option Addr) (n cap : Nat) (os : List Opt) (hos : OS w a n os) (hx : 0 ≤ xid ∧ xid ≤ 4294967295) (hci : 0 ≤ ci ∧ ci ≤ 4294967295) (hyi : 0 ≤ yi ∧ yi ≤ 4294967295) (hsi : 0 ≤ si ∧ si ≤ 4294967295) (hgi : 0 ≤ gi ∧ gi ≤ 4294967295) (hch : 0 ≤ ch ∧ ch ≤ 18446744073709551615) (a2 : Option Addr) (n2 cap2 : Nat) (us : List Int) (hU : Go.Proofs.Ytjoekmcogmfhjaa.BS w a2 n2 us) (hc2 : n2 ≤ 140737488351232) :
    Calls Try.prog 4 #[dhcpV op xid secs flags ci yi si gi ch (.slice a n cap), .slice a2 n2 cap2] w fun e w' => e = .returned (.bool true) ∧ Below w.heap.size w w' := by
  cases hy : (fixB op secs flags ch && optsB os) with
  | false => exact dhcpEncodes_no w op xid secs flags ci yi si gi ch a n cap os hos hx hci hyi hsi hgi hch a2 n2 cap2 hy
  | true => exact dhcpEncodes_yes w op xid secs flags ci yi si gi ch a n cap os hos hx hci hyi hsi hgi hch a2 n2 cap2 us hU hc2 hy


set_option maxRecDepth 100000 in
theorem dhcpEncodes_lifted (os : Os) (started : os.Started) (H : Type) (enc : TypeId × Value → H) :
    ReturnsInHanded {} Try.checked os 4 .any (Rows.dhcpEncodesSpec.pre6 enc Try.prog Try.f4 Rows.dhcpEncodesRow.domain false) (Rows.dhcpEncodesSpec.post enc Try.prog Try.f4 false true false false) := by
  refine returnsInHanded_of_change_sized (C := Try.checked) own started (by kernel_rfl) Try.func4
    (ChangeSpec.witness6 (enc := enc) (C := Try.checked) false ⟨#[], #[.agg #[.int .i64 0, .int .u32 0, .int .i64 0, .int .i64 0, .int .u32 0, .int .u32 0, .int .u32 0, .int .u32 0, .int .u64 0, .slice none 0 0], .slice none 0 0], []⟩ 8 (by kernel_rfl) (by kernel_rfl) (by kernel_rfl) (by kernel_rfl)) ?_
  intro W base args ds gs before hval0 hW _ hsz0 _
  have hsz : (DataW.weightsEach Try.prog (Try.f4.params.toList ++ Rows.dhcpEncodesSpec.plain.varTypes Try.prog) (ds ++ gs)).all (· ≤ reachBytes) = true := hsz0
  clear hsz0
  have hval : ∀ (j : Nat) t v, Try.f4.params[j]? = some t → args[j]? = some v → Value.okWide Try.prog W .any base t v := hval0
  have hW' := hW
  obtain ⟨p, q, hA0, hV, rfl, _, _⟩ := hW
  have hA : DataW.TrodAll enc Try.prog W 0 (fun _ => true) true Try.f4.params.toList args.toList ds p := hA0
  rw [Try.params4] at hA hval hsz
  obtain ⟨v0, vs0, d0, ds0, p0, q0, hargs, rfl, rfl, h0, r0⟩ := trodAll_cons hA
  obtain ⟨v1, vs1, d1, ds1, p1, q1, rfl, rfl, rfl, h1, r1⟩ := trodAll_cons r0
  obtain ⟨rfl, rfl, rfl⟩ := trodAll_nil r1
  obtain rfl : args = #[v0, v1] := by cases args; simp_all
  obtain ⟨rfl, rfl⟩ := trodVars_none hV
  have k0 := h0
  have lt0 : ∀ x ∈ p0, x.block < W.heap.size := by obtain ⟨m, hm⟩ := k0; exact DataW.trod_lt m _ _ _ hm
  obtain ⟨op0, xid0, secs0, flags0, ci0, yi0, si0, gi0, ch0, a0, n0, cap0, os0, rfl, hos0, bx0, bci0, byi0, bsi0, bgi0, bch0⟩ := open_dhcp 0 (hval 0 27 v0 rfl rfl) h0 hsz rfl rfl
  obtain ⟨a1, len1, cap1, rfl⟩ := okWide_slice Try.underlying22 (hval 1 22 v1 rfl rfl)
  have k1 := h1
  have lt1 : ∀ x ∈ p1, x.block < W.heap.size := by obtain ⟨m, hm⟩ := k1; exact DataW.trod_lt m _ _ _ hm
  obtain ⟨z1, B1, C1, M1⟩ := open_bytes 1 h1 hsz rfl rfl
  have hl1 : len1 ≤ 140737488351232 := by omega
  clear hA0 hval0
  refine (dhcpEncodes_walk W op0 xid0 secs0 flags0 ci0 yi0 si0 gi0 ch0 a0 n0 cap0 os0 hos0 bx0 bci0 byi0 bsi0 bgi0 bch0 a1 len1 cap1 z1 B1 hl1).mono fun e W' ⟨he, bel⟩ => ?_
  subst he
  exact ⟨_, rfl, _, _, _, [], _, [], hW', trodAll_mk1 (shut_bool Try.underlying4 _), (trodAll_cons_mk (Below.trod laidOut (by kernel_rfl) (of_decide_eq_true (by kernel_rfl)) k0 bel lt0) (trodAll_cons_mk (Below.trod laidOut (by kernel_rfl) (of_decide_eq_true (by kernel_rfl)) k1 bel lt1) trodAll_mk0)), rfl, bel.frame _, fun h => by cases h⟩

theorem dhcpEncodes_proved : Rows.DhcpEncodesSaid :=
  OpenClaim.holds_of_wide 4 Try.f4 rfl rfl rfl rfl rfl rfl rfl ⟨rfl, rfl, rfl, rfl, rfl⟩ rfl rfl rfl rfl rfl (by kernel_rfl) Try.func4 (by kernel_rfl)
    (of_decide_eq_true (by kernel_rfl)) (by unfold Func.isWrapper; first | (rw [if_pos (by decide +kernel)]; kernel_rfl) | (rw [if_neg (by decide +kernel)]; exact ⟨rfl, rfl⟩))
    (fun os started H enc _ => dhcpEncodes_lifted os started H enc)
end Go.Proofs.Ytjoekmcogmfhjaa.W

namespace Go.Proofs.Ytjoekmcogmfhjaa
theorem dhcpEncodes_full : Rows.DhcpEncodesSaid := W.dhcpEncodes_proved
#print axioms dhcpEncodes_full
end Go.Proofs.Ytjoekmcogmfhjaa
