/- For every ARP packet and every slice of bytes the law EthArpBytes returns true, and its arguments read as they did; no condition. -/
import Derived.Test.YtfjhahofmmbleaaArpMath
namespace Go.Proofs.Ytfjhahofmmbleaa
open Go.ChangeShapes Go.WideShapes Go.ChangeAt Go.RowKit

set_option maxHeartbeats 2000000 in
theorem ethArpBytes_no (w : World) (op sha spa tha tpa : Int) (a : Option Addr) (n cap : Nat) (hf : arpFits op sha tha = false) :
    Calls Try.prog 6 #[.agg #[.int .i64 op, .int .u64 sha, .int .u32 spa, .int .u64 tha, .int .u32 tpa], .slice a n cap] w fun e w' => e = .returned (.bool true) ∧ Below w.heap.size w w' := by
  have hnil : ∀ W, (convert 22 9 (.slice none 0 0)).run Try.prog W = .ok (.string ByteArray.empty) W := fun W => run_convert_bytes_nil W 22 5 Try.underlying22 Try.underlying5 0 0 9 Try.underlying9
  go_enter Try.func6, Try.ntmps6
  go_wp2_with fail
  refine (encodeArp_no op sha spa tha tpa _ hf).mono ?_
  rintro e W1 ⟨rfl, hb⟩
  have hb1 : Below w.heap.size w W1 := (below1 w _).trans (hb.mono (by simp))
  obtain ⟨x0, x1, x2, x3, x4⟩ := ((atB_new w #[.int .i64 op, .int .u64 sha, .int .u32 spa, .int .u64 tha, .int .u32 tpa] 36 _ rfl).below hb).five
  clear hb
  go_wp2_with fail
  refine (rencodeArp_no op sha spa tha tpa _ hf).mono ?_
  rintro e W2 ⟨rfl, hb⟩
  have hb2 : Below w.heap.size w W2 := hb1.trans (hb.mono hb1.size)
  clear hb hb1 x0 x1 x2 x3 x4
  go_wp2_with fail
  refine (lives_from hb2).mono ?_
  rintro e W3 ⟨rfl, hb3⟩
  clear hb2
  go_wp2
  go_ret
  exact ⟨rfl, hb3⟩

set_option maxHeartbeats 4000000 in
theorem ethArpBytes_yes (w : World) (op sha spa tha tpa : Int) (a : Option Addr) (n cap : Nat) (zs : List Int) (h : BS w a n zs) (hroom : n ≤ 140737488351232) (h1 : 0 ≤ sha) (h2 : 0 ≤ spa ∧ spa ≤ 4294967295) (h3 : 0 ≤ tha) (h4 : 0 ≤ tpa ∧ tpa ≤ 4294967295) (hf : arpFits op sha tha = true) :
    Calls Try.prog 6 #[.agg #[.int .i64 op, .int .u64 sha, .int .u32 spa, .int .u64 tha, .int .u32 tpa], .slice a n cap] w fun e w' => e = .returned (.bool true) ∧ Below w.heap.size w w' := by
  obtain ⟨i0, hi, hz0, hz1, hz2⟩ := info_parts info5
  have Hf : Hid _ := hf
  have H : Hid (BS w a n zs) := h
  have hbd : Hid _ := arpBytes_bd op sha spa tha tpa
  have Hv : Hid _ := arp_back op sha spa tha tpa zs h1 h2 h3 h4 hf
  clear hf h
  generalize hB : arpBytes op sha spa tha tpa = B at *
  have HB : Hid _ := hB
  clear hB
  go_enter Try.func6, Try.ntmps6
  go_wp2_with fail
  refine (encodeArp_yes op sha spa tha tpa _ h1 h2 h3 h4 Hf.out).mono ?_
  rw [HB.out]
  rintro e W1 ⟨a1, c1, rfl, ho1, hb⟩
  have hb1 : Below w.heap.size w W1 := (below1 w _).trans (hb.mono (by simp))
  have A1 : Hid (AtB W1 w.heap.size #[.int .i64 op, .int .u64 sha, .int .u32 spa, .int .u64 tha, .int .u32 tpa]) := (atB_new w #[.int .i64 op, .int .u64 sha, .int .u32 spa, .int .u64 tha, .int .u32 tpa] 36 _ rfl).below hb
  obtain ⟨x0, x1, x2, x3, x4⟩ := A1.out.five
  have O1 : Hid (BS W1 a1 28 B) := own_bs ho1 hbd.out (by omega)
  clear hb ho1
  go_wp2_with fail
  refine (rencodeArp_yes op sha spa tha tpa _ h1 h2 h3 h4 Hf.out).mono ?_
  rw [HB.out]
  rintro e W2 ⟨a2, c2, rfl, hbs2, hb⟩
  have hb2 : Below w.heap.size w W2 := hb1.trans (hb.mono hb1.size)
  have A2 : Hid (AtB W2 w.heap.size #[.int .i64 op, .int .u64 sha, .int .u32 spa, .int .u64 tha, .int .u32 tpa]) := A1.out.below hb
  have O2 : Hid (BS W2 a1 28 B) := O1.out.below hb
  have R2 : Hid (BS W2 a2 28 B) := hbs2
  clear hb hb1 x0 x1 x2 x3 x4 A1 O1 hbs2
  go_wp2_with fail
  refine (lives_any _).mono ?_
  rintro e W3 ⟨rfl, hb⟩
  have hb3 : Below w.heap.size w W3 := hb2.trans (hb.mono hb2.size)
  have A3 : Hid (AtB W3 w.heap.size #[.int .i64 op, .int .u64 sha, .int .u32 spa, .int .u64 tha, .int .u32 tpa]) := A2.out.below hb
  have O3 : Hid (BS W3 a1 28 B) := O2.out.below hb
  have cv1 : (convert 22 9 (.slice a1 28 c1)).run Try.prog W3 = .ok (.string (strOfNums B)) W3 := run_conv_bs _ O3.out 22 9 5 Try.underlying22 Try.underlying5 Try.underlying9
  have cv2 : (convert 22 9 (.slice a2 28 c2)).run Try.prog W3 = .ok (.string (strOfNums B)) W3 := run_conv_bs _ (R2.out.below hb) 22 9 5 Try.underlying22 Try.underlying5 Try.underlying9
  clear hb hb2 A2 O2 R2
  go_wp2_with (first
    | (at_builtin; refine wpList_append_bs ?_ (.tmp 37) (.tmp 38) 22 ?_ W3.heap.size 5 i0 Try.underlying22 hi hz0 hz1 hz2 _ 0 [] ?_ (own_empty W3 _ (Nat.le_refl _)) a1 28 c1 B ?_ (O3.out.below (below1 W3 _)) ?_ ?_ ?_; rfl; rfl; rfl; rfl; omega; simp; intro a4 c4 W4 o4 g4; have b4 : Below W3.heap.size W3 W4 := (below1 W3 _).grown g4 (by simp) (by rintro k ⟨⟩; exact Nat.le_refl _); have o5 : W4.ownsRow W3.heap.size 5 1 (.slice a4 28 c4) 28 (B.map (Value.int .u8)) := by simpa using o4)
    | (at_builtin; refine wpList_append_bs ?_ (.tmp 39) (.tmp 40) 22 ?_ W3.heap.size 5 i0 Try.underlying22 hi hz0 hz1 hz2 _ 28 B ?_ o5 a n cap zs ?_ ((H.out.below hb3).below b4) ?_ b4.size ?_; rfl; rfl; rfl; rfl; omega; intro a5 c5 W5 o6 g6)
    | fail)
  have b5 : Below W3.heap.size W3 W5 := b4.grown g6 b4.size (fun k hk => (World.ownsRow.lt o5 k hk).1)
  have O6 : Hid (BS W5 a5 (28 + n) (B ++ zs)) := own_bs o6 (fits_append hbd.out H.out.fits) (by omega)
  have hcc := own_caps o6
  have A5 : Hid (AtB W5 w.heap.size #[.int .i64 op, .int .u64 sha, .int .u32 spa, .int .u64 tha, .int .u32 tpa]) := A3.out.below b5
  have hb5 : Below w.heap.size w W5 := hb3.trans (b5.mono hb3.size)
  clear o4 o5 o6 g4 g6 b4 b5 A3 O3 cv1 cv2 hi hz0 hz1 hz2 hb3
  refine (arp_any c5 O6.out hcc.1 hcc.2).mono ?_
  rintro e W6 ⟨rfl, hb⟩
  rw [Hv.out]
  unfold arpV
  have hb6 : Below w.heap.size w W6 := hb5.trans (hb.mono hb5.size)
  have A6 : Hid (AtB W6 w.heap.size #[.int .i64 op, .int .u64 sha, .int .u32 spa, .int .u64 tha, .int .u32 tpa]) := A5.out.below hb
  obtain ⟨x0, x1, x2, x3, x4⟩ := (A6.out.below (below1 W6 (.cells #[.int .i64 op, .int .u64 sha, .int .u32 spa, .int .u64 tha, .int .u32 tpa] 36))).five
  clear hb hb5 A5 A6 O6 hcc
  go_wp2
  go_ret
  exact ⟨rfl, hb6.alloc hb6.size _⟩

theorem ethArpBytes_walk (w : World) (op sha spa tha tpa : Int) (h1 : 0 ≤ sha ∧ sha ≤ 18446744073709551615) (h2 : 0 ≤ spa ∧ spa ≤ 4294967295) (h3 : 0 ≤ tha ∧ tha ≤ 18446744073709551615) (h4 : 0 ≤ tpa ∧ tpa ≤ 4294967295) (a : Option Addr) (n cap : Nat) (zs : List Int) (h : BS w a n zs) (hcap : n ≤ cap) (hm : cap ≤ 140737488351232) :
    Calls Try.prog 6 #[.agg #[.int .i64 op, .int .u64 sha, .int .u32 spa, .int .u64 tha, .int .u32 tpa], .slice a n cap] w fun e w' => e = .returned (.bool true) ∧ Below w.heap.size w w' := by
  cases hf : arpFits op sha tha
  · exact ethArpBytes_no w op sha spa tha tpa a n cap hf
  · exact ethArpBytes_yes w op sha spa tha tpa a n cap zs h (by omega) h1.1 h2 h3.1 h4 hf

set_option maxRecDepth 100000 in
theorem ethArpBytes_lifted (os : Os) (started : os.Started) (H : Type) (enc : TypeId × Value → H) :
    ReturnsInHanded {} Try.checked os 6 .any (Rows.ethArpBytesSpec.pre6 enc Try.prog Try.f6 Rows.ethArpBytesRow.domain false) (Rows.ethArpBytesSpec.post enc Try.prog Try.f6 false true false false) := by
  refine returnsInHanded_of_change_sized (C := Try.checked) own started (by kernel_rfl) Try.func6
    (ChangeSpec.witness6 (enc := enc) (C := Try.checked) false ⟨#[], #[.agg #[.int .i64 0, .int .u64 0, .int .u32 0, .int .u64 0, .int .u32 0], .slice none 0 0], []⟩ 8 (by kernel_rfl) (by kernel_rfl) (by kernel_rfl) (by kernel_rfl)) ?_
  intro W base args ds gs before hval0 hW _ hsz0 _
  have hsz : (DataW.weightsEach Try.prog (Try.f6.params.toList ++ Rows.ethArpBytesSpec.plain.varTypes Try.prog) (ds ++ gs)).all (· ≤ reachBytes) = true := hsz0
  clear hsz0
  have hval : ∀ (j : Nat) t v, Try.f6.params[j]? = some t → args[j]? = some v → Value.okWide Try.prog W .any base t v := hval0
  have hW' := hW
  obtain ⟨p, q, hA0, hV, rfl, _, _⟩ := hW
  have hA : DataW.TrodAll enc Try.prog W 0 (fun _ => true) true Try.f6.params.toList args.toList ds p := hA0
  rw [Try.params6] at hA hval hsz
  obtain ⟨v0, vs0, d0, ds0, p0, q0, hargs, rfl, rfl, h0, r0⟩ := trodAll_cons hA
  obtain ⟨v1, vs1, d1, ds1, p1, q1, rfl, rfl, rfl, h1, r1⟩ := trodAll_cons r0
  obtain ⟨rfl, rfl, rfl⟩ := trodAll_nil r1
  obtain rfl : args = #[v0, v1] := by cases args; simp_all
  obtain ⟨rfl, rfl⟩ := trodVars_none hV
  have k0 := h0
  have lt0 : ∀ x ∈ p0, x.block < W.heap.size := by obtain ⟨m, hm⟩ := k0; exact DataW.trod_lt m _ _ _ hm
  obtain ⟨o0x, s0x, i0x, t0x, j0x, rfl, bs0, bi0, bt0, bj0⟩ := open_arp (hval 0 36 v0 rfl rfl) h0
  obtain ⟨a1, len1, cap1, rfl⟩ := okWide_slice Try.underlying22 (hval 1 22 v1 rfl rfl)
  have k1 := h1
  have lt1 : ∀ x ∈ p1, x.block < W.heap.size := by obtain ⟨m, hm⟩ := k1; exact DataW.trod_lt m _ _ _ hm
  obtain ⟨z1, B1, C1, M1⟩ := open_bytes 1 h1 hsz rfl rfl
  clear hA0 hval0
  refine (ethArpBytes_walk W o0x s0x i0x t0x j0x bs0 bi0 bt0 bj0 a1 len1 cap1 z1 B1 C1 M1).mono fun e W' ⟨he, bel⟩ => ?_
  subst he
  exact ⟨_, rfl, _, _, _, [], _, [], hW', trodAll_mk1 (shut_bool Try.underlying4 _), (trodAll_cons_mk (Below.trod laidOut (by kernel_rfl) (of_decide_eq_true (by kernel_rfl)) k0 bel lt0) (trodAll_cons_mk (Below.trod laidOut (by kernel_rfl) (of_decide_eq_true (by kernel_rfl)) k1 bel lt1) trodAll_mk0)), rfl, bel.frame _, fun h => by cases h⟩

theorem ethArpBytes_proved : Rows.EthArpBytesSaid :=
  OpenClaim.holds_of_wide 6 Try.f6 rfl rfl rfl rfl rfl rfl rfl ⟨rfl, rfl, rfl, rfl, rfl⟩ rfl rfl rfl rfl rfl (by kernel_rfl) Try.func6 (by kernel_rfl)
    (of_decide_eq_true (by kernel_rfl)) (by unfold Func.isWrapper; first | (rw [if_pos (by decide +kernel)]; kernel_rfl) | (rw [if_neg (by decide +kernel)]; exact ⟨rfl, rfl⟩))
    (fun os started H enc _ => ethArpBytes_lifted os started H enc)
#print axioms ethArpBytes_proved
end Go.Proofs.Ytfjhahofmmbleaa
