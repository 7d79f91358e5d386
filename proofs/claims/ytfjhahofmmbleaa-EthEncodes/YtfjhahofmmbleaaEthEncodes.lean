/- For every head and every slice of bytes the law EthEncodes returns true, and its arguments read as they did; no condition. -/
import Derived.Test.YtfjhahofmmbleaaArgs
namespace Go.Proofs.Ytfjhahofmmbleaa
open Go.ChangeShapes Go.WideShapes Go.ChangeAt Go.RowKit

theorem rencode_yes (d s : Int) (tg : Bool) (tag ty : Int) (w : World) (hd : 0 ≤ d) (hs : 0 ≤ s) (h : fitsB d s tg tag ty = true) :
    Calls Try.prog 12 #[.agg #[.int .u64 d, .int .u64 s, .bool tg, .int .i64 tag, .int .i64 ty]] w fun e w' => ∃ a cap, e = .returned (.tuple #[.slice a (headBytes d s tg tag ty).length cap, .int .i64 0]) ∧ BS w' a (headBytes d s tg tag ty).length (headBytes d s tg tag ty) ∧ Below w.heap.size w w' := by
  cases tg
  · exact rencode_plain d s tag ty w hd hs h
  · exact rencode_tagged d s tag ty w hd hs h

set_option maxHeartbeats 2000000 in
theorem ethEncodes_no (w : World) (d s : Int) (tg : Bool) (tag ty : Int) (a : Option Addr) (n cap : Nat) (hf : fitsB d s tg tag ty = false) :
    Calls Try.prog 4 #[.agg #[.int .u64 d, .int .u64 s, .bool tg, .int .i64 tag, .int .i64 ty], .slice a n cap] w fun e w' => e = .returned (.bool true) ∧ Below w.heap.size w w' := by
  have hnil : ∀ W, (convert 22 9 (.slice none 0 0)).run Try.prog W = .ok (.string ByteArray.empty) W := fun W => run_convert_bytes_nil W 22 5 Try.underlying22 Try.underlying5 0 0 9 Try.underlying9
  go_enter Try.func4, Try.ntmps4
  go_wp2_with fail
  refine (encodeHead_no d s tg tag ty _ hf).mono ?_
  rintro e W1 ⟨rfl, hb⟩
  have hb1 : Below w.heap.size w W1 := (below1 w _).trans (hb.mono (by simp))
  obtain ⟨x0, x1, x2, x3, x4⟩ := ((atB_new w #[.int .u64 d, .int .u64 s, .bool tg, .int .i64 tag, .int .i64 ty] 25 _ rfl).below hb).five
  clear hb
  go_wp2_with fail
  refine (rencode_no d s tg tag ty _ hf).mono ?_
  rintro e W2 ⟨rfl, hb⟩
  have hb2 : Below w.heap.size w W2 := hb1.trans (hb.mono hb1.size)
  clear hb hb1 x0 x1 x2 x3 x4
  go_wp2_with fail
  refine (lives_from hb2).mono ?_
  rintro e W3 ⟨rfl, hb3⟩
  clear hb2
  go_wp2
  go_ret
  exact ⟨rfl, hb3⟩

set_option maxHeartbeats 4000000 in
theorem ethEncodes_yes (w : World) (d s : Int) (tg : Bool) (tag ty : Int) (a : Option Addr) (n cap : Nat) (zs : List Int) (h : BS w a n zs) (hd : 0 ≤ d) (hs : 0 ≤ s) (hf : fitsB d s tg tag ty = true) :
    Calls Try.prog 4 #[.agg #[.int .u64 d, .int .u64 s, .bool tg, .int .i64 tag, .int .i64 ty], .slice a n cap] w fun e w' => e = .returned (.bool true) ∧ Below w.heap.size w w' := by
  obtain ⟨i0, hi, hz0, hz1, hz2⟩ := info_parts info5
  have Hf : Hid _ := hf
  have H : Hid (BS w a n zs) := h
  have hbl := headBytes_len d s tg tag ty
  have hbd : Hid _ := headBytes_bd d s tg tag ty
  have hback : Hid (n ≤ 9000 → headV (headBytes d s tg tag ty ++ zs) = ethV d s tg tag ty (headBytes d s tg tag ty).length 0) := fun hn => head_back d s tg tag ty zs hd hs hf (by rw [h.len]; exact hn)
  clear hf h
  generalize hB : headBytes d s tg tag ty = B at *
  have HB : Hid _ := hB
  clear hB
  by_cases hn : n ≤ 9000
  all_goals
    first
      | (have hnI : ¬ (9000 : Int) < n := by omega)
      | (have hnI : (9000 : Int) < n := by omega)
    go_enter Try.func4, Try.ntmps4
    go_wp2_with fail
    refine (encodeHead_yes d s tg tag ty _ hd hs Hf.out).mono ?_
    rw [HB.out]
    rintro e W1 ⟨a1, c1, rfl, ho1, hb⟩
    have hb1 : Below w.heap.size w W1 := (below1 w _).trans (hb.mono (by simp))
    have A1 : Hid (AtB W1 w.heap.size #[.int .u64 d, .int .u64 s, .bool tg, .int .i64 tag, .int .i64 ty]) := (atB_new w #[.int .u64 d, .int .u64 s, .bool tg, .int .i64 tag, .int .i64 ty] 25 _ rfl).below hb
    obtain ⟨x0, x1, x2, x3, x4⟩ := A1.out.five
    have O1 : Hid (BS W1 a1 B.length B) := own_bs ho1 hbd.out (by omega)
    clear hb ho1
    go_wp2_with fail
    refine (rencode_yes d s tg tag ty _ hd hs Hf.out).mono ?_
    rw [HB.out]
    rintro e W2 ⟨a2, c2, rfl, hbs2, hb⟩
    have hb2 : Below w.heap.size w W2 := hb1.trans (hb.mono hb1.size)
    have A2 : Hid (AtB W2 w.heap.size #[.int .u64 d, .int .u64 s, .bool tg, .int .i64 tag, .int .i64 ty]) := A1.out.below hb
    have O2 : Hid (BS W2 a1 B.length B) := O1.out.below hb
    have R2 : Hid (BS W2 a2 B.length B) := hbs2
    clear hb hb1 x0 x1 x2 x3 x4 A1 O1 hbs2
    go_wp2_with fail
    refine (lives_any _).mono ?_
    rintro e W3 ⟨rfl, hb⟩
    have hb3 : Below w.heap.size w W3 := hb2.trans (hb.mono hb2.size)
    have A3 : Hid (AtB W3 w.heap.size #[.int .u64 d, .int .u64 s, .bool tg, .int .i64 tag, .int .i64 ty]) := A2.out.below hb
    have O3 : Hid (BS W3 a1 B.length B) := O2.out.below hb
    have cv1 : (convert 22 9 (.slice a1 B.length c1)).run Try.prog W3 = .ok (.string (strOfNums B)) W3 := run_conv_bs _ O3.out 22 9 5 Try.underlying22 Try.underlying5 Try.underlying9
    have cv2 : (convert 22 9 (.slice a2 B.length c2)).run Try.prog W3 = .ok (.string (strOfNums B)) W3 := run_conv_bs _ (R2.out.below hb) 22 9 5 Try.underlying22 Try.underlying5 Try.underlying9
    clear hb hb2 A2 O2 R2
    skip
  · have Hv : Hid _ := hback.out hn
    clear hback
    go_wp2_with (first
      | (at_builtin; refine wpList_append_bs ?_ (.tmp 43) (.tmp 44) 22 ?_ W3.heap.size 5 i0 Try.underlying22 hi hz0 hz1 hz2 _ 0 [] ?_ (own_empty W3 _ (Nat.le_refl _)) a1 B.length c1 B ?_ (O3.out.below (below1 W3 _)) ?_ ?_ ?_; rfl; rfl; rfl; rfl; omega; simp; intro a4 c4 W4 o4 g4; have b4 : Below W3.heap.size W3 W4 := (below1 W3 _).grown g4 (by simp) (by rintro k ⟨⟩; exact Nat.le_refl _); have o5 : W4.ownsRow W3.heap.size 5 1 (.slice a4 B.length c4) B.length (B.map (Value.int .u8)) := by simpa using o4)
      | (at_builtin; refine wpList_append_bs ?_ (.tmp 45) (.tmp 46) 22 ?_ W3.heap.size 5 i0 Try.underlying22 hi hz0 hz1 hz2 _ B.length B ?_ o5 a n cap zs ?_ ((H.out.below hb3).below b4) ?_ b4.size ?_; rfl; rfl; rfl; rfl; omega; intro a5 c5 W5 o6 g6)
      | fail)
    have b5 : Below W3.heap.size W3 W5 := b4.grown g6 b4.size (fun k hk => (World.ownsRow.lt o5 k hk).1)
    have O6 : Hid (BS W5 a5 (B.length + n) (B ++ zs)) := own_bs o6 (fits_append hbd.out H.out.fits) (by omega)
    have hcc := own_caps o6
    have A5 : Hid (AtB W5 w.heap.size #[.int .u64 d, .int .u64 s, .bool tg, .int .i64 tag, .int .i64 ty]) := A3.out.below b5
    have hb5 : Below w.heap.size w W5 := hb3.trans (b5.mono hb3.size)
    clear o4 o5 o6 g4 g6 b4 b5 A3 O3 cv1 cv2 hi hz0 hz1 hz2 hb3
    refine (head_any c5 O6.out hcc.1 hcc.2).mono ?_
    rintro e W6 ⟨rfl, hb⟩
    rw [Hv.out]
    unfold ethV
    have hb6 : Below w.heap.size w W6 := hb5.trans (hb.mono hb5.size)
    have A6 : Hid (AtB W6 w.heap.size #[.int .u64 d, .int .u64 s, .bool tg, .int .i64 tag, .int .i64 ty]) := A5.out.below hb
    obtain ⟨x0, x1, x2, x3, x4⟩ := (A6.out.below (below1 W6 (.cells #[.int .u64 d, .int .u64 s, .bool tg, .int .i64 tag, .int .i64 ty] 25))).five
    clear hb hb5 A5 A6 O6 hcc
    go_wp2
    go_ret
    exact ⟨rfl, hb6.alloc hb6.size _⟩
  · go_wp2
    go_ret
    exact ⟨rfl, hb3⟩

theorem ethEncodes_walk (w : World) (d s : Int) (tg : Bool) (tag ty : Int) (hd : 0 ≤ d ∧ d ≤ 18446744073709551615) (hs : 0 ≤ s ∧ s ≤ 18446744073709551615) (a : Option Addr) (n cap : Nat) (zs : List Int) (h : BS w a n zs) (_hcap : n ≤ cap) (_hm : cap ≤ 140737488351232) :
    Calls Try.prog 4 #[.agg #[.int .u64 d, .int .u64 s, .bool tg, .int .i64 tag, .int .i64 ty], .slice a n cap] w fun e w' => e = .returned (.bool true) ∧ Below w.heap.size w w' := by
  cases hf : fitsB d s tg tag ty
  · exact ethEncodes_no w d s tg tag ty a n cap hf
  · exact ethEncodes_yes w d s tg tag ty a n cap zs h hd.1 hs.1 hf

set_option maxRecDepth 100000 in
theorem ethEncodes_lifted (os : Os) (started : os.Started) (H : Type) (enc : TypeId × Value → H) :
    ReturnsInHanded {} Try.checked os 4 .any (Rows.ethEncodesSpec.pre6 enc Try.prog Try.f4 Rows.ethEncodesRow.domain false) (Rows.ethEncodesSpec.post enc Try.prog Try.f4 false true false false) := by
  refine returnsInHanded_of_change_sized (C := Try.checked) own started (by kernel_rfl) Try.func4
    (ChangeSpec.witness6 (enc := enc) (C := Try.checked) false ⟨#[], #[.agg #[.int .u64 0, .int .u64 0, .bool false, .int .i64 0, .int .i64 0], .slice none 0 0], []⟩ 8 (by kernel_rfl) (by kernel_rfl) (by kernel_rfl) (by kernel_rfl)) ?_
  intro W base args ds gs before hval0 hW _ hsz0 _
  have hsz : (DataW.weightsEach Try.prog (Try.f4.params.toList ++ Rows.ethEncodesSpec.plain.varTypes Try.prog) (ds ++ gs)).all (· ≤ reachBytes) = true := hsz0
  clear hsz0
  have hval : ∀ (j : Nat) t v, Try.f4.params[j]? = some t → args[j]? = some v → Value.okWide Try.prog W .any base t v := hval0
  have hW' := hW
  obtain ⟨p, q, hA0, hV, rfl, _, _⟩ := hW
  have hA : DataW.TrodAll enc Try.prog W 0 (fun _ => true) true Try.f4.params.toList args.toList ds p := hA0
  rw [Try.params4] at hA hval hsz
  obtain ⟨v0, vs0, d0, ds0, p0, q0, hargs, rfl, rfl, h0, r0⟩ := trodAll_cons hA
  obtain ⟨v1, vs1, d1, ds1, p1, q1, rfl, rfl, rfl, h1, r1⟩ := trodAll_cons r0
  obtain ⟨rfl, rfl, rfl⟩ := trodAll_nil r1
  obtain rfl : args = #[v0, v1] := by cases args; simp_all
  obtain ⟨rfl, rfl⟩ := trodVars_none hV
  have k0 := h0
  have lt0 : ∀ x ∈ p0, x.block < W.heap.size := by obtain ⟨m, hm⟩ := k0; exact DataW.trod_lt m _ _ _ hm
  obtain ⟨d0x, s0x, t0x, g0x, y0x, rfl, bd0, bs0⟩ := open_eth (hval 0 25 v0 rfl rfl) h0
  obtain ⟨a1, len1, cap1, rfl⟩ := okWide_slice Try.underlying22 (hval 1 22 v1 rfl rfl)
  have k1 := h1
  have lt1 : ∀ x ∈ p1, x.block < W.heap.size := by obtain ⟨m, hm⟩ := k1; exact DataW.trod_lt m _ _ _ hm
  obtain ⟨z1, B1, C1, M1⟩ := open_bytes 1 h1 hsz rfl rfl
  clear hA0 hval0
  refine (ethEncodes_walk W d0x s0x t0x g0x y0x bd0 bs0 a1 len1 cap1 z1 B1 C1 M1).mono fun e W' ⟨he, bel⟩ => ?_
  subst he
  exact ⟨_, rfl, _, _, _, [], _, [], hW', trodAll_mk1 (shut_bool Try.underlying4 _), (trodAll_cons_mk (Below.trod laidOut (by kernel_rfl) (of_decide_eq_true (by kernel_rfl)) k0 bel lt0) (trodAll_cons_mk (Below.trod laidOut (by kernel_rfl) (of_decide_eq_true (by kernel_rfl)) k1 bel lt1) trodAll_mk0)), rfl, bel.frame _, fun h => by cases h⟩

theorem ethEncodes_proved : Rows.EthEncodesSaid :=
  OpenClaim.holds_of_wide 4 Try.f4 rfl rfl rfl rfl rfl rfl rfl ⟨rfl, rfl, rfl, rfl, rfl⟩ rfl rfl rfl rfl rfl (by kernel_rfl) Try.func4 (by kernel_rfl)
    (of_decide_eq_true (by kernel_rfl)) (by unfold Func.isWrapper; first | (rw [if_pos (by decide +kernel)]; kernel_rfl) | (rw [if_neg (by decide +kernel)]; exact ⟨rfl, rfl⟩))
    (fun os started H enc _ => ethEncodes_lifted os started H enc)
#print axioms ethEncodes_proved
end Go.Proofs.Ytfjhahofmmbleaa
