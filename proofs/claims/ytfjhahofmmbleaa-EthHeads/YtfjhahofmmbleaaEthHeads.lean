/- For every slice of bytes the law EthHeads returns true, and the bytes read as they did; no condition. -/
import Derived.Test.YtfjhahofmmbleaaLawBase
namespace Go.Proofs.Ytfjhahofmmbleaa
open Go.ChangeShapes Go.WideShapes Go.ChangeAt Go.RowKit
set_option maxHeartbeats 2000000 in
theorem ethHeads_walk (w : World) (a : Option Addr) (n cap : Nat) (zs : List Int) (h : BS w a n zs) (hcap : n ≤ cap) (hm : cap ≤ 140737488351232) :
    Calls Try.prog 3 #[.slice a n cap] w fun e w' => e = .returned (.bool true) ∧ Below w.heap.size w w' := by
  obtain ⟨i0, hi, hz0, hz1, hz2⟩ := info_parts info5
  have H : Hid (BS w a n zs) := h
  clear h
  go_enter Try.func3, Try.ntmps3
  go_wp2_with (at_builtin; refine wpList_append_bs (by rfl) _ _ 22 rfl w.heap.size 5 i0 Try.underlying22 hi hz0 hz1 hz2 _ 0 [] rfl (own_empty w _ (Nat.le_refl _)) a n cap zs rfl (H.out.below ((Below.refl _ _).alloc (Nat.le_refl _) _)) (by omega) (by simp) ?_)
  intro a' cap' w1 hown hgrow
  have hb1 : Below w.heap.size w w1 := ((Below.refl _ _).alloc (Nat.le_refl _) _).grown hgrow (by simp) (by rintro k ⟨⟩; exact Nat.le_refl _)
  have H1 : Hid (BS w1 a' n zs) := own_bs (by simpa using hown) H.out.fits (by omega)
  have hcc := own_caps hown
  clear hown hgrow hi hz0 hz1 hz2
  rcases head_cases zs H.out.fits with ⟨er, her, hv⟩ | ⟨d, s, tg, tag, ty, m, hv, hfit, hd, hs, hbytes, hmz⟩
  · have Hv : Hid _ := hv
    clear hv
    go_wp2_with fail
    refine (head_any cap' H1.out hcc.1 hcc.2).mono ?_
    rintro e W1 ⟨rfl, hb⟩
    rw [Hv.out]
    unfold ethV
    have hb2 : Below w.heap.size w W1 := hb1.trans (hb.mono hb1.size)
    have H2 : Hid (BS W1 a' n zs) := H1.out.below hb
    clear hb hb1 H1
    go_wp2_with fail
    refine (rhead_any cap ((H.out.below hb2).below (below1 W1 _)) hcap (by omega)).mono ?_
    rintro e W2 ⟨rfl, hb⟩
    rw [Hv.out]
    unfold ethV
    have hb3 : Below w.heap.size w W2 := (hb2.alloc hb2.size _).trans (hb.mono (by have := hb2.size; simp; omega))
    have H3 : Hid (BS W2 a' n zs) := (H2.out.below (below1 W1 _)).below hb
    have A1 : Hid (AtB W2 W1.heap.size #[.int .u64 0, .int .u64 0, .bool false, .int .i64 0, .int .i64 0]) := (atB_new W1 #[.int .u64 0, .int .u64 0, .bool false, .int .i64 0, .int .i64 0] 25 _ rfl).below hb
    clear hb hb2 H2
    go_wp2_with fail
    refine (lives_any _).mono ?_
    rintro e W3 ⟨rfl, hb⟩
    have hb4 : Below w.heap.size w W3 := (hb3.alloc hb3.size _).trans (hb.mono (by have := hb3.size; simp; omega))
    have A2 := (atB_new W2 #[.int .u64 0, .int .u64 0, .bool false, .int .i64 0, .int .i64 0] 25 _ rfl).below hb
    have A3 := (A1.out.below (below1 W2 _)).below hb
    obtain ⟨y0, y1, y2, y3, y4⟩ := A2.five
    obtain ⟨x0, x1, x2, x3, x4⟩ := A3.five
    have cv1 : (convert 22 9 (.slice a n cap)).run Try.prog W3 = .ok (.string (strOfNums zs)) W3 := run_conv_bs _ (H.out.below hb4) 22 9 5 Try.underlying22 Try.underlying5 Try.underlying9
    have cv2 : (convert 22 9 (.slice a' n cap')).run Try.prog W3 = .ok (.string (strOfNums zs)) W3 := run_conv_bs _ ((H3.out.below (below1 W2 _)).below hb) 22 9 5 Try.underlying22 Try.underlying5 Try.underlying9
    clear A1 A2 A3 hb hb3 H3
    rcases her with rfl | rfl | rfl
    all_goals
      go_wp2
      go_ret
      exact ⟨rfl, hb4⟩
  · have Hv : Hid _ := hv
    have Hf : Hid _ := hfit
    have Hy : Hid _ := hbytes
    clear hv hfit hbytes
    go_wp2_with fail
    refine (head_any cap' H1.out hcc.1 hcc.2).mono ?_
    rintro e W1 ⟨rfl, hb⟩
    rw [Hv.out]
    unfold ethV
    have hb2 : Below w.heap.size w W1 := hb1.trans (hb.mono hb1.size)
    have H2 : Hid (BS W1 a' n zs) := H1.out.below hb
    clear hb hb1 H1
    go_wp2_with fail
    refine (rhead_any cap ((H.out.below hb2).below (below1 W1 _)) hcap (by omega)).mono ?_
    rintro e W2 ⟨rfl, hb⟩
    rw [Hv.out]
    unfold ethV
    have hb3 : Below w.heap.size w W2 := (hb2.alloc hb2.size _).trans (hb.mono (by have := hb2.size; simp; omega))
    have H3 : Hid (BS W2 a' n zs) := (H2.out.below (below1 W1 _)).below hb
    have A1 : Hid (AtB W2 W1.heap.size #[.int .u64 d, .int .u64 s, .bool tg, .int .i64 tag, .int .i64 ty]) := (atB_new W1 #[.int .u64 d, .int .u64 s, .bool tg, .int .i64 tag, .int .i64 ty] 25 _ rfl).below hb
    clear hb hb2 H2
    go_wp2_with fail
    refine (lives_any _).mono ?_
    rintro e W3 ⟨rfl, hb⟩
    have hb4 : Below w.heap.size w W3 := (hb3.alloc hb3.size _).trans (hb.mono (by have := hb3.size; simp; omega))
    have A2 := (atB_new W2 #[.int .u64 d, .int .u64 s, .bool tg, .int .i64 tag, .int .i64 ty] 25 _ rfl).below hb
    have A3 := (A1.out.below (below1 W2 _)).below hb
    obtain ⟨y0, y1, y2, y3, y4⟩ := A2.five
    obtain ⟨x0, x1, x2, x3, x4⟩ := A3.five
    have cv1 : (convert 22 9 (.slice a n cap)).run Try.prog W3 = .ok (.string (strOfNums zs)) W3 := run_conv_bs _ (H.out.below hb4) 22 9 5 Try.underlying22 Try.underlying5 Try.underlying9
    have cv2 : (convert 22 9 (.slice a' n cap')).run Try.prog W3 = .ok (.string (strOfNums zs)) W3 := run_conv_bs _ ((H3.out.below (below1 W2 _)).below hb) 22 9 5 Try.underlying22 Try.underlying5 Try.underlying9
    clear A1 A2 A3 hb hb3 H3
    go_wp2_with fail
    refine (encodeHead_yes d s tg tag ty _ hd hs Hf.out).mono ?_
    rintro e W4 ⟨a4, c4, rfl, ho4, hb⟩
    have hb5 : Below w.heap.size w W4 := hb4.trans (hb.mono hb4.size)
    have hl : Hid ((headBytes d s tg tag ty).length = m) := by
      show _ = _
      rw [Hy.out]; simp; have := H.out.len; omega
    have cv3 : ∀ nq, (convert 22 9 (.slice a4 (headBytes d s tg tag ty).length c4)).run Try.prog (W4.drewN nq) = .ok (.string (strOfNums (zs.take m))) (W4.drewN nq) := fun nq => by
      have hq := run_conv_bs (P := Try.prog) c4 ((own_bs ho4 (headBytes_bd _ _ _ _ _) (by have := headBytes_len d s tg tag ty; omega)).drewN nq) 22 9 5 Try.underlying22 Try.underlying5 Try.underlying9
      rw [← Hy.out]; exact hq
    have cv4 : ∀ nq, (convert 22 9 (.slice a m cap)).run Try.prog (W4.drewN nq) = .ok (.string (strOfNums (zs.take m))) (W4.drewN nq) := fun nq =>
      run_conv_bs _ (((H.out.below hb5).take m (by have := H.out.len; omega)).drewN nq) 22 9 5 Try.underlying22 Try.underlying5 Try.underlying9
    have hmc : (m : Int) ≤ cap := by have := H.out.len; omega
    have hm0 : (0 : Int) ≤ m := by omega
    clear x0 x1 x2 x3 x4 y0 y1 y2 y3 y4 cv1 cv2 hb hb4 ho4
    go_wp2
    go_quiet (fail)
    go_wp2
    go_ret
    exact ⟨rfl, below_drewN hb5 _⟩

set_option maxRecDepth 100000 in
theorem ethHeads_lifted (os : Os) (started : os.Started) (H : Type) (enc : TypeId × Value → H) :
    ReturnsInHanded {} Try.checked os 3 .any (Rows.ethHeadsSpec.pre6 enc Try.prog Try.f3 Rows.ethHeadsRow.domain false) (Rows.ethHeadsSpec.post enc Try.prog Try.f3 false true false false) := by
  refine returnsInHanded_of_change_sized (C := Try.checked) own started (by kernel_rfl) Try.func3
    (ChangeSpec.witness6 (enc := enc) (C := Try.checked) false ⟨#[], #[.slice none 0 0], []⟩ 8 (by kernel_rfl) (by kernel_rfl) (by kernel_rfl) (by kernel_rfl)) ?_
  intro W base args ds gs before hval0 hW _ hsz0 _
  have hsz : (DataW.weightsEach Try.prog (Try.f3.params.toList ++ Rows.ethHeadsSpec.plain.varTypes Try.prog) (ds ++ gs)).all (· ≤ reachBytes) = true := hsz0
  clear hsz0
  have hval : ∀ (j : Nat) t v, Try.f3.params[j]? = some t → args[j]? = some v → Value.okWide Try.prog W .any base t v := hval0
  have hW' := hW
  obtain ⟨p, q, hA0, hV, rfl, _, _⟩ := hW
  have hA : DataW.TrodAll enc Try.prog W 0 (fun _ => true) true Try.f3.params.toList args.toList ds p := hA0
  rw [Try.params3] at hA hval hsz
  obtain ⟨v0, vs0, d0, ds0, p0, q0, hargs, rfl, rfl, h0, r0⟩ := trodAll_cons hA
  obtain ⟨rfl, rfl, rfl⟩ := trodAll_nil r0
  obtain rfl : args = #[v0] := by cases args; simp_all
  obtain ⟨rfl, rfl⟩ := trodVars_none hV
  obtain ⟨a0, len0, cap0, rfl⟩ := okWide_slice Try.underlying22 (hval 0 22 v0 rfl rfl)
  have k0 := h0
  have lt0 : ∀ x ∈ p0, x.block < W.heap.size := by obtain ⟨m, hm⟩ := k0; exact DataW.trod_lt m _ _ _ hm
  obtain ⟨z0, B0, C0, M0⟩ := open_bytes 0 h0 hsz rfl rfl
  clear hA0 hval0
  refine (ethHeads_walk W a0 len0 cap0 z0 B0 C0 M0).mono fun e W' ⟨he, bel⟩ => ?_
  subst he
  exact ⟨_, rfl, _, _, _, [], _, [], hW', trodAll_mk1 (shut_bool Try.underlying4 _), (trodAll_cons_mk (Below.trod laidOut (by kernel_rfl) (of_decide_eq_true (by kernel_rfl)) k0 bel lt0) trodAll_mk0), rfl, bel.frame _, fun h => by cases h⟩

theorem ethHeads_proved : Rows.EthHeadsSaid :=
  OpenClaim.holds_of_wide 3 Try.f3 rfl rfl rfl rfl rfl rfl rfl ⟨rfl, rfl, rfl, rfl, rfl⟩ rfl rfl rfl rfl rfl (by kernel_rfl) Try.func3 (by kernel_rfl)
    (of_decide_eq_true (by kernel_rfl)) (by unfold Func.isWrapper; first | (rw [if_pos (by decide +kernel)]; kernel_rfl) | (rw [if_neg (by decide +kernel)]; exact ⟨rfl, rfl⟩))
    (fun os started H enc _ => ethHeads_lifted os started H enc)
#print axioms ethHeads_proved
end Go.Proofs.Ytfjhahofmmbleaa
