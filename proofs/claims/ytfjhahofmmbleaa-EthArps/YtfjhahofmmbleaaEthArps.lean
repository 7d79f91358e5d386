/- For every slice of bytes the law EthArps returns true, and the bytes read as they did; no condition. -/
import Derived.Test.YtfjhahofmmbleaaArpMath
namespace Go.Proofs.Ytfjhahofmmbleaa
open Go.ChangeShapes Go.WideShapes Go.ChangeAt Go.RowKit

set_option maxHeartbeats 4000000 in
theorem ethArps_walk (w : World) (a : Option Addr) (n cap : Nat) (zs : List Int) (h : BS w a n zs) (hcap : n ≤ cap) (hm : cap ≤ 140737488351232) :
    Calls Try.prog 5 #[.slice a n cap] w fun e w' => e = .returned (.bool true) ∧ Below w.heap.size w w' := by
  obtain ⟨i0, hi, hz0, hz1, hz2⟩ := info_parts info5
  have H : Hid (BS w a n zs) := h
  clear h
  go_enter Try.func5, Try.ntmps5
  go_wp2_with (at_builtin; refine wpList_append_bs (by rfl) _ _ 22 rfl w.heap.size 5 i0 Try.underlying22 hi hz0 hz1 hz2 _ 0 [] rfl (own_empty w _ (Nat.le_refl _)) a n cap zs rfl (H.out.below ((Below.refl _ _).alloc (Nat.le_refl _) _)) (by omega) (by simp) ?_)
  intro a' cap' w1 hown hgrow
  have hb1 : Below w.heap.size w w1 := ((Below.refl _ _).alloc (Nat.le_refl _) _).grown hgrow (by simp) (by rintro k ⟨⟩; exact Nat.le_refl _)
  have H1 : Hid (BS w1 a' n zs) := own_bs (by simpa using hown) H.out.fits (by omega)
  have hcc := own_caps hown
  clear hown hgrow hi hz0 hz1 hz2
  rcases arp_cases zs H.out.fits with ⟨er, her, hv⟩ | ⟨op, sha, spa, tha, tpa, hv, hfit, h1, h2, h3, h4, hbytes, hmz⟩
  · have Hv : Hid _ := hv
    clear hv
    go_wp2_with fail
    refine (arp_any cap' H1.out hcc.1 hcc.2).mono ?_
    rintro e W1 ⟨rfl, hb⟩
    rw [Hv.out]
    unfold arpV
    have hb2 : Below w.heap.size w W1 := hb1.trans (hb.mono hb1.size)
    clear hb hb1 H1
    go_wp2_with fail
    refine (rarp_any cap ((H.out.below hb2).below (below1 W1 _)) hcap).mono ?_
    rintro e W2 ⟨rfl, hb⟩
    rw [Hv.out]
    unfold arpV
    have hb3 : Below w.heap.size w W2 := (hb2.alloc hb2.size _).trans (hb.mono (by have := hb2.size; simp; omega))
    have A1 : Hid (AtB W2 W1.heap.size #[.int .i64 0, .int .u64 0, .int .u32 0, .int .u64 0, .int .u32 0]) := (atB_new W1 #[.int .i64 0, .int .u64 0, .int .u32 0, .int .u64 0, .int .u32 0] 36 _ rfl).below hb
    clear hb hb2
    go_wp2_with fail
    refine (lives_any _).mono ?_
    rintro e W3 ⟨rfl, hb⟩
    have hb4 : Below w.heap.size w W3 := (hb3.alloc hb3.size _).trans (hb.mono (by have := hb3.size; simp; omega))
    have A2 := (atB_new W2 #[.int .i64 0, .int .u64 0, .int .u32 0, .int .u64 0, .int .u32 0] 36 _ rfl).below hb
    have A3 := (A1.out.below (below1 W2 _)).below hb
    obtain ⟨y0, y1, y2, y3, y4⟩ := A2.five
    obtain ⟨x0, x1, x2, x3, x4⟩ := A3.five
    clear A1 A2 A3 hb hb3
    rcases her with rfl | rfl
    all_goals
      go_wp2
      go_ret
      exact ⟨rfl, hb4⟩
  · have Hv : Hid _ := hv
    have Hf : Hid _ := hfit
    have Hy : Hid _ := hbytes
    clear hv hfit hbytes
    go_wp2_with fail
    refine (arp_any cap' H1.out hcc.1 hcc.2).mono ?_
    rintro e W1 ⟨rfl, hb⟩
    rw [Hv.out]
    unfold arpV
    have hb2 : Below w.heap.size w W1 := hb1.trans (hb.mono hb1.size)
    clear hb hb1 H1
    go_wp2_with fail
    refine (rarp_any cap ((H.out.below hb2).below (below1 W1 _)) hcap).mono ?_
    rintro e W2 ⟨rfl, hb⟩
    rw [Hv.out]
    unfold arpV
    have hb3 : Below w.heap.size w W2 := (hb2.alloc hb2.size _).trans (hb.mono (by have := hb2.size; simp; omega))
    have A1 : Hid (AtB W2 W1.heap.size #[.int .i64 op, .int .u64 sha, .int .u32 spa, .int .u64 tha, .int .u32 tpa]) := (atB_new W1 #[.int .i64 op, .int .u64 sha, .int .u32 spa, .int .u64 tha, .int .u32 tpa] 36 _ rfl).below hb
    clear hb hb2
    go_wp2_with fail
    refine (lives_any _).mono ?_
    rintro e W3 ⟨rfl, hb⟩
    have hb4 : Below w.heap.size w W3 := (hb3.alloc hb3.size _).trans (hb.mono (by have := hb3.size; simp; omega))
    have A2 := (atB_new W2 #[.int .i64 op, .int .u64 sha, .int .u32 spa, .int .u64 tha, .int .u32 tpa] 36 _ rfl).below hb
    have A3 := (A1.out.below (below1 W2 _)).below hb
    obtain ⟨y0, y1, y2, y3, y4⟩ := A2.five
    obtain ⟨x0, x1, x2, x3, x4⟩ := A3.five
    clear A1 A2 A3 hb hb3
    go_wp2_with fail
    refine (encodeArp_yes op sha spa tha tpa _ h1 h2 h3 h4 Hf.out).mono ?_
    rintro e W4 ⟨a4, c4, rfl, ho4, hb⟩
    have hb5 : Below w.heap.size w W4 := hb4.trans (hb.mono hb4.size)
    have cv3 : ∀ nq, (convert 22 9 (.slice a4 28 c4)).run Try.prog (W4.drewN nq) = .ok (.string (strOfNums (zs.take 28))) (W4.drewN nq) := fun nq => by
      have hq := run_conv_bs (P := Try.prog) c4 ((own_bs ho4 (arpBytes_bd _ _ _ _ _) (by omega)).drewN nq) 22 9 5 Try.underlying22 Try.underlying5 Try.underlying9
      rw [← Hy.out]; exact hq
    have cv4 : ∀ nq, (convert 22 9 (.slice a 28 cap)).run Try.prog (W4.drewN nq) = .ok (.string (strOfNums (zs.take 28))) (W4.drewN nq) := fun nq =>
      run_conv_bs _ (((H.out.below hb5).take 28 (by have := H.out.len; omega)).drewN nq) 22 9 5 Try.underlying22 Try.underlying5 Try.underlying9
    have hmc : (28 : Int) ≤ cap := by have := H.out.len; omega
    clear x0 x1 x2 x3 x4 y0 y1 y2 y3 y4 hb hb4 ho4
    go_wp2
    go_quiet (fail)
    go_wp2
    go_ret
    exact ⟨rfl, below_drewN hb5 _⟩

set_option maxRecDepth 100000 in
theorem ethArps_lifted (os : Os) (started : os.Started) (H : Type) (enc : TypeId × Value → H) :
    ReturnsInHanded {} Try.checked os 5 .any (Rows.ethArpsSpec.pre6 enc Try.prog Try.f5 Rows.ethArpsRow.domain false) (Rows.ethArpsSpec.post enc Try.prog Try.f5 false true false false) := by
  refine returnsInHanded_of_change_sized (C := Try.checked) own started (by kernel_rfl) Try.func5
    (ChangeSpec.witness6 (enc := enc) (C := Try.checked) false ⟨#[], #[.slice none 0 0], []⟩ 8 (by kernel_rfl) (by kernel_rfl) (by kernel_rfl) (by kernel_rfl)) ?_
  intro W base args ds gs before hval0 hW _ hsz0 _
  have hsz : (DataW.weightsEach Try.prog (Try.f5.params.toList ++ Rows.ethArpsSpec.plain.varTypes Try.prog) (ds ++ gs)).all (· ≤ reachBytes) = true := hsz0
  clear hsz0
  have hval : ∀ (j : Nat) t v, Try.f5.params[j]? = some t → args[j]? = some v → Value.okWide Try.prog W .any base t v := hval0
  have hW' := hW
  obtain ⟨p, q, hA0, hV, rfl, _, _⟩ := hW
  have hA : DataW.TrodAll enc Try.prog W 0 (fun _ => true) true Try.f5.params.toList args.toList ds p := hA0
  rw [Try.params5] at hA hval hsz
  obtain ⟨v0, vs0, d0, ds0, p0, q0, hargs, rfl, rfl, h0, r0⟩ := trodAll_cons hA
  obtain ⟨rfl, rfl, rfl⟩ := trodAll_nil r0
  obtain rfl : args = #[v0] := by cases args; simp_all
  obtain ⟨rfl, rfl⟩ := trodVars_none hV
  obtain ⟨a0, len0, cap0, rfl⟩ := okWide_slice Try.underlying22 (hval 0 22 v0 rfl rfl)
  have k0 := h0
  have lt0 : ∀ x ∈ p0, x.block < W.heap.size := by obtain ⟨m, hm⟩ := k0; exact DataW.trod_lt m _ _ _ hm
  obtain ⟨z0, B0, C0, M0⟩ := open_bytes 0 h0 hsz rfl rfl
  clear hA0 hval0
  refine (ethArps_walk W a0 len0 cap0 z0 B0 C0 M0).mono fun e W' ⟨he, bel⟩ => ?_
  subst he
  exact ⟨_, rfl, _, _, _, [], _, [], hW', trodAll_mk1 (shut_bool Try.underlying4 _), (trodAll_cons_mk (Below.trod laidOut (by kernel_rfl) (of_decide_eq_true (by kernel_rfl)) k0 bel lt0) trodAll_mk0), rfl, bel.frame _, fun h => by cases h⟩

theorem ethArps_proved : Rows.EthArpsSaid :=
  OpenClaim.holds_of_wide 5 Try.f5 rfl rfl rfl rfl rfl rfl rfl ⟨rfl, rfl, rfl, rfl, rfl⟩ rfl rfl rfl rfl rfl (by kernel_rfl) Try.func5 (by kernel_rfl)
    (of_decide_eq_true (by kernel_rfl)) (by unfold Func.isWrapper; first | (rw [if_pos (by decide +kernel)]; kernel_rfl) | (rw [if_neg (by decide +kernel)]; exact ⟨rfl, rfl⟩))
    (fun os started H enc _ => ethArps_lifted os started H enc)
#print axioms ethArps_proved
end Go.Proofs.Ytfjhahofmmbleaa
