/- For every slice of bytes the law IpDecodes returns true, and the bytes read as they did; no condition. -/
import Derived.Test.YtajabhffpeckhaaArgs
import Derived.Test.YtajabhffpeckhaaDec3
import Derived.Test.YtajabhffpeckhaaRDec3
namespace Go.Proofs.Ytajabhffpeckhaa
open Go.ChangeShapes Go.WideShapes Go.ChangeAt Go.RowKit

set_option maxHeartbeats 2000000 in
theorem ipDecodes_no (w : World) (a : Option Addr) (n cap : Nat) (zs : List Int) (h : BS w a n zs) (hcap : n ≤ cap) (hm : cap ≤ 140737488351232) (f : Int) (hf : f = 20 ∨ f = 21 ∨ f = 30) (hms : msr zs n = (0, 0, f)) :
    Calls Try.prog 3 #[.slice a n cap] w fun e w' => e = .returned (.bool true) ∧ Below w.heap.size w w' := by
  obtain ⟨i0, hi, hz0, hz1, hz2⟩ := info_parts info5
  have H : Hid (BS w a n zs) := h
  have Hms : Hid _ := hms
  clear h hms
  go_enter Try.func3, Try.ntmps3
  go_wp2_with (at_builtin; refine wpList_append_bs (by rfl) _ _ 22 rfl w.heap.size 5 i0 Try.underlying22 hi hz0 hz1 hz2 _ 0 [] rfl (own_empty w _ (Nat.le_refl _)) a n cap zs rfl (H.out.below ((Below.refl _ _).alloc (Nat.le_refl _) _)) (by omega) (by simp) ?_)
  intro a' cap' w1 hown hgrow
  have hb1 : Below w.heap.size w w1 := ((Below.refl _ _).alloc (Nat.le_refl _) _).grown hgrow (by simp) (by rintro k ⟨⟩; exact Nat.le_refl _)
  have H1 : Hid (BS w1 a' n zs) := own_bs (by simpa using hown) H.out.fits (by omega)
  have hcc := own_caps hown
  clear hown hgrow hi hz0 hz1 hz2
  go_wp2_with fail
  refine ((decode_any w1 a' n cap' zs H1.out (by omega)).1 f hf Hms.out).mono ?_
  rintro e W1 ⟨rfl, hb⟩
  unfold ip0
  have hb2 : Below w.heap.size w W1 := hb1.trans (hb.mono hb1.size)
  have H2 : Hid (BS W1 a' n zs) := H1.out.below hb
  clear hb hb1 H1
  go_wp2_with fail
  refine ((rdec_any _ a n cap zs ((H.out.below hb2).below (below1 W1 _)) hcap).1 f hf Hms.out).mono ?_
  rintro e W2 ⟨rfl, hb⟩
  unfold ip0
  have hb3 : Below w.heap.size w W2 := (hb2.alloc hb2.size _).trans (hb.mono (by have := hb2.size; simp; omega))
  have H3 : Hid (BS W2 a' n zs) := (H2.out.below (below1 W1 _)).below hb
  have A1 : Hid (AtB W2 W1.heap.size #[.int .i64 0, .int .i64 0, .int .i64 0, .int .i64 0, .int .i64 0, .int .u32 0, .int .u32 0, .string ⟨#[]⟩]) := AtB.below (atB_new W1 #[.int .i64 0, .int .i64 0, .int .i64 0, .int .i64 0, .int .i64 0, .int .u32 0, .int .u32 0, .string ⟨#[]⟩] 25 _ rfl) hb
  clear hb hb2 H2
  go_wp2_with fail
  refine (lives_any _).mono ?_
  rintro e W3 ⟨rfl, hb⟩
  have hb4 : Below w.heap.size w W3 := (hb3.alloc hb3.size _).trans (hb.mono (by have := hb3.size; simp; omega))
  have A2 := AtB.below (atB_new W2 #[.int .i64 0, .int .i64 0, .int .i64 0, .int .i64 0, .int .i64 0, .int .u32 0, .int .u32 0, .string ⟨#[]⟩] 25 _ rfl) hb
  have A3 := AtB.below (AtB.below A1.out (below1 W2 _)) hb
  obtain ⟨y0, y1, y2, y3, y4, y5, y6, y7⟩ := AtB.eight A2
  obtain ⟨x0, x1, x2, x3, x4, x5, x6, x7⟩ := AtB.eight A3
  have cv1 : (convert 22 9 (.slice a n cap)).run Try.prog W3 = .ok (.string (strOfNums zs)) W3 := run_conv_bs _ (H.out.below hb4) 22 9 5 Try.underlying22 Try.underlying5 Try.underlying9
  have cv2 : (convert 22 9 (.slice a' n cap')).run Try.prog W3 = .ok (.string (strOfNums zs)) W3 := run_conv_bs _ ((H3.out.below (below1 W2 _)).below hb) 22 9 5 Try.underlying22 Try.underlying5 Try.underlying9
  clear A1 A2 A3 hb hb3 H3
  rcases hf with rfl | rfl | rfl
  all_goals
    go_wp2
    go_ret
    exact ⟨rfl, hb4⟩

set_option maxHeartbeats 4000000 in
theorem ipDecodes_yes (w : World) (a : Option Addr) (n cap : Nat) (zs : List Int) (h : BS w a n zs) (hcap : n ≤ cap) (hm : cap ≤ 140737488351232) (m : Nat) (hok : MOk zs n m) :
    Calls Try.prog 3 #[.slice a n cap] w fun e w' => e = .returned (.bool true) ∧ Below w.heap.size w w' := by
  obtain ⟨i0, hi, hz0, hz1, hz2⟩ := info_parts info5
  obtain ⟨tos, id, frag, ttl, pr, src, dst, os, hF, hHF, bs, bd, bo, hol, htk⟩ := ip_back hok h.fits
  have hun : ipV tos id frag ttl pr src dst os = .agg #[.int .i64 tos, .int .i64 id, .int .i64 frag, .int .i64 ttl, .int .i64 pr, .int .u32 src, .int .u32 dst, .string (strOfNums os)] := rfl
  have hl := h.len
  have hmn := hok.len
  have h20 := hok.twenty
  have h40 := hHF.most
  have hTb : 0 ≤ zs.getD 2 0 * 256 + zs.getD 3 0 ∧ zs.getD 2 0 * 256 + zs.getD 3 0 ≤ 65535 := by have := h.fits 2; have := h.fits 3; omega
  have hc10 := h.fits 10
  have hc11 := h.fits 11
  have hsame : Hid (∀ i, i < m → i ≠ 10 → i ≠ 11 → (ipB tos id frag ttl pr src dst os (zs.getD 2 0 * 256 + zs.getD 3 0 - m)).getD i 0 = zs.getD i 0) := by
    intro i hi h10 h11
    have e1 : zs.getD i 0 = (zs.take m).getD i 0 := by simp [List.getD_eq_getElem?_getD, hi]
    rw [e1, htk]
    unfold ipB
    rw [← hb_set, ← hb_set _ _ _ _ _ _ _ _ _ (zs.getD 10 0 * 256 + zs.getD 11 0), getD_set_ne _ _ _ _ (Ne.symm h11), getD_set_ne _ _ _ _ (Ne.symm h10), getD_set_ne _ _ _ _ (Ne.symm h11), getD_set_ne _ _ _ _ (Ne.symm h10)]
  have hlast : Hid ((zs.getD 10 0 = 255 ∧ zs.getD 11 0 = 255) ∨ ((ipB tos id frag ttl pr src dst os (zs.getD 2 0 * 256 + zs.getD 3 0 - m)).getD 10 0 = zs.getD 10 0 ∧ (ipB tos id frag ttl pr src dst os (zs.getD 2 0 * 256 + zs.getD 3 0 - m)).getD 11 0 = zs.getD 11 0)) := by
    have hs := hok.sum
    rw [htk] at hs
    have e10 : ∀ c, (hb tos id frag ttl pr src dst os (zs.getD 2 0 * 256 + zs.getD 3 0 - m) c).getD 10 0 = c / 256 := fun c => by simp [hb]
    have e11 : ∀ c, (hb tos id frag ttl pr src dst os (zs.getD 2 0 * 256 + zs.getD 3 0 - m) c).getD 11 0 = c % 256 := fun c => by simp [hb]
    show _ ∨ _
    rcases hb_chk hHF bs bd bo (by omega) hs with e | ⟨e, _⟩
    · right
      unfold ipB
      rw [e10, e11, e]
      omega
    · left; omega
  have HB : Hid _ := ipB_bd hHF bs bd bo
  have HE : Hid _ := encOk_of hHF
  have hBl : (ipB tos id frag ttl pr src dst os (zs.getD 2 0 * 256 + zs.getD 3 0 - m)).length = 20 + os.length := ipB_len ..
  have H : Hid (BS w a n zs) := h
  have Hok : Hid _ := hok
  have HFv : Hid _ := hF
  clear h hok hHF htk hF
  subst hol
  generalize hT : zs.getD 2 0 * 256 + zs.getD 3 0 = T at *
  have HT : Hid (zs.getD 2 0 * 256 + zs.getD 3 0 = T) := hT
  clear hT
  go_enter Try.func3, Try.ntmps3
  go_wp2_with (at_builtin; refine wpList_append_bs (by rfl) _ _ 22 rfl w.heap.size 5 i0 Try.underlying22 hi hz0 hz1 hz2 _ 0 [] rfl (own_empty w _ (Nat.le_refl _)) a n cap zs rfl (H.out.below ((Below.refl _ _).alloc (Nat.le_refl _) _)) (by omega) (by simp) ?_)
  intro a' cap' w1 hown hgrow
  have hb1 : Below w.heap.size w w1 := ((Below.refl _ _).alloc (Nat.le_refl _) _).grown hgrow (by simp) (by rintro k ⟨⟩; exact Nat.le_refl _)
  have H1 : Hid (BS w1 a' n zs) := own_bs (by simpa using hown) H.out.fits (by omega)
  have hcc := own_caps hown
  clear hown hgrow hi hz0 hz1 hz2
  go_wp2_with fail
  refine ((decode_any w1 a' n cap' zs H1.out (by omega)).2 (20 + os.length) Hok.out).mono ?_
  rintro e W1 ⟨rfl, hb⟩
  rw [HFv.out, HT.out, hun]
  have hb2 : Below w.heap.size w W1 := hb1.trans (hb.mono hb1.size)
  have H2 : Hid (BS W1 a' n zs) := H1.out.below hb
  clear hb hb1 H1
  go_wp2_with fail
  refine ((rdec_any _ a n cap zs ((H.out.below hb2).below (below1 W1 _)) hcap).2 (20 + os.length) Hok.out).mono ?_
  rintro e W2 ⟨rfl, hb⟩
  rw [HFv.out, HT.out, hun]
  have hb3 : Below w.heap.size w W2 := (hb2.alloc hb2.size _).trans (hb.mono (by have := hb2.size; simp; omega))
  have H3 : Hid (BS W2 a' n zs) := (H2.out.below (below1 W1 _)).below hb
  have A1 : Hid (AtB W2 W1.heap.size #[.int .i64 tos, .int .i64 id, .int .i64 frag, .int .i64 ttl, .int .i64 pr, .int .u32 src, .int .u32 dst, .string (strOfNums os)]) := AtB.below (atB_new W1 #[.int .i64 tos, .int .i64 id, .int .i64 frag, .int .i64 ttl, .int .i64 pr, .int .u32 src, .int .u32 dst, .string (strOfNums os)] 25 _ rfl) hb
  clear hb hb2 H2
  go_wp2_with fail
  refine (lives_any _).mono ?_
  rintro e W3 ⟨rfl, hb⟩
  have hb4 : Below w.heap.size w W3 := (hb3.alloc hb3.size _).trans (hb.mono (by have := hb3.size; simp; omega))
  have A2 := AtB.below (atB_new W2 #[.int .i64 tos, .int .i64 id, .int .i64 frag, .int .i64 ttl, .int .i64 pr, .int .u32 src, .int .u32 dst, .string (strOfNums os)] 25 _ rfl) hb
  have A3 := AtB.below (AtB.below A1.out (below1 W2 _)) hb
  obtain ⟨y0, y1, y2, y3, y4, y5, y6, y7⟩ := AtB.eight A2
  obtain ⟨x0, x1, x2, x3, x4, x5, x6, x7⟩ := AtB.eight A3
  have cv1 : (convert 22 9 (.slice a n cap)).run Try.prog W3 = .ok (.string (strOfNums zs)) W3 := run_conv_bs _ (H.out.below hb4) 22 9 5 Try.underlying22 Try.underlying5 Try.underlying9
  have cv2 : (convert 22 9 (.slice a' n cap')).run Try.prog W3 = .ok (.string (strOfNums zs)) W3 := run_conv_bs _ ((H3.out.below (below1 W2 _)).below hb) 22 9 5 Try.underlying22 Try.underlying5 Try.underlying9
  clear A1 A2 A3 hb hb3 H3
  go_wp2_with fail
  rw [← hun]
  refine (encode_yes tos id frag ttl pr src dst os _ _ bs bd bo HE.out).mono ?_
  rintro e W4 ⟨a4, c4, rfl, ho4, hb⟩
  have hb5 : Below w.heap.size w W4 := hb4.trans (hb.mono hb4.size)
  clear x0 x1 x2 x3 x4 x5 x6 x7 y0 y1 y2 y3 y4 y5 y6 y7 cv1 cv2 hb hb4
  go_wp2
  obtain ⟨g, rfl, hg1, hg2⟩ := own_some ho4 (by omega)
  have E4 : Hid (BS W4 (some ⟨g, 0, none⟩) (20 + os.length) (ipB tos id frag ttl pr src dst os (T - ((20 + os.length : Nat) : Int)))) := own_bs ho4 HB.out (by omega)
  have H4 : Hid (BS W4 a n zs) := H.out.below hb5
  obtain ⟨b, off, rfl⟩ : ∃ b off, a = some ⟨b, off, none⟩ := by
    rcases H.out.cells with h0 | ⟨b, off, e, _⟩
    · omega
    · exact ⟨b, off, e⟩
  generalize ipB tos id frag ttl pr src dst os (T - ((20 + os.length : Nat) : Int)) = B at *
  have hcB : Hid (∀ k, k < 20 + os.length → W4.cell? ⟨g, k, none⟩ = some (.int .u8 (B.getD k 0))) := by
    intro k hk
    rcases E4.out.cells with h0 | ⟨_, _, e, hc⟩
    · omega
    · cases e; have := hc k (by omega); rwa [Nat.zero_add] at this
  have hcZ : Hid (∀ k, k < n → W4.cell? ⟨b, off + k, none⟩ = some (.int .u8 (zs.getD k 0))) := by
    intro k hk
    rcases H4.out.cells with h0 | ⟨_, _, e, hc⟩
    · omega
    · cases e; exact hc k (by omega)
  clear ho4 hg1 hg2 HB HE E4 H4
  go_loopw [13] (fun i wr => ∃ k nq : Nat, i = .int .i64 k ∧ k ≤ 20 + os.length ∧ wr = W4.drewN nq) (fun i _ => 20 + os.length - (intOf i).toNat)
  case atStart => exact ⟨0, 0, rfl, by omega, rfl⟩
  case round =>
    obtain ⟨k, nq0, rfl, hk, rfl⟩ := hrel
    by_cases hlt : k < 20 + os.length
    · have hcb := hcB.out k hlt
      have hcz := hcZ.out k (by omega)
      have hI1 : (k : Int) < 20 + os.length := by omega
      have hI2 : (k : Int) < n := by omega
      have hI0 : (0 : Int) ≤ k := by omega
      have hnot : Hid (B.getD k 0 ≠ zs.getD k 0 → k = 10 ∨ k = 11) := fun hne => by
        rcases Nat.decEq k 10 with h10 | h10
        · rcases Nat.decEq k 11 with h11 | h11
          · exact absurd (hsame.out k hlt h10 h11) hne
          · exact .inr h11
        · exact .inl h10
      by_cases hxy : B.getD k 0 = zs.getD k 0
      · rw [hxy] at hcb
        clear hnot hxy
        generalize zs.getD k 0 = y at *
        go_wp2
        go_quiet (fail)
        go_wp2
        go_roundw
        case rel => exact ⟨k + 1, _, by go_num, by omega, rfl⟩
        case measure => simp [intOf]; omega
      · have hb : (B.getD k 0 != zs.getD k 0) = true := by simp only [bne_iff_ne]; exact hxy
        rcases hnot.out hxy with rfl | rfl
        all_goals
          clear hnot hxy
          generalize B.getD _ 0 = x at hb hcb
          generalize zs.getD _ 0 = y at hb hcz
          go_wp2
          go_quiet (fail)
          go_wp2
          go_roundw
          case rel => first | exact ⟨11, _, rfl, by omega, rfl⟩ | exact ⟨12, _, rfl, by omega, rfl⟩
          case measure => simp [intOf]; omega
    · obtain rfl : k = 20 + os.length := by omega
      go_wp2
      have c10 := hcB.out 10 (by omega)
      have c11 := hcB.out 11 (by omega)
      have z10 := hcZ.out 10 (by omega)
      have z11 := hcZ.out 11 (by omega)
      have n10 : (10 : Int) < n := by omega
      have n11 : (11 : Int) < n := by omega
      have m10 : (10 : Int) < 20 + os.length := by omega
      have m11 : (11 : Int) < 20 + os.length := by omega
      rcases hlast.out with ⟨e10, e11⟩ | ⟨e10, e11⟩
      · rw [e10] at z10
        rw [e11] at z11
        clear e10 e11 hc10 hc11
        go_quiet (fail)
        go_wp2
        go_ret
        exact ⟨rfl, below_drewN (below_drewN hb5 _) _⟩
      · rw [e10] at c10
        rw [e11] at c11
        clear e10 e11
        generalize zs.getD 10 0 = p at *
        generalize zs.getD 11 0 = q at *
        cases hp : (p == 255)
        · go_quiet (fail)
          go_wp2
          go_ret
          exact ⟨rfl, below_drewN (below_drewN hb5 _) _⟩
        · cases hq : (q == 255)
          all_goals
            go_quiet (fail)
            go_wp2
            go_ret
            exact ⟨rfl, below_drewN (below_drewN hb5 _) _⟩

theorem ipDecodes_walk (w : World) (a : Option Addr) (n cap : Nat) (zs : List Int) (h : BS w a n zs) (hcap : n ≤ cap) (hm : cap ≤ 140737488351232) :
    Calls Try.prog 3 #[.slice a n cap] w fun e w' => e = .returned (.bool true) ∧ Below w.heap.size w w' := by
  rcases msr_cases zs n h.fits with ⟨f, hf, hms⟩ | ⟨m, hok⟩
  · exact ipDecodes_no w a n cap zs h hcap hm f hf hms
  · exact ipDecodes_yes w a n cap zs h hcap hm m hok

set_option maxRecDepth 100000 in
theorem ipDecodes_lifted (os : Os) (started : os.Started) (H : Type) (enc : TypeId × Value → H) :
    ReturnsInHanded {} Try.checked os 3 .any (Rows.ipDecodesSpec.pre6 enc Try.prog Try.f3 Rows.ipDecodesRow.domain false) (Rows.ipDecodesSpec.post enc Try.prog Try.f3 false true false false) := by
  refine returnsInHanded_of_change_sized (C := Try.checked) own started (by kernel_rfl) Try.func3
    (ChangeSpec.witness6 (enc := enc) (C := Try.checked) false ⟨#[], #[.slice none 0 0], []⟩ 8 (by kernel_rfl) (by kernel_rfl) (by kernel_rfl) (by kernel_rfl)) ?_
  intro W base args ds gs before hval0 hW _ hsz0 _
  have hsz : (DataW.weightsEach Try.prog (Try.f3.params.toList ++ Rows.ipDecodesSpec.plain.varTypes Try.prog) (ds ++ gs)).all (· ≤ reachBytes) = true := hsz0
  clear hsz0
  have hval : ∀ (j : Nat) t v, Try.f3.params[j]? = some t → args[j]? = some v → Value.okWide Try.prog W .any base t v := hval0
  have hW' := hW
  obtain ⟨p, q, hA0, hV, rfl, _, _⟩ := hW
  have hA : DataW.TrodAll enc Try.prog W 0 (fun _ => true) true Try.f3.params.toList args.toList ds p := hA0
  rw [Try.params3] at hA hval hsz
  obtain ⟨v0, vs0, d0, ds0, p0, q0, hargs, rfl, rfl, h0, r0⟩ := trodAll_cons hA
  obtain ⟨rfl, rfl, rfl⟩ := trodAll_nil r0
  obtain rfl : args = #[v0] := by cases args; simp_all
  obtain ⟨rfl, rfl⟩ := trodVars_none hV
  obtain ⟨a0, len0, cap0, rfl⟩ := okWide_slice Try.underlying22 (hval 0 22 v0 rfl rfl)
  have k0 := h0
  have lt0 : ∀ x ∈ p0, x.block < W.heap.size := by obtain ⟨m, hm⟩ := k0; exact DataW.trod_lt m _ _ _ hm
  obtain ⟨z0, B0, C0, M0⟩ := open_bytes 0 h0 hsz rfl rfl
  clear hA0 hval0
  refine (ipDecodes_walk W a0 len0 cap0 z0 B0 C0 M0).mono fun e W' ⟨he, bel⟩ => ?_
  subst he
  exact ⟨_, rfl, _, _, _, [], _, [], hW', trodAll_mk1 (shut_bool Try.underlying4 _), (trodAll_cons_mk (Below.trod laidOut (by kernel_rfl) (of_decide_eq_true (by kernel_rfl)) k0 bel lt0) trodAll_mk0), rfl, bel.frame _, fun h => by cases h⟩

theorem ipDecodes_proved : Rows.IpDecodesSaid :=
  OpenClaim.holds_of_wide 3 Try.f3 rfl rfl rfl rfl rfl rfl rfl ⟨rfl, rfl, rfl, rfl, rfl⟩ rfl rfl rfl rfl rfl (by kernel_rfl) Try.func3 (by kernel_rfl)
    (of_decide_eq_true (by kernel_rfl)) (by unfold Func.isWrapper; first | (rw [if_pos (by decide +kernel)]; kernel_rfl) | (rw [if_neg (by decide +kernel)]; exact ⟨rfl, rfl⟩))
    (fun os started H enc _ => ipDecodes_lifted os started H enc)
#print axioms ipDecodes_proved
end Go.Proofs.Ytajabhffpeckhaa
