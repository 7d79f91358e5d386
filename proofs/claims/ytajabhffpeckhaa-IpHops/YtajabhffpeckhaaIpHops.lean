/- For every slice of bytes the law IpHops returns true, and the bytes read as they did; no condition. -/
import Derived.Test.YtajabhffpeckhaaArgs
import Derived.Test.YtajabhffpeckhaaRHop
namespace Go.Proofs.Ytajabhffpeckhaa
open Go.ChangeShapes Go.WideShapes Go.ChangeAt Go.RowKit

set_option maxHeartbeats 2000000 in
theorem ipHops_no (w : World) (a : Option Addr) (n cap : Nat) (zs : List Int) (h : BS w a n zs) (hcap : n ≤ cap) (hm : cap ≤ 140737488351232) (hno : ¬ ∃ m, MOk zs 65535 m ∧ 2 ≤ zs.getD 8 0) :
    Calls Try.prog 7 #[.slice a n cap] w fun e w' => e = .returned (.bool true) ∧ Below w.heap.size w w' := by
  obtain ⟨i0, hi, hz0, hz1, hz2⟩ := info_parts info5
  have hnil : ∀ W, (convert 22 9 (.slice none 0 0)).run Try.prog W = .ok (.string ByteArray.empty) W := fun W => run_convert_bytes_nil W 22 5 Try.underlying22 Try.underlying5 0 0 9 Try.underlying9
  have H : Hid (BS w a n zs) := h
  have Hno : Hid (¬ ∃ m, MOk zs 65535 m ∧ 2 ≤ zs.getD 8 0) := hno
  clear h hno
  go_enter Try.func7, Try.ntmps7
  go_wp2_with (at_builtin; refine wpList_append_bs (by rfl) _ _ 22 rfl w.heap.size 5 i0 Try.underlying22 hi hz0 hz1 hz2 _ 0 [] rfl (own_empty w _ (Nat.le_refl _)) a n cap zs rfl (H.out.below ((Below.refl _ _).alloc (Nat.le_refl _) _)) (by omega) (by simp) ?_)
  intro a' cap' w1 hown hgrow
  have hb1 : Below w.heap.size w w1 := ((Below.refl _ _).alloc (Nat.le_refl _) _).grown hgrow (by simp) (by rintro k ⟨⟩; exact Nat.le_refl _)
  have H1 : Hid (BS w1 a' n zs) := own_bs (by simpa using hown) H.out.fits (by omega)
  have hcc := own_caps hown
  clear hown hgrow hi hz0 hz1 hz2
  go_wp2_with fail
  refine ((hop_any w1 a' n cap' zs H1.out (by omega)).1 Hno.out).mono ?_
  rintro e W1 ⟨rfl, hb⟩
  unfold hopNo
  have hb2 : Below w.heap.size w W1 := hb1.trans (hb.mono hb1.size)
  clear hb hb1 H1
  go_wp2_with fail
  refine ((rhop_any _ a n cap zs (H.out.below hb2) hcap hm).1 Hno.out).mono ?_
  rintro e W2 ⟨rfl, hb⟩
  unfold hopNo
  have hb3 : Below w.heap.size w W2 := hb2.trans (hb.mono hb2.size)
  clear hb hb2
  go_wp2_with fail
  refine (lives_from hb3).mono ?_
  rintro e W3 ⟨rfl, hb4⟩
  clear hb3
  go_wp2
  refine wp_loop_rounds 1 ?_
  rw [rounds_succ]
  go_wp2
  go_ret
  exact ⟨rfl, hb4⟩

set_option maxHeartbeats 4000000 in
theorem ipHops_yes (w : World) (a : Option Addr) (n cap : Nat) (zs : List Int) (h : BS w a n zs) (hcap : n ≤ cap) (hm : cap ≤ 140737488351232) (m : Nat) (hok : MOk zs 65535 m) (h8 : 2 ≤ zs.getD 8 0) :
    Calls Try.prog 7 #[.slice a n cap] w fun e w' => e = .returned (.bool true) ∧ Below w.heap.size w w' := by
  obtain ⟨i0, hi, hz0, hz1, hz2⟩ := info_parts info5
  have hl := h.len
  have hmn := hok.len
  have hm20 := hok.twenty
  have hf8 := h.fits 8
  have H : Hid (BS w a n zs) := h
  have Hok : Hid _ := hok
  have Hok1 : Hid (MOk (hopB zs) 65535 m) := hop_ok hok h.fits (by omega)
  have Hb1 : Hid _ := hopB_bd zs h.fits (by omega)
  have H81 : Hid ((hopB zs).getD 8 0 = zs.getD 8 0 - 1) := hopB_8 zs (by omega)
  have Hl1 : Hid ((hopB zs).length = n) := by show _ = _; rw [hopB_len, hl]
  clear h hok
  go_enter Try.func7, Try.ntmps7
  go_wp2_with (at_builtin; refine wpList_append_bs (by rfl) _ _ 22 rfl w.heap.size 5 i0 Try.underlying22 hi hz0 hz1 hz2 _ 0 [] rfl (own_empty w _ (Nat.le_refl _)) a n cap zs rfl (H.out.below ((Below.refl _ _).alloc (Nat.le_refl _) _)) (by omega) (by simp) ?_)
  intro a' cap' w1 hown hgrow
  have hb1 : Below w.heap.size w w1 := ((Below.refl _ _).alloc (Nat.le_refl _) _).grown hgrow (by simp) (by rintro k ⟨⟩; exact Nat.le_refl _)
  have H1 : Hid (BS w1 a' n zs) := own_bs (by simpa using hown) H.out.fits (by omega)
  have hcc := own_caps hown
  clear hown hgrow hi hz0 hz1 hz2
  go_wp2_with fail
  refine ((hop_any w1 a' n cap' zs H1.out (by omega)).2 m Hok.out h8).mono ?_
  rintro e W1 ⟨g, rfl, hE⟩
  have hb2 : Below w.heap.size w W1 := hb1.trans (hE.bel.mono hb1.size)
  have E1 : Hid (BS W1 (some ⟨g, 0, none⟩) n (hopB zs)) := hE.bs
  clear hb1 H1 hE
  go_wp2_with fail
  refine ((rhop_any _ a n cap zs (H.out.below hb2) hcap hm).2 m Hok.out h8).mono ?_
  rintro e W2 ⟨a2, c2, rfl, hB2, hb⟩
  have hb3 : Below w.heap.size w W2 := hb2.trans (hb.mono hb2.size)
  have E2 : Hid (BS W2 (some ⟨g, 0, none⟩) n (hopB zs)) := E1.out.below hb
  have D2 : Hid (BS W2 a2 n (hopB zs)) := hB2
  clear hb hb2 E1 hB2
  go_wp2_with fail
  refine (lives_any _).mono ?_
  rintro e W3 ⟨rfl, hb⟩
  have hb4 : Below w.heap.size w W3 := hb3.trans (hb.mono hb3.size)
  have E3 : Hid (BS W3 (some ⟨g, 0, none⟩) n (hopB zs)) := E2.out.below hb
  have cv1 : (convert 22 9 (.slice (some ⟨g, 0, none⟩) n n)).run Try.prog W3 = .ok (.string (strOfNums (hopB zs))) W3 := run_conv_bs _ E3.out 22 9 5 Try.underlying22 Try.underlying5 Try.underlying9
  have cv2 : (convert 22 9 (.slice a2 n c2)).run Try.prog W3 = .ok (.string (strOfNums (hopB zs))) W3 := run_conv_bs _ (D2.out.below hb) 22 9 5 Try.underlying22 Try.underlying5 Try.underlying9
  clear hb hb3 E2 D2
  go_wp2
  clear cv1 cv2 Hok
  go_loopw [3, 4, 7] (fun c ok i wr => ∃ k : Nat, i = .int .i64 k ∧ Hid (Below w.heap.size w wr) ∧ (ok = .bool false ∨ (ok = .bool true ∧ k ≤ 253 ∧ ∃ (g : Nat) (L : List Int), c = .slice (some ⟨g, 0, none⟩) n n ∧ Hid (BS wr (some ⟨g, 0, none⟩) n L) ∧ Hid (MOk L 65535 m) ∧ Hid (1 ≤ L.getD 8 0 ∧ L.getD 8 0 + k ≤ 254)))) (fun _ _ i _ => 300 - (intOf i).toNat)
  case atStart => exact ⟨0, rfl, hb4, .inr ⟨rfl, by omega, g, hopB zs, rfl, E3, Hok1, by show _ ∧ _; rw [H81.out]; omega⟩⟩
  case round =>
    obtain ⟨k, rfl, HB, hcase⟩ := hrel
    rcases hcase with rfl | ⟨rfl, hk, g', L, rfl, HL, HO, H8⟩
    · go_wp2
      go_ret
      exact ⟨rfl, HB.out⟩
    · have hkI : (k : Int) < 256 := by omega
      have hc0 : wr.cell? ⟨g', 0, none⟩ = some (.int .u8 (L.getD 0 0)) := by
        rcases HL.out.cells with h0 | ⟨_, _, e, hc⟩
        · omega
        · cases e; have := hc 0 (by have := HL.out.len; omega); rwa [Nat.zero_add] at this
      have hf0 := HL.out.fits 0
      have hand := and15 _ hf0
      have hmI : 4 * (L.getD 0 0 % 16) = (m : Int) := by have := HO.out.four; omega
      have hmle : (m : Int) ≤ n := by omega
      have hm60 : (m : Int) ≤ 60 := by have := HO.out.four; omega
      have hn0 : (0 : Int) < n := by omega
      have hsum : Hid (fld (wsum (L.take m)) = 65535) := HO.out.sum
      generalize L.getD 0 0 = l0 at *
      go_wp2_with (go_at_call 20; refine (sum_any _ (HL.out.take m (by omega))).mono ?_; rintro e w' ⟨rfl, nq, rfl⟩; rw [hsum.out])
      have HLq : Hid (BS (wr.drewN nq) (some ⟨g', 0, none⟩) n L) := HL.out.drewN nq
      have HBq : Hid (Below w.heap.size w (wr.drewN nq)) := below_drewN HB.out nq
      clear hc0 hand hsum HL HB
      by_cases h2 : 2 ≤ L.getD 8 0
      · refine ((hop_any (wr.drewN nq) _ n n L HLq.out (Nat.le_refl _)).2 m HO.out h2).mono ?_
        rintro e W5 ⟨g5, rfl, hE5⟩
        have N8 : Hid (1 ≤ (hopB L).getD 8 0 ∧ (hopB L).getD 8 0 + ((k + 1 : Nat) : Int) ≤ 254) := by
          show _ ∧ _
          have := H8.out
          rw [hopB_8 L (by have := HLq.out.len; omega)]
          omega
        have NO : Hid (MOk (hopB L) 65535 m) := hop_ok HO.out HLq.out.fits (by omega)
        have NL : Hid (BS W5 (some ⟨g5, 0, none⟩) n (hopB L)) := hE5.bs
        have NB : Hid (Below w.heap.size w W5) := HBq.out.trans (hE5.bel.mono HBq.out.size)
        clear hE5 HLq HBq HO
        have hk2 : k + 1 ≤ 253 := by have := N8.out; omega
        go_wp2
        go_roundw
        case rel => exact ⟨k + 1, by go_num, NB, .inr ⟨rfl, hk2, g5, hopB L, rfl, NL, NO, N8⟩⟩
        case measure => simp [intOf]; omega
      · refine ((hop_any (wr.drewN nq) _ n n L HLq.out (Nat.le_refl _)).1 (fun ⟨_, _, h⟩ => h2 h)).mono ?_
        rintro e W5 ⟨rfl, hb⟩
        unfold hopNo
        have NB : Hid (Below w.heap.size w W5) := HBq.out.trans (hb.mono HBq.out.size)
        clear hb HLq HBq HO
        go_wp2
        go_roundw
        case rel => exact ⟨k + 1, by go_num, NB, .inl rfl⟩
        case measure => simp [intOf]; omega

theorem ipHops_walk (w : World) (a : Option Addr) (n cap : Nat) (zs : List Int) (h : BS w a n zs) (hcap : n ≤ cap) (hm : cap ≤ 140737488351232) :
    Calls Try.prog 7 #[.slice a n cap] w fun e w' => e = .returned (.bool true) ∧ Below w.heap.size w w' := by
  by_cases hx : ∃ m, MOk zs 65535 m ∧ 2 ≤ zs.getD 8 0
  · obtain ⟨m, hok, h8⟩ := hx
    exact ipHops_yes w a n cap zs h hcap hm m hok h8
  · exact ipHops_no w a n cap zs h hcap hm hx

set_option maxRecDepth 100000 in
theorem ipHops_lifted (os : Os) (started : os.Started) (H : Type) (enc : TypeId × Value → H) :
    ReturnsInHanded {} Try.checked os 7 .any (Rows.ipHopsSpec.pre6 enc Try.prog Try.f7 Rows.ipHopsRow.domain false) (Rows.ipHopsSpec.post enc Try.prog Try.f7 false true false false) := by
  refine returnsInHanded_of_change_sized (C := Try.checked) own started (by kernel_rfl) Try.func7
    (ChangeSpec.witness6 (enc := enc) (C := Try.checked) false ⟨#[], #[.slice none 0 0], []⟩ 8 (by kernel_rfl) (by kernel_rfl) (by kernel_rfl) (by kernel_rfl)) ?_
  intro W base args ds gs before hval0 hW _ hsz0 _
  have hsz : (DataW.weightsEach Try.prog (Try.f7.params.toList ++ Rows.ipHopsSpec.plain.varTypes Try.prog) (ds ++ gs)).all (· ≤ reachBytes) = true := hsz0
  clear hsz0
  have hval : ∀ (j : Nat) t v, Try.f7.params[j]? = some t → args[j]? = some v → Value.okWide Try.prog W .any base t v := hval0
  have hW' := hW
  obtain ⟨p, q, hA0, hV, rfl, _, _⟩ := hW
  have hA : DataW.TrodAll enc Try.prog W 0 (fun _ => true) true Try.f7.params.toList args.toList ds p := hA0
  rw [Try.params7] at hA hval hsz
  obtain ⟨v0, vs0, d0, ds0, p0, q0, hargs, rfl, rfl, h0, r0⟩ := trodAll_cons hA
  obtain ⟨rfl, rfl, rfl⟩ := trodAll_nil r0
  obtain rfl : args = #[v0] := by cases args; simp_all
  obtain ⟨rfl, rfl⟩ := trodVars_none hV
  obtain ⟨a0, len0, cap0, rfl⟩ := okWide_slice Try.underlying22 (hval 0 22 v0 rfl rfl)
  have k0 := h0
  have lt0 : ∀ x ∈ p0, x.block < W.heap.size := by obtain ⟨m, hm⟩ := k0; exact DataW.trod_lt m _ _ _ hm
  obtain ⟨z0, B0, C0, M0⟩ := open_bytes 0 h0 hsz rfl rfl
  clear hA0 hval0
  refine (ipHops_walk W a0 len0 cap0 z0 B0 C0 M0).mono fun e W' ⟨he, bel⟩ => ?_
  subst he
  exact ⟨_, rfl, _, _, _, [], _, [], hW', trodAll_mk1 (shut_bool Try.underlying4 _), (trodAll_cons_mk (Below.trod laidOut (by kernel_rfl) (of_decide_eq_true (by kernel_rfl)) k0 bel lt0) trodAll_mk0), rfl, bel.frame _, fun h => by cases h⟩

theorem ipHops_proved : Rows.IpHopsSaid :=
  OpenClaim.holds_of_wide 7 Try.f7 rfl rfl rfl rfl rfl rfl rfl ⟨rfl, rfl, rfl, rfl, rfl⟩ rfl rfl rfl rfl rfl (by kernel_rfl) Try.func7 (by kernel_rfl)
    (of_decide_eq_true (by kernel_rfl)) (by unfold Func.isWrapper; first | (rw [if_pos (by decide +kernel)]; kernel_rfl) | (rw [if_neg (by decide +kernel)]; exact ⟨rfl, rfl⟩))
    (fun os started H enc _ => ipHops_lifted os started H enc)
#print axioms ipHops_proved
end Go.Proofs.Ytajabhffpeckhaa
