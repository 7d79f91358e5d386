/- For every slice of bytes the law SumRight returns true, and the bytes read as they did; no condition. -/
import Derived.Test.YtamfgjeocmdedaaKit
namespace Go.Proofs.Ytamfgjeocmdedaa
open Go.ChangeShapes Go.WideShapes Go.ChangeAt Go.RowKit

theorem bs_two (w : World) (x y : Int) (B : Nat) (hB : B = w.heap.size) (hx : 0 ≤ x ∧ x ≤ 255) (hy : 0 ≤ y ∧ y ≤ 255) :
    BS (w.alloc (.cells #[.int .u8 x, .int .u8 y] 5)) (some ⟨B, 0, none⟩) 2 [x, y] := by
  refine bs_new w _ [x, y] 2 B hB rfl rfl ?_ (by omega)
  simp [hx, hy]
theorem fits_append {xs ys : List Int} (hx : ∀ i, 0 ≤ xs.getD i 0 ∧ xs.getD i 0 ≤ 255) (hy : ∀ i, 0 ≤ ys.getD i 0 ∧ ys.getD i 0 ≤ 255) : ∀ i, 0 ≤ (xs ++ ys).getD i 0 ∧ (xs ++ ys).getD i 0 ≤ 255 := by
  intro i
  simp only [List.getD_eq_getElem?_getD, List.getElem?_append] at *
  split
  · exact hx i
  · exact hy _
theorem fits_two {x y : Int} (hx : 0 ≤ x ∧ x ≤ 255) (hy : 0 ≤ y ∧ y ≤ 255) : ∀ i, 0 ≤ [x, y].getD i 0 ∧ [x, y].getD i 0 ≤ 255 := by
  intro i
  match i with
  | 0 => exact hx
  | 1 => exact hy
  | i + 2 => simp

theorem wsum_snoc2 (m : Nat) : ∀ (zs : List Int) (x y : Int), zs.length ≤ m → zs.length % 2 = 0 → wsum (zs ++ [x, y]) = wsum zs + (x * 256 + y) := by
  induction m with
  | zero => intro zs x y h _; have : zs = [] := List.length_eq_zero_iff.1 (by omega)
            subst this; simp [wsum]
  | succ m ih =>
    intro zs x y h he
    match zs with
    | [] => simp [wsum]
    | [u] => simp at he
    | u :: v :: r =>
      have := ih r x y (by simp at h; omega) (by simp at he; omega)
      simp only [List.cons_append, wsum]
      omega
theorem fld_right (s : Int) (h : 0 ≤ s) : fld (s + (65535 - fld s)) = 65535 := by
  unfold fld; split <;> split <;> omega

set_option maxHeartbeats 1000000 in
theorem sumRight_walk (w : World) (a : Option Addr) (n cap : Nat) (zs : List Int) (h : BS w a n zs) (hcap : n ≤ cap) (hm : cap ≤ 140737488351232) :
    Calls Try.prog 6 #[.slice a n cap] w fun e w' => e = .returned (.bool true) ∧ Below w.heap.size w w' := by
  obtain ⟨i0, hi, hz0, hz1, hz2⟩ := info_parts info5
  have H : Hid (BS w a n zs) := h
  clear h
  by_cases ho : n % 2 = 1
  · have ho1 : ((n : Int) % 2 == 1) = true := by simp; omega
    have hn1 : (1 : Int) ≤ n := by omega
    have H1 := H.out.take (n - 1) (by omega)
    have H1 : Hid (BS w a (n - 1) (zs.take (n - 1))) := H1
    have hev : Hid (((zs.take (n - 1)).length) % 2 = 0) := by show _ = _; rw [H1.out.len]; omega
    have hnn : Hid (0 ≤ wsum (zs.take (n - 1))) := wsum_bd H1.out.fits
    have hbd := fld_bd (wsum (zs.take (n - 1))) hnn.out
    have hml : ((n - 1) : Nat) ≤ 140737488351232 := by omega
    obtain ⟨c, hc⟩ : ∃ c, c = 65535 - fld (wsum (zs.take (n - 1))) := ⟨_, rfl⟩
    have hc0 : 0 ≤ c := by omega
    have hc1 : c ≤ 65535 := by omega
    have hfin : Hid (fld (wsum (zs.take (n - 1) ++ [c / 256, c % 256])) = 65535) := by
      show _ = _
      rw [wsum_snoc2 _ _ _ _ (Nat.le_refl _) hev.out, show c / 256 * 256 + c % 256 = c from by omega, hc]
      exact fld_right _ hnn.out
    have Hc : Hid (c = 65535 - fld (wsum (zs.take (n - 1)))) := hc
    clear hc hbd
    go_enter Try.func6, Try.ntmps6
    go_wp2_with fail
    refine (check_any _ H1.out).mono ?_
    rintro e w1 ⟨rfl, nq, rfl⟩
    rw [← Hc.out]
    clear Hc
    go_wp2_with fail
    refine (lives_any _).mono ?_
    rintro e w2 ⟨rfl, hl⟩
    have hb2 : Below w.heap.size w w2 := (below_drewN (Below.refl _ _) nq).trans (hl.mono (Nat.le_refl _))
    have H2 : Hid (BS w2 a (n - 1) (zs.take (n - 1))) := H1.out.below hb2
    clear hl H1 H
    go_wp2_with (at_builtin; refine wpList_append_bs (by rfl) (.tmp 17) (.tmp 18) 22 rfl w2.heap.size 5 i0 Try.underlying22 hi hz0 hz1 hz2 _ 0 [] rfl (own_empty w2 _ (Nat.le_refl _)) a (n - 1) cap (zs.take (n - 1)) rfl (H2.out.below ((Below.refl _ _).alloc (Nat.le_refl _) _)) (by omega) (by simp) ?_)
    intro a' cap' w3 hown hgrow
    have hb3 : Below w2.heap.size w2 w3 := ((Below.refl _ _).alloc (Nat.le_refl _) _).grown hgrow (by simp) (by rintro k ⟨⟩; exact Nat.le_refl _)
    have hbase : w2.heap.size ≤ w3.heap.size := hb3.size
    have hown' : w3.ownsRow w2.heap.size 5 1 (.slice a' (n - 1) cap') (n - 1) ((zs.take (n - 1)).map (Value.int .u8)) := by simpa using hown
    have HO : Hid (w3.ownsRow w2.heap.size 5 1 (.slice a' (n - 1) cap') (n - 1) ((zs.take (n - 1)).map (Value.int .u8))) := hown'
    clear hown hown' hgrow
    go_wp2_with (at_builtin; refine wpList_append_bs (by rfl) (.tmp 19) (.tmp 25) 22 rfl w2.heap.size 5 i0 Try.underlying22 hi hz0 hz1 hz2 _ (n - 1) (zs.take (n - 1)) rfl (HO.out.alloc _) (some ⟨w3.heap.size, 0, none⟩) 2 2 [c / 256, c % 256] rfl (bs_two w3 _ _ _ rfl (by omega) (by omega)) (by omega) (by simp; omega) ?_)
    intro a2 cap2 w4 hown2 hgrow2
    have hb4 : Below w2.heap.size w2 w4 := (hb3.alloc hbase _).grown hgrow2 (by simp; omega) (fun k hk => (HO.out.lt k hk).1)
    have H4 : Hid (BS w4 a2 (n - 1 + 2) (zs.take (n - 1) ++ [c / 256, c % 256])) := own_bs (by simpa using hown2) (fits_append H2.out.fits (fits_two (by omega) (by omega))) (by omega)
    clear hown2 hgrow2 HO hi hz0 hz1 hz2
    go_wp2_with fail
    refine (sum_any _ H4.out).mono ?_
    rintro e w5 ⟨rfl, nr, rfl⟩
    rw [hfin.out]
    go_wp2
    go_ret
    exact ⟨rfl, below_drewN (hb2.trans (hb4.mono hb2.size)) _⟩
  · have ho1 : ((n : Int) % 2 == 1) = false := by simp; omega
    have H1 := H.out
    have H1 : Hid (BS w a (n) (zs)) := H1
    have hev : Hid (((zs).length) % 2 = 0) := by show _ = _; rw [H1.out.len]; omega
    have hnn : Hid (0 ≤ wsum (zs)) := wsum_bd H1.out.fits
    have hbd := fld_bd (wsum (zs)) hnn.out
    have hml : ((n) : Nat) ≤ 140737488351232 := by omega
    obtain ⟨c, hc⟩ : ∃ c, c = 65535 - fld (wsum (zs)) := ⟨_, rfl⟩
    have hc0 : 0 ≤ c := by omega
    have hc1 : c ≤ 65535 := by omega
    have hfin : Hid (fld (wsum (zs ++ [c / 256, c % 256])) = 65535) := by
      show _ = _
      rw [wsum_snoc2 _ _ _ _ (Nat.le_refl _) hev.out, show c / 256 * 256 + c % 256 = c from by omega, hc]
      exact fld_right _ hnn.out
    have Hc : Hid (c = 65535 - fld (wsum (zs))) := hc
    clear hc hbd
    go_enter Try.func6, Try.ntmps6
    go_wp2_with fail
    refine (check_any _ H1.out).mono ?_
    rintro e w1 ⟨rfl, nq, rfl⟩
    rw [← Hc.out]
    clear Hc
    go_wp2_with fail
    refine (lives_any _).mono ?_
    rintro e w2 ⟨rfl, hl⟩
    have hb2 : Below w.heap.size w w2 := (below_drewN (Below.refl _ _) nq).trans (hl.mono (Nat.le_refl _))
    have H2 : Hid (BS w2 a (n) (zs)) := H1.out.below hb2
    clear hl H1 H
    go_wp2_with (at_builtin; refine wpList_append_bs (by rfl) (.tmp 17) (.tmp 18) 22 rfl w2.heap.size 5 i0 Try.underlying22 hi hz0 hz1 hz2 _ 0 [] rfl (own_empty w2 _ (Nat.le_refl _)) a (n) cap (zs) rfl (H2.out.below ((Below.refl _ _).alloc (Nat.le_refl _) _)) (by omega) (by simp) ?_)
    intro a' cap' w3 hown hgrow
    have hb3 : Below w2.heap.size w2 w3 := ((Below.refl _ _).alloc (Nat.le_refl _) _).grown hgrow (by simp) (by rintro k ⟨⟩; exact Nat.le_refl _)
    have hbase : w2.heap.size ≤ w3.heap.size := hb3.size
    have hown' : w3.ownsRow w2.heap.size 5 1 (.slice a' (n) cap') (n) ((zs).map (Value.int .u8)) := by simpa using hown
    have HO : Hid (w3.ownsRow w2.heap.size 5 1 (.slice a' (n) cap') (n) ((zs).map (Value.int .u8))) := hown'
    clear hown hown' hgrow
    go_wp2_with (at_builtin; refine wpList_append_bs (by rfl) (.tmp 19) (.tmp 25) 22 rfl w2.heap.size 5 i0 Try.underlying22 hi hz0 hz1 hz2 _ (n) (zs) rfl (HO.out.alloc _) (some ⟨w3.heap.size, 0, none⟩) 2 2 [c / 256, c % 256] rfl (bs_two w3 _ _ _ rfl (by omega) (by omega)) (by omega) (by simp; omega) ?_)
    intro a2 cap2 w4 hown2 hgrow2
    have hb4 : Below w2.heap.size w2 w4 := (hb3.alloc hbase _).grown hgrow2 (by simp; omega) (fun k hk => (HO.out.lt k hk).1)
    have H4 : Hid (BS w4 a2 (n + 2) (zs ++ [c / 256, c % 256])) := own_bs (by simpa using hown2) (fits_append H2.out.fits (fits_two (by omega) (by omega))) (by omega)
    clear hown2 hgrow2 HO hi hz0 hz1 hz2
    go_wp2_with fail
    refine (sum_any _ H4.out).mono ?_
    rintro e w5 ⟨rfl, nr, rfl⟩
    rw [hfin.out]
    go_wp2
    go_ret
    exact ⟨rfl, below_drewN (hb2.trans (hb4.mono hb2.size)) _⟩

set_option maxRecDepth 100000 in
theorem sumRight_lifted (os : Os) (started : os.Started) (H : Type) (enc : TypeId × Value → H) :
    ReturnsInHanded {} Try.checked os 6 .any (Rows.sumRightSpec.pre6 enc Try.prog Try.f6 Rows.sumRightRow.domain false) (Rows.sumRightSpec.post enc Try.prog Try.f6 false true false false) := by
  refine returnsInHanded_of_change_sized (C := Try.checked) own started (by kernel_rfl) Try.func6
    (ChangeSpec.witness6 (enc := enc) (C := Try.checked) false ⟨#[], #[.slice none 0 0], []⟩ 8 (by kernel_rfl) (by kernel_rfl) (by kernel_rfl) (by kernel_rfl)) ?_
  intro W base args ds gs before hval0 hW _ hsz0 _
  have hsz : (DataW.weightsEach Try.prog (Try.f6.params.toList ++ Rows.sumRightSpec.plain.varTypes Try.prog) (ds ++ gs)).all (· ≤ reachBytes) = true := hsz0
  clear hsz0
  have hval : ∀ (j : Nat) t v, Try.f6.params[j]? = some t → args[j]? = some v → Value.okWide Try.prog W .any base t v := hval0
  have hW' := hW
  obtain ⟨p, q, hA0, hV, rfl, _, _⟩ := hW
  have hA : DataW.TrodAll enc Try.prog W 0 (fun _ => true) true Try.f6.params.toList args.toList ds p := hA0
  rw [Try.params6] at hA hval hsz
  obtain ⟨v0, vs0, d0, ds0, p0, q0, hargs, rfl, rfl, h0, r0⟩ := trodAll_cons hA
  obtain ⟨rfl, rfl, rfl⟩ := trodAll_nil r0
  obtain rfl : args = #[v0] := by cases args; simp_all
  obtain ⟨rfl, rfl⟩ := trodVars_none hV
  obtain ⟨a0, len0, cap0, rfl⟩ := okWide_slice Try.underlying22 (hval 0 22 v0 rfl rfl)
  have k0 := h0
  have lt0 : ∀ x ∈ p0, x.block < W.heap.size := by obtain ⟨m, hm⟩ := k0; exact DataW.trod_lt m _ _ _ hm
  obtain ⟨z0, B0, C0, M0⟩ := open_bytes 0 h0 hsz rfl rfl
  clear hA0 hval0
  refine (sumRight_walk W a0 len0 cap0 z0 B0 C0 M0).mono fun e W' ⟨he, bel⟩ => ?_
  subst he
  exact ⟨_, rfl, _, _, _, [], _, [], hW', trodAll_mk1 (shut_bool Try.underlying4 _), (trodAll_cons_mk (Below.trod laidOut (by kernel_rfl) (of_decide_eq_true (by kernel_rfl)) k0 bel lt0) trodAll_mk0), rfl, bel.frame _, fun h => by cases h⟩

theorem sumRight_proved : Rows.SumRightSaid :=
  OpenClaim.holds_of_wide 6 Try.f6 rfl rfl rfl rfl rfl rfl rfl ⟨rfl, rfl, rfl, rfl, rfl⟩ rfl rfl rfl rfl rfl (by kernel_rfl) Try.func6 (by kernel_rfl)
    (of_decide_eq_true (by kernel_rfl)) (by unfold Func.isWrapper; first | (rw [if_pos (by decide +kernel)]; kernel_rfl) | (rw [if_neg (by decide +kernel)]; exact ⟨rfl, rfl⟩))
    (fun os started H enc _ => sumRight_lifted os started H enc)
#print axioms sumRight_proved
end Go.Proofs.Ytamfgjeocmdedaa
