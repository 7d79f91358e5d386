/- For every slice of bytes b, every number at and every word now the law SumUpdates returns true, and its arguments read as they did; no condition. -/
import Derived.Test.YtamfgjeocmdedaaKit
namespace Go.Proofs.Ytamfgjeocmdedaa
open Go.ChangeShapes Go.WideShapes Go.ChangeAt Go.RowKit

theorem wsum_set (k : Nat) : ∀ (zs : List Int) (x y : Int), 2 * k + 1 < zs.length → wsum ((zs.set (2 * k) x).set (2 * k + 1) y) = wsum zs - (zs.getD (2 * k) 0 * 256 + zs.getD (2 * k + 1) 0) + (x * 256 + y) := by
  induction k with
  | zero =>
    intro zs x y h
    match zs with
    | [] => simp at h
    | [u] => simp at h
    | u :: v :: r => simp [wsum]; omega
  | succ k ih =>
    intro zs x y h
    match zs with
    | [] => simp at h
    | [u] => simp at h
    | u :: v :: r =>
      have := ih r x y (by simp at h; omega)
      rw [show 2 * (k + 1) = 2 * k + 1 + 1 from by omega]
      simp only [List.set_cons_succ, List.getD_cons_succ, wsum]
      omega

theorem upd_same (S o n : Int) (hS : 0 ≤ S) (ho0 : 0 ≤ o) (ho1 : o ≤ 65535) (hn0 : 0 ≤ n) (hd : 0 ≤ S - o) :
    fld (fld (65535 - (65535 - fld S) + (65535 - o)) + n) = fld (S - o + n) ∨ (fld (fld (65535 - (65535 - fld S) + (65535 - o)) + n) = 65535 ∧ fld (S - o + n) = 0) := by
  rw [show 65535 - (65535 - fld S) + (65535 - o) = fld S + (65535 - o) from by omega, fld_add S _ hS (by omega), fld_add _ _ (by omega) hn0]
  unfold fld
  split <;> split <;> omega

theorem or8u16 (x y : Int) (hx0 : 0 ≤ x) (hx1 : x ≤ 255) (hy0 : 0 ≤ y) (hy1 : y ≤ 255) : bits .or .u16 (x * 256) y = x * 256 + y := by
  rw [u16_or _ _ (by omega) (by omega) (by omega) (by omega)]
  rw [nat_join 8 (x * 256).toNat y.toNat (by omega) (by omega)]
  omega

theorem upd_short (w : World) (a : Option Addr) (n cap : Nat) (x y : Int) (h : n < 2) :
    Calls Try.prog 7 #[.slice a n cap, .int .i64 x, .int .u16 y] w fun e w' => e = .returned (.bool true) ∧ Below w.heap.size w w' := by
  have h2 : (n : Int) < 2 := by omega
  go_enter Try.func7, Try.ntmps7
  go_wp2_with fail
  refine (lives_any _).mono ?_
  rintro e w2 ⟨rfl, hl⟩
  go_wp2_with fail
  refine (update_any 7 7 7 (by omega) (by omega) (by omega) (by omega) (by omega) (by omega) _).mono ?_
  rintro e w3 ⟨rfl, rfl⟩
  go_wp2_with fail
  refine (rupdate_any 7 7 7 (by omega) (by omega) (by omega) (by omega) (by omega) (by omega) _).mono ?_
  rintro e w3 ⟨rfl, rfl⟩
  go_wp2
  go_ret
  exact ⟨rfl, hl⟩

theorem own_some {w : World} {base : Nat} {e : TypeId} {a : Option Addr} {n cap : Nat} {xs : List Value} (h : w.ownsRow base e 1 (.slice a n cap) n xs) (hn : 0 < n) : ∃ g, a = some ⟨g, 0, none⟩ ∧ base ≤ g ∧ g < w.heap.size := by
  rcases h.2 with ⟨h0, h1⟩ | ⟨g, cap', cur, e1, hb, hcells, _⟩
  · omega
  · have e2 : a = some ⟨g, 0, none⟩ := by injection e1
    refine ⟨g, e2, hb, ?_⟩
    rcases Nat.lt_or_ge g w.heap.size with h' | h'
    · exact h'
    · simp [Array.getElem?_eq_none h'] at hcells

set_option maxHeartbeats 1000000 in
theorem upd_long (w : World) (a : Option Addr) (n cap : Nat) (zs : List Int) (h : BS w a n zs) (hcap : n ≤ cap) (hm : cap ≤ 140737488351232) (x : Int) (now : Int) (hnow : 0 ≤ now ∧ now ≤ 65535) (h2 : 2 ≤ n) :
    Calls Try.prog 7 #[.slice a n cap, .int .i64 x, .int .u16 now] w fun e w' => e = .returned (.bool true) ∧ Below w.heap.size w w' := by
  obtain ⟨i0, hi, hz0, hz1, hz2⟩ := info_parts info5
  have hn2 : (2 : Int) ≤ n := by omega
  have hd2 : decide ((n : Int) < 2) = false := by simp; omega
  have hr1 : -((n : Int) / 2) < x.tmod (n / 2) := by
    have := Int.lt_tmod_of_pos x (show (0 : Int) < n / 2 by omega); omega
  have hr2 : x.tmod ((n : Int) / 2) < n / 2 := Int.tmod_lt_of_pos x (by omega)
  have H : Hid (BS w a n zs) := h
  clear h
  obtain ⟨k, hk2, hcase⟩ : ∃ k : Nat, 2 * k + 1 < n ∧ ((x.tmod ((n : Int) / 2) < 0 ∧ Hid ((k : Int) = x.tmod (↑n / 2) + ↑n / 2)) ∨ (¬ x.tmod ((n : Int) / 2) < 0 ∧ Hid ((k : Int) = x.tmod (↑n / 2)))) := by
    by_cases hneg : x.tmod ((n : Int) / 2) < 0
    · exact ⟨(x.tmod (↑n / 2) + ↑n / 2).toNat, by omega, .inl ⟨hneg, by show _ = _; omega⟩⟩
    · exact ⟨(x.tmod (↑n / 2)).toNat, by omega, .inr ⟨hneg, by show _ = _; omega⟩⟩
  rcases hcase with ⟨hneg, hk⟩ | ⟨hneg, hk⟩
  all_goals
    go_enter Try.func7, Try.ntmps7
    go_wp2_with (at_builtin; refine wpList_append_bs (by rfl) (.tmp 33) (.tmp 34) 22 rfl w.heap.size 5 i0 Try.underlying22 hi hz0 hz1 hz2 _ 0 [] rfl (own_empty w _ (Nat.le_refl _)) a n cap zs rfl (H.out.below ((Below.refl _ _).alloc (Nat.le_refl _) _)) (by omega) (by simp) ?_)
    intro a' cap' w3 hown hgrow
    have hb3 : Below w.heap.size w w3 := ((Below.refl _ _).alloc (Nat.le_refl _) _).grown hgrow (by simp) (by rintro k ⟨⟩; exact Nat.le_refl _)
    have hown' : w3.ownsRow w.heap.size 5 1 (.slice a' n cap') n (zs.map (Value.int .u8)) := by simpa using hown
    obtain ⟨g, ha', hg1, hg2⟩ := own_some hown' (by omega)
    subst ha'
    have hlen := H.out.len
    have hcl : ∀ j, j < n → w3.cell? ⟨g, j, none⟩ = some (.int .u8 (zs.getD j 0)) := fun j hj => by
      rw [hown'.cellAt j (by omega), List.getElem?_map]
      simp [List.getD_eq_getElem?_getD, List.getElem?_eq_getElem (show j < zs.length by omega)]
    have hc0 := hcl (2 * k) (by omega)
    have hc1 := hcl (2 * k + 1) (by omega)
    have hf0 := hown'.frozenAt (2 * k)
    have hf1 := hown'.frozenAt (2 * k + 1)
    have hz0' := H.out.fits (2 * k)
    have hz1' := H.out.fits (2 * k + 1)
    have HO : Hid (w3.ownsRow w.heap.size 5 1 (.slice (some ⟨g, 0, none⟩) n cap') n (zs.map (Value.int .u8))) := hown'
    have HL : Hid (zs.length = n) := hlen
    have HZ : Hid (∀ i, 0 ≤ zs.getD i 0 ∧ zs.getD i 0 ≤ 255) := H.out.fits
    clear hown hown' hgrow hi hz0 hz1 hz2 hcl hlen
    have HW : Hid (∀ p q, wsum ((zs.set (2 * k) p).set (2 * k + 1) q) = wsum zs - (zs.getD (2 * k) 0 * 256 + zs.getD (2 * k + 1) 0) + (p * 256 + q)) := fun p q => wsum_set k zs p q (by rw [HL.out]; omega)
    have HG : Hid (zs.getD (2 * k) 0 * 256 + zs.getD (2 * k + 1) 0 ≤ wsum zs) := by
      show _ ≤ _
      have := HW.out 0 0
      have hnn := wsum_bd (zs := (zs.set (2 * k) 0).set (2 * k + 1) 0) (fun i => by
        have := HZ.out i
        simp only [List.getD_eq_getElem?_getD, List.getElem?_set] at *
        split
        · split <;> simp
        · split
          · split <;> simp
          · exact this)
      omega
    generalize hzz0 : zs.getD (2 * k) 0 = p0 at *
    generalize hzz1 : zs.getD (2 * k + 1) 0 = p1 at *
    clear hzz0 hzz1
    have HO8 : Hid _ := or8u16 p0 p1 hz0'.1 hz0'.2 hz1'.1 hz1'.2
    go_wp2
    rw [← hk.out]
    have hk0 : (0 : Int) ≤ 2 * (k : Int) := by omega
    have hk1 : 2 * (k : Int) < n := by omega
    have hk3 : 2 * (k : Int) + 1 < n := by omega
    clear hr1 hr2 hneg hk
    go_quiet (fail)
    go_wp2_with fail
    have hb4 : Below w.heap.size w (((w3.drewN nq).setCell ⟨g, 2 * k, none⟩ (.int .u8 (now / 256))).setCell ⟨g, 2 * k + 1, none⟩ (.int .u8 (now % 256))) := ((below_drewN hb3 nq).setCell hg1 _).setCell hg1 _
    have HO4 := (((show (w3.drewN nq).ownsRow w.heap.size 5 1 (.slice (some ⟨g, 0, none⟩) n cap') n (zs.map (Value.int .u8)) from HO.out).stored (2 * k) (.int .u8 (now / 256))).1.stored (2 * k + 1) (.int .u8 (now % 256))).1
    generalize ((w3.drewN nq).setCell ⟨g, 2 * k, none⟩ (.int .u8 (now / 256))).setCell ⟨g, 2 * k + 1, none⟩ (.int .u8 (now % 256)) = W4 at hb4 HO4 ⊢
    have H4 : Hid (BS W4 (some ⟨g, 0, none⟩) n ((zs.set (2 * k) (now / 256)).set (2 * k + 1) (now % 256))) := by
      refine own_bs (base := w.heap.size) (e := 5) (cap := cap') (by simpa [List.map_set] using HO4) (fun i => ?_) (by omega)
      have := HZ.out i
      simp only [List.getD_eq_getElem?_getD, List.getElem?_set] at *
      split
      · split
        · simp; omega
        · simp
      · split
        · split
          · simp; omega
          · simp
        · exact this
    have H0 : Hid (BS W4 a n zs) := H.out.below hb4
    clear HO4 HO hc0 hc1 hf0 hf1 hb3 H hg1 hg2
    rw [HO8.out]
    clear HO8
    have hold0 : 0 ≤ p0 * 256 + p1 := by omega
    have hold1 : p0 * 256 + p1 ≤ 65535 := by omega
    have HS : Hid (0 ≤ wsum zs) := wsum_bd HZ.out
    have hup := upd_same (wsum zs) (p0 * 256 + p1) now HS.out hold0 hold1 hnow.1 (by have := HG.out; omega)
    have hw4 := HW.out (now / 256) (now % 256)
    rw [show wsum zs - (p0 * 256 + p1) + (now / 256 * 256 + now % 256) = wsum zs - (p0 * 256 + p1) + now from by omega] at hw4
    rw [← hw4] at hup
    clear hw4 HW HG
    have hbC := fld_bd (wsum zs) HS.out
    generalize p0 * 256 + p1 = old at *
    refine (check_any _ H0.out).mono ?_
    rintro e w5 ⟨rfl, nq1, rfl⟩
    have HC : Hid (0 ≤ 65535 - fld (wsum zs) ∧ 65535 - fld (wsum zs) ≤ 65535) := ⟨by omega, by omega⟩
    generalize hC : 65535 - fld (wsum zs) = C at *
    go_wp2_with fail
    refine (update_any C old now HC.out.1 HC.out.2 hold0 hold1 hnow.1 hnow.2 _).mono ?_
    rintro e w5 ⟨rfl, rfl⟩
    have hbU := fld_bd (fld (65535 - C + (65535 - old)) + now) (by have := fld_bd (65535 - C + (65535 - old)) (by have := HC.out; omega); omega)
    generalize hU : fld (fld (65535 - C + (65535 - old)) + now) = U at *
    have HC2 : Hid (65535 - fld (wsum zs) = C) := hC
    have HU2 : Hid (fld (fld (65535 - C + (65535 - old)) + now) = U) := hU
    clear hC hU hbC
    go_wp2_with fail
    have hbV := fld_bd (wsum ((zs.set (2 * k) (now / 256)).set (2 * k + 1) (now % 256))) (wsum_bd H4.out.fits)
    refine (check_any _ (H4.out.drewN _)).mono ?_
    rintro e w5 ⟨rfl, nq2, rfl⟩
    rw [World.drewN_drewN]
    generalize fld (wsum ((zs.set (2 * k) (now / 256)).set (2 * k + 1) (now % 256))) = V at *
    clear H4
    go_wp2_with fail
    refine (lives_any _).mono ?_
    rintro e w6 ⟨rfl, hl⟩
    have hb6 : Below w.heap.size w w6 := (below_drewN hb4 _).trans (hl.mono hb4.size)
    have H6 : Hid (BS w6 a n zs) := (H0.out.drewN _).below hl
    clear hl H0 hb4
    rcases hup with hup | ⟨hup1, hup2⟩
    · subst hup
      go_wp2_with fail
      refine (rcheck_any _ H6.out).mono ?_
      rintro e w7 ⟨rfl, rfl⟩
      rw [HC2.out]
      go_wp2_with fail
      refine (rupdate_any C old now HC.out.1 HC.out.2 hold0 hold1 hnow.1 hnow.2 _).mono ?_
      rintro e w7 ⟨rfl, rfl⟩
      rw [HU2.out]
      go_wp2
      go_ret
      exact ⟨rfl, hb6⟩
    · subst hup1
      subst hup2
      go_wp2_with fail
      refine (rcheck_any _ H6.out).mono ?_
      rintro e w7 ⟨rfl, rfl⟩
      rw [HC2.out]
      go_wp2_with fail
      refine (rupdate_any C old now HC.out.1 HC.out.2 hold0 hold1 hnow.1 hnow.2 _).mono ?_
      rintro e w7 ⟨rfl, rfl⟩
      rw [HU2.out]
      go_wp2
      go_ret
      exact ⟨rfl, hb6⟩

theorem sumUpdates_walk (w : World) (a : Option Addr) (n cap : Nat) (zs : List Int) (h : BS w a n zs) (hcap : n ≤ cap) (hm : cap ≤ 140737488351232) (x : Int) (_hx : -9223372036854775808 ≤ x ∧ x ≤ 9223372036854775807) (now : Int) (hnow : 0 ≤ now ∧ now ≤ 65535) :
    Calls Try.prog 7 #[.slice a n cap, .int .i64 x, .int .u16 now] w fun e w' => e = .returned (.bool true) ∧ Below w.heap.size w w' := by
  by_cases h2 : n < 2
  · exact upd_short w a n cap x now h2
  · exact upd_long w a n cap zs h hcap hm x now hnow (by omega)

set_option maxRecDepth 100000 in
theorem sumUpdates_lifted (os : Os) (started : os.Started) (H : Type) (enc : TypeId × Value → H) :
    ReturnsInHanded {} Try.checked os 7 .any (Rows.sumUpdatesSpec.pre6 enc Try.prog Try.f7 Rows.sumUpdatesRow.domain false) (Rows.sumUpdatesSpec.post enc Try.prog Try.f7 false true false false) := by
  refine returnsInHanded_of_change_sized (C := Try.checked) own started (by kernel_rfl) Try.func7
    (ChangeSpec.witness6 (enc := enc) (C := Try.checked) false ⟨#[], #[.slice none 0 0, .int .i64 0, .int .u16 0], []⟩ 8 (by kernel_rfl) (by kernel_rfl) (by kernel_rfl) (by kernel_rfl)) ?_
  intro W base args ds gs before hval0 hW _ hsz0 _
  have hsz : (DataW.weightsEach Try.prog (Try.f7.params.toList ++ Rows.sumUpdatesSpec.plain.varTypes Try.prog) (ds ++ gs)).all (· ≤ reachBytes) = true := hsz0
  clear hsz0
  have hval : ∀ (j : Nat) t v, Try.f7.params[j]? = some t → args[j]? = some v → Value.okWide Try.prog W .any base t v := hval0
  have hW' := hW
  obtain ⟨p, q, hA0, hV, rfl, _, _⟩ := hW
  have hA : DataW.TrodAll enc Try.prog W 0 (fun _ => true) true Try.f7.params.toList args.toList ds p := hA0
  rw [Try.params7] at hA hval hsz
  obtain ⟨v0, vs0, d0, ds0, p0, q0, hargs, rfl, rfl, h0, r0⟩ := trodAll_cons hA
  obtain ⟨v1, vs1, d1, ds1, p1, q1, rfl, rfl, rfl, h1, r1⟩ := trodAll_cons r0
  obtain ⟨v2, vs2, d2, ds2, p2, q2, rfl, rfl, rfl, h2, r2⟩ := trodAll_cons r1
  obtain ⟨rfl, rfl, rfl⟩ := trodAll_nil r2
  obtain rfl : args = #[v0, v1, v2] := by cases args; simp_all
  obtain ⟨rfl, rfl⟩ := trodVars_none hV
  obtain ⟨a0, len0, cap0, rfl⟩ := okWide_slice Try.underlying22 (hval 0 22 v0 rfl rfl)
  have k0 := h0
  have lt0 : ∀ x ∈ p0, x.block < W.heap.size := by obtain ⟨m, hm⟩ := k0; exact DataW.trod_lt m _ _ _ hm
  obtain ⟨z0, B0, C0, M0⟩ := open_bytes 0 h0 hsz rfl rfl
  obtain ⟨a1, rfl, rfl, rfl, w1⟩ := open_int Try.underlying3 (hval 1 3 v1 rfl rfl) h1
  obtain ⟨a2, rfl, rfl, rfl, w2⟩ := open_int Try.underlying24 (hval 2 24 v2 rfl rfl) h2
  clear hA0 hval0
  refine (sumUpdates_walk W a0 len0 cap0 z0 B0 C0 M0 a1 (bounds_i64 w1) a2 (bounds_u16 w2)).mono fun e W' ⟨he, bel⟩ => ?_
  subst he
  exact ⟨_, rfl, _, _, _, [], _, [], hW', trodAll_mk1 (shut_bool Try.underlying4 _), (trodAll_cons_mk (Below.trod laidOut (by kernel_rfl) (of_decide_eq_true (by kernel_rfl)) k0 bel lt0) (trodAll_cons_mk (shut_int Try.underlying3 w1) (trodAll_cons_mk (shut_int Try.underlying24 w2) trodAll_mk0))), rfl, bel.frame _, fun h => by cases h⟩

theorem sumUpdates_proved : Rows.SumUpdatesSaid :=
  OpenClaim.holds_of_wide 7 Try.f7 rfl rfl rfl rfl rfl rfl rfl ⟨rfl, rfl, rfl, rfl, rfl⟩ rfl rfl rfl rfl rfl (by kernel_rfl) Try.func7 (by kernel_rfl)
    (of_decide_eq_true (by kernel_rfl)) (by unfold Func.isWrapper; first | (rw [if_pos (by decide +kernel)]; kernel_rfl) | (rw [if_neg (by decide +kernel)]; exact ⟨rfl, rfl⟩))
    (fun os started H enc _ => sumUpdates_lifted os started H enc)
#print axioms sumUpdates_proved
end Go.Proofs.Ytamfgjeocmdedaa
