/- For every slice of bytes b and every number at the law SumPieces returns true, and its arguments read as they did; no condition. -/
import Derived.Test.YtamfgjeocmdedaaFrom
import Derived.Deep.RegionHeld3
import Derived.Deep.RegionWith
import Derived.Deep.DrawnRows
namespace Go.Proofs.Ytamfgjeocmdedaa
open Go.ChangeShapes Go.WideShapes Go.ChangeAt Go.RowKit

attribute [local go_sem ↓] Go.wp_at_zero Go.wp_at_succ

theorem wsum_nil_drop (zs : List Int) (n : Nat) (h : zs.length = n) : wsum (zs.drop n) = 0 := wsum_drop0 _ _ (by omega)

set_option maxHeartbeats 2000000 in
theorem pieces_some (b off n cap : Nat) (zs : List Int) (x : Int) (_hx : -9223372036854775808 ≤ x ∧ x ≤ 9223372036854775807) (w : World) (h : BS w (some ⟨b, off, none⟩) n zs) (hn : 0 < n) (hcap : n ≤ cap) (hm : cap ≤ 140737488355328) :
    Calls Try.prog 5 #[.slice (some ⟨b, off, none⟩) n cap, .int .i64 x] w fun e w' => e = .returned (.bool true) ∧ Below w.heap.size w w' := by
  have hr1 : -((n : Int) + 1) < x.tmod (n + 1) := by
    have := Int.lt_tmod_of_pos x (show (0 : Int) < n + 1 by omega); omega
  have hr2 : x.tmod ((n : Int) + 1) < n + 1 := Int.tmod_lt_of_pos x (by omega)
  obtain ⟨k, hkn, hke, hcase⟩ : ∃ k : Nat, (k : Int) ≤ n ∧ Hid (k % 2 = 0) ∧ ((x.tmod (n + 1) < 0 ∧ Hid ((k : Int) = x.tmod (↑n + 1) + ↑n + 1 - (x.tmod (↑n + 1) + ↑n + 1) % 2)) ∨ (¬ x.tmod (n + 1) < 0 ∧ Hid ((k : Int) = x.tmod (↑n + 1) - x.tmod (↑n + 1) % 2))) := by
    by_cases hneg : x.tmod (n + 1) < 0
    · refine ⟨(x.tmod (↑n + 1) + ↑n + 1 - (x.tmod (↑n + 1) + ↑n + 1) % 2).toNat, by omega, by show _ = _; omega, .inl ⟨hneg, by show _ = _; omega⟩⟩
    · refine ⟨(x.tmod (↑n + 1) - x.tmod (↑n + 1) % 2).toNat, by omega, by show _ = _; omega, .inr ⟨hneg, by show _ = _; omega⟩⟩
  have hk0 : (0 : Int) ≤ k := by omega
  have hkc : (k : Int) ≤ cap := by omega
  have hnc : (n : Int) ≤ cap := by omega
  have hs1 := fld_bd (wsum (zs.take k)) (wsum_bd (h.take k (by omega)).fits)
  have hs2 := fld_bd (wsum (zs.drop k)) (wsum_bd (h.drop hn k (by omega)).fits)
  have hs3 : (fld (fld (wsum (zs.take k)) + fld (wsum (zs.drop k))) == fld (wsum zs)) = true := by
    rw [fld_both _ _ (wsum_bd (h.take k (by omega)).fits) (wsum_bd (h.drop hn k (by omega)).fits), wsum_take k zs k (by omega) hke.out (by have := h.len; omega)]; simp
  have H0 : Hid (BS w (some ⟨b, off, none⟩) n zs) := h
  have H1 : Hid (BS w (some ⟨b, off, none⟩) k (zs.take k)) := h.take k (by omega)
  have H2 : Hid (BS w (some ⟨b, off + k, none⟩) (n - k) (zs.drop k)) := h.drop hn k (by omega)
  clear h hke
  have hS := Below.refl w.heap.size w
  by_cases hck : cap = k
  · obtain rfl : n = k := by omega
    subst hck
    have e1 : zs.take cap = zs := List.take_of_length_le (by have := H0.out.len; omega)
    have e2 : zs.drop cap = [] := List.drop_of_length_le (by have := H0.out.len; omega)
    rw [e1, e2] at hs3
    rw [e1] at hs1
    rw [e2] at hs2
    have H3 : Hid (BS w (some ⟨b, off, none⟩) 0 []) := BS.empty _
    clear e1 e2 H1 H2
    rcases hcase with ⟨hneg, hk⟩ | ⟨hneg, hk⟩
    all_goals
      go_enter Try.func5, Try.ntmps5
      go_wp2
      rw [← hk.out]
      clear hk hneg hr1 hr2
      go_region_held3 (fun W => Below w.heap.size w W) (first | assumption | (refine Below.drew ?_; assumption) | (refine below_drewN ?_ _; assumption))
        (first
        | (go_at_call 9; refine (lives_from (w := w) ?_).mono ?_; assumption; rintro e w1 ⟨rfl, hl⟩)
        | (go_at_call 14; refine (add_from (w := w) _ _ ?_ ?_ ?_ ?_ ?_).mono ?_; omega; omega; omega; omega; assumption; rintro e w' ⟨rfl, hl⟩)
        | (go_at_call_of 10 (Value.slice (some ⟨b, off, none⟩) cap cap); refine (sum_from _ H0.out ?_).mono ?_; assumption; rintro e w' ⟨rfl, hl⟩)
        | (go_at_call_of 10 (Value.slice (some ⟨b, off, none⟩) 0 0); refine (sum_from _ H3.out ?_).mono ?_; assumption; rintro e w' ⟨rfl, hl⟩))
      go_wp2
      go_ret
      exact ⟨rfl, by assumption⟩
  · rcases hcase with ⟨hneg, hk⟩ | ⟨hneg, hk⟩
    all_goals
      go_enter Try.func5, Try.ntmps5
      go_wp2
      rw [← hk.out]
      clear hk hneg hr1 hr2
      go_region_held3 (fun W => Below w.heap.size w W) (first | assumption | (refine Below.drew ?_; assumption) | (refine below_drewN ?_ _; assumption))
        (first
        | (go_at_call 9; refine (lives_from (w := w) ?_).mono ?_; assumption; rintro e w1 ⟨rfl, hl⟩)
        | (go_at_call 14; refine (add_from (w := w) _ _ ?_ ?_ ?_ ?_ ?_).mono ?_; omega; omega; omega; omega; assumption; rintro e w' ⟨rfl, hl⟩)
        | (go_at_call_of 10 (Value.slice (some ⟨b, off, none⟩) k cap); refine (sum_from _ H1.out ?_).mono ?_; assumption; rintro e w' ⟨rfl, hl⟩)
        | (go_at_call_of 10 (Value.slice (some ⟨b, off, none⟩) n cap); refine (sum_from _ H0.out ?_).mono ?_; assumption; rintro e w' ⟨rfl, hl⟩)
        | (go_at_call_of 10 (Value.slice (some ⟨b, off + k, none⟩) (n - k) (cap - k)); refine (sum_from _ H2.out ?_).mono ?_; assumption; rintro e w' ⟨rfl, hl⟩))
      go_wp2
      go_ret
      exact ⟨rfl, by assumption⟩

set_option maxHeartbeats 2000000 in
theorem pieces_zero (a : Option Addr) (cap : Nat) (x : Int) (_hx : -9223372036854775808 ≤ x ∧ x ≤ 9223372036854775807) (w : World) (hm : cap ≤ 140737488355328) :
    Calls Try.prog 5 #[.slice a 0 cap, .int .i64 x] w fun e w' => e = .returned (.bool true) ∧ Below w.heap.size w w' := by
  have hS := Below.refl w.heap.size w
  have hb := fld_bd (wsum []) (by simp [wsum])
  have hc0 : (0 : Int) ≤ cap := by omega
  have hs3 : (fld (fld (wsum []) + fld (wsum [])) == fld (wsum [])) = true := by decide +kernel
  by_cases hck : cap = 0
  · subst hck
    go_enter Try.func5, Try.ntmps5
    go_wp2
    go_region_held3 (fun W => Below w.heap.size w W) (first | assumption | (refine Below.drew ?_; assumption) | (refine below_drewN ?_ _; assumption))
        (first
        | (go_at_call 9; refine (lives_from (w := w) ?_).mono ?_; assumption; rintro e w1 ⟨rfl, hl⟩)
        | (go_at_call 14; refine (add_from (w := w) _ _ ?_ ?_ ?_ ?_ ?_).mono ?_; omega; omega; omega; omega; assumption; rintro e w' ⟨rfl, hl⟩)
        | (go_at_call 10; refine (sum_from (w := w) _ (BS.empty _) ?_).mono ?_; assumption; rintro e w' ⟨rfl, hl⟩))
    go_wp2
    go_ret
    exact ⟨rfl, by assumption⟩
  · have hck' : ¬ 0 = cap := fun e => hck e.symm
    go_enter Try.func5, Try.ntmps5
    go_wp2
    go_region_held3 (fun W => Below w.heap.size w W) (first | assumption | (refine Below.drew ?_; assumption) | (refine below_drewN ?_ _; assumption))
        (first
        | (go_at_call 9; refine (lives_from (w := w) ?_).mono ?_; assumption; rintro e w1 ⟨rfl, hl⟩)
        | (go_at_call 14; refine (add_from (w := w) _ _ ?_ ?_ ?_ ?_ ?_).mono ?_; omega; omega; omega; omega; assumption; rintro e w' ⟨rfl, hl⟩)
        | (go_at_call 10; refine (sum_from (w := w) _ (BS.empty _) ?_).mono ?_; assumption; rintro e w' ⟨rfl, hl⟩))
    go_wp2
    go_ret
    exact ⟨rfl, by assumption⟩


theorem sumPieces_walk (w : World) (a : Option Addr) (n cap : Nat) (zs : List Int) (h : BS w a n zs) (hcap : n ≤ cap) (hm : cap ≤ 140737488351232) (x : Int) (hx : -9223372036854775808 ≤ x ∧ x ≤ 9223372036854775807) :
    Calls Try.prog 5 #[.slice a n cap, .int .i64 x] w fun e w' => e = .returned (.bool true) ∧ Below w.heap.size w w' := by
  rcases h.cells with h0 | ⟨b, off, rfl, _⟩
  · subst h0
    exact pieces_zero a cap x hx w (by omega)
  · by_cases h0 : n = 0
    · subst h0
      exact pieces_zero _ cap x hx w (by omega)
    · exact pieces_some b off n cap zs x hx w h (by omega) hcap (by omega)

set_option maxRecDepth 100000 in
theorem sumPieces_lifted (os : Os) (started : os.Started) (H : Type) (enc : TypeId × Value → H) :
    ReturnsInHanded {} Try.checked os 5 .any (Rows.sumPiecesSpec.pre6 enc Try.prog Try.f5 Rows.sumPiecesRow.domain false) (Rows.sumPiecesSpec.post enc Try.prog Try.f5 false true false false) := by
  refine returnsInHanded_of_change_sized (C := Try.checked) own started (by kernel_rfl) Try.func5
    (ChangeSpec.witness6 (enc := enc) (C := Try.checked) false ⟨#[], #[.slice none 0 0, .int .i64 0], []⟩ 8 (by kernel_rfl) (by kernel_rfl) (by kernel_rfl) (by kernel_rfl)) ?_
  intro W base args ds gs before hval0 hW _ hsz0 _
  have hsz : (DataW.weightsEach Try.prog (Try.f5.params.toList ++ Rows.sumPiecesSpec.plain.varTypes Try.prog) (ds ++ gs)).all (· ≤ reachBytes) = true := hsz0
  clear hsz0
  have hval : ∀ (j : Nat) t v, Try.f5.params[j]? = some t → args[j]? = some v → Value.okWide Try.prog W .any base t v := hval0
  have hW' := hW
  obtain ⟨p, q, hA0, hV, rfl, _, _⟩ := hW
  have hA : DataW.TrodAll enc Try.prog W 0 (fun _ => true) true Try.f5.params.toList args.toList ds p := hA0
  rw [Try.params5] at hA hval hsz
  obtain ⟨v0, vs0, d0, ds0, p0, q0, hargs, rfl, rfl, h0, r0⟩ := trodAll_cons hA
  obtain ⟨v1, vs1, d1, ds1, p1, q1, rfl, rfl, rfl, h1, r1⟩ := trodAll_cons r0
  obtain ⟨rfl, rfl, rfl⟩ := trodAll_nil r1
  obtain rfl : args = #[v0, v1] := by cases args; simp_all
  obtain ⟨rfl, rfl⟩ := trodVars_none hV
  obtain ⟨a0, len0, cap0, rfl⟩ := okWide_slice Try.underlying22 (hval 0 22 v0 rfl rfl)
  have k0 := h0
  have lt0 : ∀ x ∈ p0, x.block < W.heap.size := by obtain ⟨m, hm⟩ := k0; exact DataW.trod_lt m _ _ _ hm
  obtain ⟨z0, B0, C0, M0⟩ := open_bytes 0 h0 hsz rfl rfl
  obtain ⟨a1, rfl, rfl, rfl, w1⟩ := open_int Try.underlying3 (hval 1 3 v1 rfl rfl) h1
  clear hA0 hval0
  refine (sumPieces_walk W a0 len0 cap0 z0 B0 C0 M0 a1 (bounds_i64 w1)).mono fun e W' ⟨he, bel⟩ => ?_
  subst he
  exact ⟨_, rfl, _, _, _, [], _, [], hW', trodAll_mk1 (shut_bool Try.underlying4 _), (trodAll_cons_mk (Below.trod laidOut (by kernel_rfl) (of_decide_eq_true (by kernel_rfl)) k0 bel lt0) (trodAll_cons_mk (shut_int Try.underlying3 w1) trodAll_mk0)), rfl, bel.frame _, fun h => by cases h⟩

theorem sumPieces_proved : Rows.SumPiecesSaid :=
  OpenClaim.holds_of_wide 5 Try.f5 rfl rfl rfl rfl rfl rfl rfl ⟨rfl, rfl, rfl, rfl, rfl⟩ rfl rfl rfl rfl rfl (by kernel_rfl) Try.func5 (by kernel_rfl)
    (of_decide_eq_true (by kernel_rfl)) (by unfold Func.isWrapper; first | (rw [if_pos (by decide +kernel)]; kernel_rfl) | (rw [if_neg (by decide +kernel)]; exact ⟨rfl, rfl⟩))
    (fun os started H enc _ => sumPieces_lifted os started H enc)
#print axioms sumPieces_proved
end Go.Proofs.Ytamfgjeocmdedaa
