/- What readOptions of package dhcp answers at any readable bytes: the options up to their end, or that there is no end. Conditions: the bytes can be read; not too many options (a hypothesis). -/
import Derived.Test.YtglaheblbomhpaaGA
import Derived.Deep.RegionHeld3
import Derived.Deep.RegionWith
import Derived.Deep.DrawnRows
import Derived.Deep.AppendLies
namespace Go.Proofs.Ytglaheblbomhpaa
open Go.RowKit
attribute [local go_sem ↓] Go.wp_at_zero Go.wp_at_succ

set_option linter.unusedSimpArgs false in
set_option maxHeartbeats 4000000 in
theorem readOpts_all (w : World) (b off n cap : Nat) (zs : List Int) (h : BS w (some ⟨b, off, none⟩) n zs) (hcap : n ≤ cap) (hb : b < w.heap.size) (hfew : ∀ (acc : List Opt) (k : Nat), acc.length ≤ k → k ≤ n → parseO zs = (parseO (zs.drop k)).map (acc ++ ·) → acc.length ≤ 2000000) :
    Calls Try.prog 19 #[.slice (some ⟨b, off, none⟩) n cap] w fun e w' => ∃ a cap', e = .returned (optsV (parseO zs) a cap') ∧ Below w.heap.size w w' ∧ (∀ os, parseO zs = some os → OS w' a os.length os ∧ (os ≠ [] → ∃ g, a = some ⟨g, 0, none⟩ ∧ w.heap.size ≤ g)) := by
  have hl := h.len
  have hr := h.room
  have H : Hid _ := h
  have HFW : Hid _ := hfew
  clear h hfew
  go_enter Try.func19, Try.ntmps19
  go_wp2_with fail
  refine scope_loop 1 (ReadAt w b off n cap zs) (fun a' w' => n - slotAt 5 a' w') rfl ?_ ?_
  · rintro a' wr ⟨k, acc, v, u6, u7, u8, u9, u10, u11, u12, u13, u14, u15, u16, u17, u18, u19, u20, u21, u22, u23, u24, u25, u26, u27, u28, u29, u30, u31, u32, u33, u34, u35, u36, u37, u38, u39, u40, u41, u42, u43, u44, u45, u46, u47, u48, u49, u50, u51, u52, u53, u54, u55, rfl, hP⟩ IH
    have hk := hP.out.le
    by_cases hlt : k = n
    · have e0 : ((k : Int) == (n : Int)) = true := by simp [hlt]
      have hPn : Hid (parseO zs = none) := by
        show _ = _
        rw [hP.out.same, List.drop_of_length_le (by omega), parse_nil]; rfl
      go_wp2_with fail
      go_step3
      show FromLabel _ _ _ _ _ _
      refine from_label rfl ?_
      go_wp2
      simp only [Exit.jumpTo]
      go_ret2
      exact ⟨none, 0, by rw [hPn.out]; rfl, hP.out.bel, fun os h => by rw [hPn.out] at h; cases h⟩
    · have hkn : k < n := by omega
      have hkI : (k : Int) < (n : Int) := by omega
      have e0 : ((k : Int) == (n : Int)) = false := by simp; omega
      obtain ⟨va, vc, rfl⟩ : ∃ a c, v = .slice a acc.length c := by
        rcases hP.out.own.2 with ⟨rfl, h0⟩ | ⟨g, c, cur, rfl, _⟩
        · exact ⟨none, 0, by rw [h0]⟩
        · exact ⟨_, c, rfl⟩
      have hbs := H.out.below hP.out.bel
      have hcell : ∀ j, j < n → wr.cell? ⟨b, off + j, none⟩ = some (.int .u8 (zs.getD j 0)) := fun j hj => by
        rcases hbs.cells with h0 | ⟨b', off', e, hc⟩
        · omega
        · cases e; exact hc j (by omega)
      have hck := hcell k hkn
      have hz := hbs.fits k
      have hdk := drop_get (zs := zs) (k := k) (by omega)
      have HD : Hid _ := hdk
      have HC : Hid _ := hcell
      have HBS : Hid _ := hbs
      clear hdk hcell hbs
      generalize hzk : zs.getD k 0 = z at *
      have HZ : Hid _ := hzk
      clear hzk
      by_cases h255 : z = 255
      · subst h255
        have hP2 : Hid (parseO zs = some acc) := by
          show _ = _
          rw [hP.out.same, HD.out, parse_end]; simp
        clear IH
        go_wp2
        simp only [Exit.jumpTo]
        go_ret2
        refine ⟨va, vc, by rw [hP2.out]; rfl, hP.out.bel, fun os h => ?_⟩
        rw [hP2.out] at h
        cases h
        have ho := hP.out.own
        rcases ho.2 with ⟨hv, h0⟩ | ⟨g, c, cur, hv, hg, _⟩
        · have ha : acc = [] := List.eq_nil_of_length_eq_zero h0
          subst ha
          exact ⟨OS.empty _, fun h => absurd rfl h⟩
        · have e1 : va = some ⟨g, 0, none⟩ := by injection hv
          subst e1
          have hb2 := HFW.out acc k hP.out.few hP.out.le hP.out.same
          exact ⟨os_own (cap := vc) ho (by omega), fun _ => ⟨g, rfl, hg⟩⟩
      have e255 : (z == 255) = false := by simp [h255]
      by_cases h00 : z = 0
      · subst h00
        have hP2 : Hid (PO w n zs (k + 1) acc (.slice va acc.length vc) wr) := ⟨by omega, by have := hP.out.few; omega, by rw [hP.out.same, HD.out, parse_fill], hP.out.own, hP.out.bel⟩
        go_wp2_with fail
        go_step3
        show FromLabel _ _ _ _ _ _
        refine IH.out _ _ ⟨k + 1, acc, _, _, _, _, _, _, _, _, _, _, _, _, _, _, _, _, _, _, _, _, _, _, _, _, _, _, _, _, _, _, _, _, _, _, _, _, _, _, _, _, _, _, _, _, _, _, _, _, _, _, _, by first | rfl | go_num, hP2⟩ ?_
        simp [slotAt, intOf]; omega
      have e00 : (z == 0) = false := by simp [h00]
      by_cases hk2 : n < k + 2
      · have hk2I : (n : Int) < (k : Int) + 2 := by omega
        have hPn : Hid (parseO zs = none) := by
          show _ = _
          rw [hP.out.same, HD.out, List.drop_of_length_le (by omega), parse_short z h255 h00]; rfl
        clear IH
        go_wp2_with fail
        go_step3
        show FromLabel _ _ _ _ _ _
        refine from_label rfl ?_
        go_wp2
        simp only [Exit.jumpTo]
        go_ret2
        exact ⟨none, 0, by rw [hPn.out]; rfl, hP.out.bel, fun os h => by rw [hPn.out] at h; cases h⟩
      have hk2I : (k : Int) + 2 ≤ (n : Int) := by omega
      have hk1I : (k : Int) + 1 < (n : Int) := by omega
      have hcl := HC.out (k + 1) (by omega)
      have hzl := HBS.out.fits (k + 1)
      have hdl := drop_get (zs := zs) (k := k + 1) (by omega)
      have HDL : Hid _ := hdl
      clear hdl
      generalize hll : zs.getD (k + 1) 0 = l at *
      have HLL : Hid _ := hll
      clear hll
      obtain ⟨L, rfl⟩ := Int.eq_ofNat_of_zero_le hzl.1
      by_cases hbe : n < k + 2 + L
      · have hbeI : (n : Int) < (k : Int) + 2 + (L : Int) := by omega
        have hPn : Hid (parseO zs = none) := by
          show _ = _
          rw [hP.out.same, HD.out, HDL.out, parse_long z _ _ h255 h00 (by simp; omega)]; rfl
        clear IH
        go_wp2_with fail
        go_step3
        show FromLabel _ _ _ _ _ _
        refine from_label rfl ?_
        go_wp2
        simp only [Exit.jumpTo]
        go_ret2
        exact ⟨none, 0, by rw [hPn.out]; rfl, hP.out.bel, fun os h => by rw [hPn.out] at h; cases h⟩
      have hbeI : (k : Int) + 2 + (L : Int) ≤ (n : Int) := by omega
      have hcI1 : (k : Int) + 2 ≤ (cap : Int) := by omega
      have hcI2 : (k : Int) + 2 + (L : Int) ≤ (cap : Int) := by omega
      have hcI3 : (k : Int) + 2 ≤ (k : Int) + 2 + (L : Int) := by omega
      have hwz0 : IntKind.i64.wrap z = z := by rw [IntKind.wrap_i64]; omega
      have hbw : b < wr.heap.size := Nat.lt_of_lt_of_le hb hP.out.bel.size
      obtain ⟨i0, hi, hzz0, hzz1, hzz2⟩ := info_parts infoOpt
      by_cases hcp : cap = k + 2
      · have hL0 : L = 0 := by omega
        subst hL0
        have hcv : ∀ (ad : Option Addr) (c : Nat), (convert 22 9 (.slice ad 0 c)).run Try.prog wr.drew = .ok (.string (strOfNums [])) wr.drew := fun ad c => run_conv_bs (P := Try.prog) c (BS.empty ad) 22 9 5 Try.underlying22 Try.underlying5 Try.underlying9
        have hlen0 := HFW.out acc k hP.out.few hP.out.le hP.out.same
        go_wp2_with fail
        refine wp_region_noPanic ?_
        refine wp_region_held_drew (S := fun W => W.cell? ⟨b, off + k, none⟩ = some (.int .u8 z)) (by kernel_rfl) ?_ (fun hHeld => ?_)
        · exact hck
        refine wpAnyH_take (i := 0) (v := ?_) rfl (by kernel_rfl) (by kernel_rfl) (by kernel_rfl) (fun _ _ _ h => h) (Or.inl ⟨by rfl, ?_⟩) (by assumption) ?_
        rotate_left
        · (intro w hSw; (try dsimp only at hSw); go_simp; try with_reducible rfl)
        try simp only [List.getElem_toArray, List.getElem_cons_zero, List.getElem_cons_succ, Act.put, List.setIfInBounds_toArray, List.set_cons_zero, List.set_cons_succ]
        refine wpAnyH_take (i := 1) (v := ?_) rfl (by kernel_rfl) (by kernel_rfl) (by kernel_rfl) (fun _ _ _ h => h) (Or.inl ⟨by rfl, ?_⟩) (by assumption) ?_
        rotate_left
        · (intro w hSw; (try dsimp only at hSw); go_simp; try with_reducible rfl)
        try simp only [List.getElem_toArray, List.getElem_cons_zero, List.getElem_cons_succ, Act.put, List.setIfInBounds_toArray, List.set_cons_zero, List.set_cons_succ]
        refine wpAnyH_take (i := 2) (v := ?_) rfl (by kernel_rfl) (by kernel_rfl) (by kernel_rfl) (fun _ _ _ h => h) (Or.inl ⟨by rfl, ?_⟩) (by assumption) ?_
        rotate_left
        · (intro w hSw; (try dsimp only at hSw); go_simp; try with_reducible rfl)
        try simp only [List.getElem_toArray, List.getElem_cons_zero, List.getElem_cons_succ, Act.put, List.setIfInBounds_toArray, List.set_cons_zero, List.set_cons_succ]
        refine wpAnyH_take (i := 3) (v := ?_) rfl (by kernel_rfl) (by kernel_rfl) (by kernel_rfl) (fun _ _ _ h => h) (Or.inl ⟨by rfl, ?_⟩) (by assumption) ?_
        rotate_left
        · (intro w hSw; (try dsimp only at hSw); go_simp; try with_reducible rfl)
        try simp only [List.getElem_toArray, List.getElem_cons_zero, List.getElem_cons_succ, Act.put, List.setIfInBounds_toArray, List.set_cons_zero, List.set_cons_succ]
        refine wpAnyH_take (i := 4) (v := ?_) rfl (by kernel_rfl) (by kernel_rfl) (by kernel_rfl) (fun _ _ _ h => h) (Or.inl ⟨by rfl, ?_⟩) (by assumption) ?_
        rotate_left
        · (intro w hSw; (try dsimp only at hSw); go_simp; try with_reducible rfl)
        try simp only [List.getElem_toArray, List.getElem_cons_zero, List.getElem_cons_succ, Act.put, List.setIfInBounds_toArray, List.set_cons_zero, List.set_cons_succ]
        refine wpAnyH_take (i := 5) (v := ?_) rfl (by kernel_rfl) (by kernel_rfl) (by kernel_rfl) (fun _ _ _ h => h) (Or.inl ⟨by rfl, ?_⟩) (by assumption) ?_
        rotate_left
        · (intro w hSw; (try dsimp only at hSw); go_simp; try with_reducible rfl)
        try simp only [List.getElem_toArray, List.getElem_cons_zero, List.getElem_cons_succ, Act.put, List.setIfInBounds_toArray, List.set_cons_zero, List.set_cons_succ]
        refine wpAnyH_take (i := 6) (v := ?_) rfl (by kernel_rfl) (by kernel_rfl) (by kernel_rfl) (fun _ _ _ h => h) (Or.inl ⟨by rfl, ?_⟩) (by assumption) ?_
        rotate_left
        · (intro w hSw; (try dsimp only at hSw); go_simp; try with_reducible rfl)
        try simp only [List.getElem_toArray, List.getElem_cons_zero, List.getElem_cons_succ, Act.put, List.setIfInBounds_toArray, List.set_cons_zero, List.set_cons_succ]
        refine wpAnyH_take (i := 7) (v := ?_) rfl (by kernel_rfl) (by kernel_rfl) (by kernel_rfl) (fun _ _ _ h => h) (Or.inl ⟨by rfl, ?_⟩) (by assumption) ?_
        rotate_left
        · (intro w hSw; (try dsimp only at hSw); go_simp; try with_reducible rfl)
        try simp only [List.getElem_toArray, List.getElem_cons_zero, List.getElem_cons_succ, Act.put, List.setIfInBounds_toArray, List.set_cons_zero, List.set_cons_succ]
        refine wpAnyH_take (i := 8) (v := ?_) rfl (by kernel_rfl) (by kernel_rfl) (by kernel_rfl) (fun _ _ _ h => h) (Or.inl ⟨by rfl, ?_⟩) (by assumption) ?_
        rotate_left
        · (intro w hSw; (try dsimp only at hSw); go_simp; try with_reducible rfl)
        try simp only [List.getElem_toArray, List.getElem_cons_zero, List.getElem_cons_succ, Act.put, List.setIfInBounds_toArray, List.set_cons_zero, List.set_cons_succ]
        refine wpAnyH_ready (rs := [9]) (by kernel_rfl) (by simp) ?_
        refine AllReadyH.cons (o := _) rfl (fun K hK => ?_) AllReadyH.nil
        go_simp
        go_wp2_with fail
        refine hK.out _ _ (by exact hck) (fun hHeld2 => ?_)
        clear hK K hHeld
        have hHeld := hHeld2
        clear hHeld2
        try simp only [List.getElem_toArray, List.getElem_cons_zero, List.getElem_cons_succ, Act.put, List.setIfInBounds_toArray, List.set_cons_zero, List.set_cons_succ]
        refine wpAnyH_ready (rs := [10]) (by kernel_rfl) (by simp) ?_
        refine AllReadyH.cons (o := _) rfl (fun K hK => ?_) AllReadyH.nil
        go_simp
        go_wp2_with fail
        refine hK.out _ _ (by exact hck) (fun hHeld2 => ?_)
        clear hK K hHeld
        have hHeld := hHeld2
        clear hHeld2
        try simp only [List.getElem_toArray, List.getElem_cons_zero, List.getElem_cons_succ, Act.put, List.setIfInBounds_toArray, List.set_cons_zero, List.set_cons_succ]
        refine wpAnyH_take (i := 11) (v := ?_) rfl (by kernel_rfl) (by kernel_rfl) (by kernel_rfl) (fun _ _ _ h => h) (Or.inl ⟨by rfl, ?_⟩) (by assumption) ?_
        rotate_left
        · (intro w hSw; (try dsimp only at hSw); go_simp; try with_reducible rfl)
        try simp only [List.getElem_toArray, List.getElem_cons_zero, List.getElem_cons_succ, Act.put, List.setIfInBounds_toArray, List.set_cons_zero, List.set_cons_succ]
        have hck2 : (wr.alloc (.cells #[.int .i64 0, .int .i64 z, .string (strOfNums [])] 45)).drew.cell? ⟨b, off + k, none⟩ = some (.int .u8 z) := ((below1 wr _).cell (p := ⟨b, off + k, none⟩) hbw).trans hck
        refine wpAnyH_ready (rs := [12]) (by kernel_rfl) (by simp) ?_
        refine AllReadyH.cons (o := _) rfl (fun K hK => ?_) AllReadyH.nil
        go_simp
        refine hK.out _ _ (by exact hck2) (fun hHeld2 => ?_)
        clear hK K hHeld
        have hHeld := hHeld2
        clear hHeld2
        try simp only [List.getElem_toArray, List.getElem_cons_zero, List.getElem_cons_succ, Act.put, List.setIfInBounds_toArray, List.set_cons_zero, List.set_cons_succ]
        have hOw : World.ownsRow (wr.alloc (.cells #[.int .i64 0, .int .i64 z, .string (strOfNums [])] 45)).drew w.heap.size 45 3 (.slice va acc.length vc) acc.length (optCells acc) := World.ownsRow.drew (World.ownsRow.alloc hP.out.own _)
        have hwz := hP.out.bel.size
        refine wpAnyH_ready (rs := [13]) (by kernel_rfl) (by simp) ?_
        refine AllReadyH.cons (o := _) rfl (fun K hK => ?_) AllReadyH.nil
        refine step_append_lies _ (by rfl) (.tmp 41) (.tmp 53) 25 (by rfl) w.heap.size 45 i0 _ 3 32 Try.underlying25 hi hzz0 hzz1 hzz2 rfl (by omega) _ acc.length _ (by rfl) hOw ⟨wr.heap.size, 0, none⟩ 1 1 [.int .i64 0, .int .i64 z, .string (strOfNums [])] (by rfl) rfl (World.news_of_block (w := (wr.alloc (.cells #[.int .i64 0, .int .i64 z, .string (strOfNums [])] 45)).drew) (heap_alloc_new wr _)) (by simp [Value.oneCell']) (by omega) (by unfold maxLen; omega) (by omega) (by simp; omega) (wr.heap.size + 1) (by simp) ?_
        intro g cap2 we h1' h2' h3' h4'
        have hck3 : we.cell? ⟨b, off + k, none⟩ = some (.int .u8 z) := (h2'.cell_far ⟨b, off + k, none⟩ (by simp; omega) (fun e => by have := (World.ownsRow.lt hOw _ e.symm).1; simp at this; omega)).trans hck2
        refine hK.out _ _ (by exact hck3) (fun hHeld2 => ?_)
        clear hK K hHeld
        have hHeld := hHeld2
        clear hHeld2
        try simp only [List.getElem_toArray, List.getElem_cons_zero, List.getElem_cons_succ, Act.put, List.setIfInBounds_toArray, List.set_cons_zero, List.set_cons_succ]
        refine wpAnyH_take (i := 14) (v := ?_) rfl (by kernel_rfl) (by kernel_rfl) (by kernel_rfl) (fun _ _ _ h => h) (Or.inl ⟨by rfl, ?_⟩) (by assumption) ?_
        rotate_left
        · (intro w hSw; (try dsimp only at hSw); go_simp; try with_reducible rfl)
        try simp only [List.getElem_toArray, List.getElem_cons_zero, List.getElem_cons_succ, Act.put, List.setIfInBounds_toArray, List.set_cons_zero, List.set_cons_succ]
        refine wpAnyH_done (by kernel_rfl) ?_ _
        refine NoPanic.normal ?_
        have hPO : PO w n zs (k + 2) (acc ++ [⟨0, z, strOfNums []⟩]) (.slice (some ⟨g, 0, none⟩) (acc.length + 1) cap2) we := by
          refine ⟨by omega, by have := hP.out.few; simp; omega, ?_, ?_, ?_⟩
          · rw [hP.out.same, HD.out, HDL.out, parse_opt z _ _ h255 h00 (by simp)]
            rw [show ((0 : Nat) : Int).toNat = 0 from rfl, List.drop_zero, List.take_zero, show k + 1 + 1 = k + 2 from by omega]
            cases parseO (zs.drop (k + 2)) <;> simp
          · rw [show (acc ++ [(⟨0, z, strOfNums []⟩ : Opt)]).length = acc.length + 1 from by simp, optCells_app]
            exact h1'
          · have bA := hP.out.bel.alloc hP.out.bel.size (.cells #[.int .i64 0, .int .i64 z, .string (strOfNums [])] 45)
            exact bA.drew.grown h2' (by simp; omega) (fun j hj => (World.ownsRow.lt hOw j hj).1)
        have HPO : Hid _ := hPO
        clear hPO h1' h2' h3' h4' hck3 hOw hHeld hck2 hcv hck hcl
        go_wp2_with fail
        go_step3
        show FromLabel _ _ _ _ _ _
        rw [← hcp]
        refine IH.out _ _ ⟨k + 2, acc ++ [⟨0, z, strOfNums []⟩], _, _, _, _, _, _, _, _, _, _, _, _, _, _, _, _, _, _, _, _, _, _, _, _, _, _, _, _, _, _, _, _, _, _, _, _, _, _, _, _, _, _, _, _, _, _, _, _, _, _, _, by first | rfl | go_num, HPO⟩ ?_
        simp [slotAt, intOf]; omega
      · have hne : ¬ cap = k + 2 := hcp
        have hcv := run_conv_bs (P := Try.prog) (cap - (k + 2)) ((HBS.out.drop (by omega) (k + 2) (by omega)).take L (by omega)).drew 22 9 5 Try.underlying22 Try.underlying5 Try.underlying9
        have hlen0 := HFW.out acc k hP.out.few hP.out.le hP.out.same
        go_wp2_with fail
        refine wp_region_noPanic ?_
        refine wp_region_held_drew (S := fun W => W.cell? ⟨b, off + k, none⟩ = some (.int .u8 z)) (by kernel_rfl) ?_ (fun hHeld => ?_)
        · exact hck
        refine wpAnyH_take (i := 0) (v := ?_) rfl (by kernel_rfl) (by kernel_rfl) (by kernel_rfl) (fun _ _ _ h => h) (Or.inl ⟨by rfl, ?_⟩) (by assumption) ?_
        rotate_left
        · (intro w hSw; (try dsimp only at hSw); go_simp; try with_reducible rfl)
        try simp only [List.getElem_toArray, List.getElem_cons_zero, List.getElem_cons_succ, Act.put, List.setIfInBounds_toArray, List.set_cons_zero, List.set_cons_succ]
        refine wpAnyH_take (i := 1) (v := ?_) rfl (by kernel_rfl) (by kernel_rfl) (by kernel_rfl) (fun _ _ _ h => h) (Or.inl ⟨by rfl, ?_⟩) (by assumption) ?_
        rotate_left
        · (intro w hSw; (try dsimp only at hSw); go_simp; try with_reducible rfl)
        try simp only [List.getElem_toArray, List.getElem_cons_zero, List.getElem_cons_succ, Act.put, List.setIfInBounds_toArray, List.set_cons_zero, List.set_cons_succ]
        refine wpAnyH_take (i := 2) (v := ?_) rfl (by kernel_rfl) (by kernel_rfl) (by kernel_rfl) (fun _ _ _ h => h) (Or.inl ⟨by rfl, ?_⟩) (by assumption) ?_
        rotate_left
        · (intro w hSw; (try dsimp only at hSw); go_simp; try with_reducible rfl)
        try simp only [List.getElem_toArray, List.getElem_cons_zero, List.getElem_cons_succ, Act.put, List.setIfInBounds_toArray, List.set_cons_zero, List.set_cons_succ]
        refine wpAnyH_take (i := 3) (v := ?_) rfl (by kernel_rfl) (by kernel_rfl) (by kernel_rfl) (fun _ _ _ h => h) (Or.inl ⟨by rfl, ?_⟩) (by assumption) ?_
        rotate_left
        · (intro w hSw; (try dsimp only at hSw); go_simp; try with_reducible rfl)
        try simp only [List.getElem_toArray, List.getElem_cons_zero, List.getElem_cons_succ, Act.put, List.setIfInBounds_toArray, List.set_cons_zero, List.set_cons_succ]
        refine wpAnyH_take (i := 4) (v := ?_) rfl (by kernel_rfl) (by kernel_rfl) (by kernel_rfl) (fun _ _ _ h => h) (Or.inl ⟨by rfl, ?_⟩) (by assumption) ?_
        rotate_left
        · (intro w hSw; (try dsimp only at hSw); go_simp; try with_reducible rfl)
        try simp only [List.getElem_toArray, List.getElem_cons_zero, List.getElem_cons_succ, Act.put, List.setIfInBounds_toArray, List.set_cons_zero, List.set_cons_succ]
        refine wpAnyH_take (i := 5) (v := ?_) rfl (by kernel_rfl) (by kernel_rfl) (by kernel_rfl) (fun _ _ _ h => h) (Or.inl ⟨by rfl, ?_⟩) (by assumption) ?_
        rotate_left
        · (intro w hSw; (try dsimp only at hSw); go_simp; try with_reducible rfl)
        try simp only [List.getElem_toArray, List.getElem_cons_zero, List.getElem_cons_succ, Act.put, List.setIfInBounds_toArray, List.set_cons_zero, List.set_cons_succ]
        refine wpAnyH_take (i := 6) (v := ?_) rfl (by kernel_rfl) (by kernel_rfl) (by kernel_rfl) (fun _ _ _ h => h) (Or.inl ⟨by rfl, ?_⟩) (by assumption) ?_
        rotate_left
        · (intro w hSw; (try dsimp only at hSw); go_simp; try with_reducible rfl)
        try simp only [List.getElem_toArray, List.getElem_cons_zero, List.getElem_cons_succ, Act.put, List.setIfInBounds_toArray, List.set_cons_zero, List.set_cons_succ]
        refine wpAnyH_take (i := 7) (v := ?_) rfl (by kernel_rfl) (by kernel_rfl) (by kernel_rfl) (fun _ _ _ h => h) (Or.inl ⟨by rfl, ?_⟩) (by assumption) ?_
        rotate_left
        · (intro w hSw; (try dsimp only at hSw); go_simp; try with_reducible rfl)
        try simp only [List.getElem_toArray, List.getElem_cons_zero, List.getElem_cons_succ, Act.put, List.setIfInBounds_toArray, List.set_cons_zero, List.set_cons_succ]
        refine wpAnyH_take (i := 8) (v := ?_) rfl (by kernel_rfl) (by kernel_rfl) (by kernel_rfl) (fun _ _ _ h => h) (Or.inl ⟨by rfl, ?_⟩) (by assumption) ?_
        rotate_left
        · (intro w hSw; (try dsimp only at hSw); go_simp; try with_reducible rfl)
        try simp only [List.getElem_toArray, List.getElem_cons_zero, List.getElem_cons_succ, Act.put, List.setIfInBounds_toArray, List.set_cons_zero, List.set_cons_succ]
        refine wpAnyH_ready (rs := [9]) (by kernel_rfl) (by simp) ?_
        refine AllReadyH.cons (o := _) rfl (fun K hK => ?_) AllReadyH.nil
        go_simp
        go_wp2_with fail
        refine hK.out _ _ (by exact hck) (fun hHeld2 => ?_)
        clear hK K hHeld
        have hHeld := hHeld2
        clear hHeld2
        try simp only [List.getElem_toArray, List.getElem_cons_zero, List.getElem_cons_succ, Act.put, List.setIfInBounds_toArray, List.set_cons_zero, List.set_cons_succ]
        refine wpAnyH_ready (rs := [10]) (by kernel_rfl) (by simp) ?_
        refine AllReadyH.cons (o := _) rfl (fun K hK => ?_) AllReadyH.nil
        go_simp
        go_wp2_with fail
        refine hK.out _ _ (by exact hck) (fun hHeld2 => ?_)
        clear hK K hHeld
        have hHeld := hHeld2
        clear hHeld2
        try simp only [List.getElem_toArray, List.getElem_cons_zero, List.getElem_cons_succ, Act.put, List.setIfInBounds_toArray, List.set_cons_zero, List.set_cons_succ]
        refine wpAnyH_take (i := 11) (v := ?_) rfl (by kernel_rfl) (by kernel_rfl) (by kernel_rfl) (fun _ _ _ h => h) (Or.inl ⟨by rfl, ?_⟩) (by assumption) ?_
        rotate_left
        · (intro w hSw; (try dsimp only at hSw); go_simp; try with_reducible rfl)
        try simp only [List.getElem_toArray, List.getElem_cons_zero, List.getElem_cons_succ, Act.put, List.setIfInBounds_toArray, List.set_cons_zero, List.set_cons_succ]
        have hck2 : (wr.alloc (.cells #[.int .i64 0, .int .i64 z, .string (strOfNums ((zs.drop (k + 2)).take L))] 45)).drew.cell? ⟨b, off + k, none⟩ = some (.int .u8 z) := ((below1 wr _).cell (p := ⟨b, off + k, none⟩) hbw).trans hck
        refine wpAnyH_ready (rs := [12]) (by kernel_rfl) (by simp) ?_
        refine AllReadyH.cons (o := _) rfl (fun K hK => ?_) AllReadyH.nil
        go_simp
        refine hK.out _ _ (by exact hck2) (fun hHeld2 => ?_)
        clear hK K hHeld
        have hHeld := hHeld2
        clear hHeld2
        try simp only [List.getElem_toArray, List.getElem_cons_zero, List.getElem_cons_succ, Act.put, List.setIfInBounds_toArray, List.set_cons_zero, List.set_cons_succ]
        have hOw : World.ownsRow (wr.alloc (.cells #[.int .i64 0, .int .i64 z, .string (strOfNums ((zs.drop (k + 2)).take L))] 45)).drew w.heap.size 45 3 (.slice va acc.length vc) acc.length (optCells acc) := World.ownsRow.drew (World.ownsRow.alloc hP.out.own _)
        have hwz := hP.out.bel.size
        refine wpAnyH_ready (rs := [13]) (by kernel_rfl) (by simp) ?_
        refine AllReadyH.cons (o := _) rfl (fun K hK => ?_) AllReadyH.nil
        refine step_append_lies _ (by rfl) (.tmp 41) (.tmp 53) 25 (by rfl) w.heap.size 45 i0 _ 3 32 Try.underlying25 hi hzz0 hzz1 hzz2 rfl (by omega) _ acc.length _ (by rfl) hOw ⟨wr.heap.size, 0, none⟩ 1 1 [.int .i64 0, .int .i64 z, .string (strOfNums ((zs.drop (k + 2)).take L))] (by rfl) rfl (World.news_of_block (w := (wr.alloc (.cells #[.int .i64 0, .int .i64 z, .string (strOfNums ((zs.drop (k + 2)).take L))] 45)).drew) (heap_alloc_new wr _)) (by simp [Value.oneCell']) (by omega) (by unfold maxLen; omega) (by omega) (by simp; omega) (wr.heap.size + 1) (by simp) ?_
        intro g cap2 we h1' h2' h3' h4'
        have hck3 : we.cell? ⟨b, off + k, none⟩ = some (.int .u8 z) := (h2'.cell_far ⟨b, off + k, none⟩ (by simp; omega) (fun e => by have := (World.ownsRow.lt hOw _ e.symm).1; simp at this; omega)).trans hck2
        refine hK.out _ _ (by exact hck3) (fun hHeld2 => ?_)
        clear hK K hHeld
        have hHeld := hHeld2
        clear hHeld2
        try simp only [List.getElem_toArray, List.getElem_cons_zero, List.getElem_cons_succ, Act.put, List.setIfInBounds_toArray, List.set_cons_zero, List.set_cons_succ]
        refine wpAnyH_take (i := 14) (v := ?_) rfl (by kernel_rfl) (by kernel_rfl) (by kernel_rfl) (fun _ _ _ h => h) (Or.inl ⟨by rfl, ?_⟩) (by assumption) ?_
        rotate_left
        · (intro w hSw; (try dsimp only at hSw); go_simp; try with_reducible rfl)
        try simp only [List.getElem_toArray, List.getElem_cons_zero, List.getElem_cons_succ, Act.put, List.setIfInBounds_toArray, List.set_cons_zero, List.set_cons_succ]
        refine wpAnyH_done (by kernel_rfl) ?_ _
        refine NoPanic.normal ?_
        have hPO : PO w n zs (k + 2 + L) (acc ++ [⟨0, z, strOfNums ((zs.drop (k + 2)).take L)⟩]) (.slice (some ⟨g, 0, none⟩) (acc.length + 1) cap2) we := by
          refine ⟨by omega, by have := hP.out.few; simp; omega, ?_, ?_, ?_⟩
          · rw [hP.out.same, HD.out, HDL.out, parse_opt z _ _ h255 h00 (by simp; omega)]
            rw [show (L : Int).toNat = L from rfl, List.drop_drop, show k + 1 + 1 + L = k + 2 + L from by omega, show k + 1 + 1 = k + 2 from by omega]
            cases parseO (zs.drop (k + 2 + L)) <;> simp
          · rw [show (acc ++ [(⟨0, z, strOfNums ((zs.drop (k + 2)).take L)⟩ : Opt)]).length = acc.length + 1 from by simp, optCells_app]
            exact h1'
          · have bA := hP.out.bel.alloc hP.out.bel.size (.cells #[.int .i64 0, .int .i64 z, .string (strOfNums ((zs.drop (k + 2)).take L))] 45)
            exact bA.drew.grown h2' (by simp; omega) (fun j hj => (World.ownsRow.lt hOw j hj).1)
        have HPO : Hid _ := hPO
        clear hPO h1' h2' h3' h4' hck3 hOw hHeld hck2 hcv hck hcl
        go_wp2_with fail
        go_step3
        show FromLabel _ _ _ _ _ _
        refine IH.out _ _ ⟨k + 2 + L, acc ++ [⟨0, z, strOfNums ((zs.drop (k + 2)).take L)⟩], _, _, _, _, _, _, _, _, _, _, _, _, _, _, _, _, _, _, _, _, _, _, _, _, _, _, _, _, _, _, _, _, _, _, _, _, _, _, _, _, _, _, _, _, _, _, _, _, _, _, _, by first | rfl | go_num, HPO⟩ ?_
        simp [slotAt, intOf]; omega
  · intro HG
    go_wp2_with fail
    go_step3
    rename_i K hK
    exact hK _ _ (HG.out _ _ ⟨0, [], _, _, _, _, _, _, _, _, _, _, _, _, _, _, _, _, _, _, _, _, _, _, _, _, _, _, _, _, _, _, _, _, _, _, _, _, _, _, _, _, _, _, _, _, _, _, _, _, _, _, _, rfl, ⟨by omega, by simp, by cases hp : parseO zs <;> simp [hp], World.ownsRow_nil _ _ _ _, Below.refl _ _⟩⟩)
end Go.Proofs.Ytglaheblbomhpaa
