/- PulseDoes: the walk. Conditions: the calls can be read. -/
import Derived.Test.YthefgplobhmfcaaPT1
namespace Go.Proofs.Ythefgplobhmfcaa
open Go.RowKit Ieee
theorem cut_code {c d : Code} {Q : Exit → Act → World → Prop} {a : Act} {w : World} (h : ∀ d', Hid (d = d') → Code.wp Try.prog (c.seq d') Q a w) : Code.wp Try.prog (c.seq d) Q a w := h d rfl
set_option linter.unusedSimpArgs false in
set_option maxRecDepth 20000 in
set_option maxHeartbeats 8000000 in
theorem does_any (a : Option Addr) (n c : Nat) (l : List Opd) (w : World) (h : OS w a n l) : Calls Try.prog 3 #[.slice a n c] w fun e w' => e = .returned (.bool true) ∧ Below w.heap.size w w' := by
  have HO : Hid _ := h
  have hlen := h.len
  have hroom := h.room
  clear h
  go_enter Try.func3, Try.ntmps3
  go_wp2_with fail
  refine (new_any _).mono ?_
  rintro e W0 ⟨rfl, rfl⟩
  have TW0 : Hid _ := start_two w
  go_wp2_with fail
  refine (lives_any _).mono ?_
  rintro e W1 ⟨rfl, hb⟩
  have TW : Hid _ := TW0.out.below hb
  clear hb TW0
  generalize w.heap.size + 1 + 1 + 1 = d at *
  generalize w.heap.size + 1 = b at *
  go_wp2_with fail
  go_loopw [5, 6] (fun i _ wr => ∃ (k : Nat) (L : List Int), k ≤ n ∧ i = .int .i64 k ∧ Hid (TwoP w wr b d L L) ∧ Hid (Cnt L)) (fun i _ _ => n - (intOf i).toNat)
  case atStart => exact ⟨0, [0], Nat.zero_le _, rfl, TW, cnt_zero⟩
  case round =>
    clear TW
    obtain ⟨k, L, hk, rfl, TW, HC⟩ := hrel
    by_cases hlt : k < n
    · obtain ⟨q, hq⟩ : ∃ q, l[k]? = some q := getK (by omega)
      obtain ⟨lb, off, rfl, hop⟩ := HO.out.at hq
      have hlb : lb < w.heap.size := cell_lt hop.1
      have c1w := hop.2
      have hop2 := hop.below TW.out.bel
      have c0 := hop2.1
      have c1 := hop2.2
      have hki : (k : Int) < (n : Int) := by omega
      have hk0 : (0 : Int) ≤ (k : Int) := by omega
      clear hop hop2 hq HO
      by_cases g1 : q.k = 1
      · rw [g1] at c0
        go_wp2_with fail
        have TWd : Hid (TwoP w wr.drew b d L L) := TW.out.below (Below.refl _ _).drew
        have c1d : wr.drew.cell? ⟨lb, off + k * 2 + 1, none⟩ = some (.int .i64 q.n) := c1
        refine wp_region_held_drew (S := (fun V => V.cell? ⟨lb, off + k * 2 + 1, none⟩ = some (.int .i64 q.n))) (by kernel_rfl) c1d (fun hHeld => ?_)
        refine wpAnyH_take (i := 0) (v := ?_) rfl (by kernel_rfl) (by kernel_rfl) (by kernel_rfl) (fun _ _ _ h => h) (Or.inl ⟨by rfl, ?_⟩) (by assumption) ?_
        rotate_left
        · (intro w hSw; (try dsimp only at hSw); go_simp; try with_reducible rfl)
        try simp only [List.getElem_toArray, List.getElem_cons_zero, List.getElem_cons_succ, Act.put, List.setIfInBounds_toArray, List.set_cons_zero, List.set_cons_succ]
        refine wpAnyH_take (i := 1) (v := ?_) rfl (by kernel_rfl) (by kernel_rfl) (by kernel_rfl) (fun _ _ _ h => h) (Or.inl ⟨by rfl, ?_⟩) (by assumption) ?_
        rotate_left
        · (intro w hSw; (try dsimp only at hSw); go_simp; try with_reducible rfl)
        try simp only [List.getElem_toArray, List.getElem_cons_zero, List.getElem_cons_succ, Act.put, List.setIfInBounds_toArray, List.set_cons_zero, List.set_cons_succ]
        refine wpAnyH_take (i := 2) (v := ?_) rfl (by kernel_rfl) (by kernel_rfl) (by kernel_rfl) (fun _ _ _ h => h) (Or.inl ⟨by rfl, ?_⟩) (by assumption) ?_
        rotate_left
        · (intro w hSw; (try dsimp only at hSw); go_simp; try with_reducible rfl)
        try simp only [List.getElem_toArray, List.getElem_cons_zero, List.getElem_cons_succ, Act.put, List.setIfInBounds_toArray, List.set_cons_zero, List.set_cons_succ]
        refine wpAnyH_take (i := 3) (v := ?_) rfl (by kernel_rfl) (by kernel_rfl) (by kernel_rfl) (fun _ _ _ h => h) (Or.inl ⟨by rfl, ?_⟩) (by assumption) ?_
        rotate_left
        · (intro w hSw; (try dsimp only at hSw); go_simp; try with_reducible rfl)
        try simp only [List.getElem_toArray, List.getElem_cons_zero, List.getElem_cons_succ, Act.put, List.setIfInBounds_toArray, List.set_cons_zero, List.set_cons_succ]
        refine wpAnyH_take (i := 4) (v := ?_) rfl (by kernel_rfl) (by kernel_rfl) (by kernel_rfl) (fun _ _ _ h => h) (Or.inl ⟨by rfl, ?_⟩) (by assumption) ?_
        rotate_left
        · (intro w hSw; (try dsimp only at hSw); go_simp; try with_reducible rfl)
        try simp only [List.getElem_toArray, List.getElem_cons_zero, List.getElem_cons_succ, Act.put, List.setIfInBounds_toArray, List.set_cons_zero, List.set_cons_succ]
        refine wpAnyH_take (i := 5) (v := ?_) rfl (by kernel_rfl) (by kernel_rfl) (by kernel_rfl) (fun _ _ _ h => h) (Or.inl ⟨by rfl, ?_⟩) (by assumption) ?_
        rotate_left
        · (intro w hSw; (try dsimp only at hSw); go_simp; try with_reducible rfl)
        try simp only [List.getElem_toArray, List.getElem_cons_zero, List.getElem_cons_succ, Act.put, List.setIfInBounds_toArray, List.set_cons_zero, List.set_cons_succ]
        refine wpAnyH_take (i := 7) (v := ?_) rfl (by kernel_rfl) (by kernel_rfl) (by kernel_rfl) (fun _ _ _ h => h) (Or.inl ⟨by rfl, ?_⟩) (by assumption) ?_
        rotate_left
        · (intro w hSw; (try dsimp only at hSw); go_simp; try with_reducible rfl)
        try simp only [List.getElem_toArray, List.getElem_cons_zero, List.getElem_cons_succ, Act.put, List.setIfInBounds_toArray, List.set_cons_zero, List.set_cons_succ]
        refine wpAnyH_take (i := 8) (v := ?_) rfl (by kernel_rfl) (by kernel_rfl) (by kernel_rfl) (fun _ _ _ h => h) (Or.inl ⟨by rfl, ?_⟩) (by assumption) ?_
        rotate_left
        · (intro w hSw; (try dsimp only at hSw); go_simp; try with_reducible rfl)
        try simp only [List.getElem_toArray, List.getElem_cons_zero, List.getElem_cons_succ, Act.put, List.setIfInBounds_toArray, List.set_cons_zero, List.set_cons_succ]
        refine wpAnyH_take (i := 9) (v := ?_) rfl (by kernel_rfl) (by kernel_rfl) (by kernel_rfl) (fun _ _ _ h => h) (Or.inl ⟨by rfl, ?_⟩) (by assumption) ?_
        rotate_left
        · (intro w hSw; (try dsimp only at hSw); go_simp; try with_reducible rfl)
        try simp only [List.getElem_toArray, List.getElem_cons_zero, List.getElem_cons_succ, Act.put, List.setIfInBounds_toArray, List.set_cons_zero, List.set_cons_succ]
        refine wpAnyH_take (i := 10) (v := ?_) rfl (by kernel_rfl) (by kernel_rfl) (by kernel_rfl) (fun _ _ _ h => h) (Or.inl ⟨by rfl, ?_⟩) (by assumption) ?_
        rotate_left
        · (intro w hSw; (try dsimp only at hSw); go_simp; try with_reducible rfl)
        try simp only [List.getElem_toArray, List.getElem_cons_zero, List.getElem_cons_succ, Act.put, List.setIfInBounds_toArray, List.set_cons_zero, List.set_cons_succ]
        refine wpAnyH_take (i := 11) (v := ?_) rfl (by kernel_rfl) (by kernel_rfl) (by kernel_rfl) (fun _ _ _ h => h) (Or.inl ⟨by rfl, ?_⟩) (by assumption) ?_
        rotate_left
        · (intro w hSw; (try dsimp only at hSw); go_simp; try with_reducible rfl)
        try simp only [List.getElem_toArray, List.getElem_cons_zero, List.getElem_cons_succ, Act.put, List.setIfInBounds_toArray, List.set_cons_zero, List.set_cons_succ]
        refine wpAnyH_take (i := 12) (v := ?_) rfl (by kernel_rfl) (by kernel_rfl) (by kernel_rfl) (fun _ _ _ h => h) (Or.inl ⟨by rfl, ?_⟩) (by assumption) ?_
        rotate_left
        · (intro w hSw; (try dsimp only at hSw); go_simp; try with_reducible rfl)
        try simp only [List.getElem_toArray, List.getElem_cons_zero, List.getElem_cons_succ, Act.put, List.setIfInBounds_toArray, List.set_cons_zero, List.set_cons_succ]
        refine wpAnyH_ready (rs := [6]) (by kernel_rfl) (by simp) ?_
        refine AllReadyH.cons (o := _) rfl (fun K hK => ?_) AllReadyH.nil
        go_simp
        refine Calls.mono (two_count TWd.out HC.out q.n) ?_
        rintro e W3 ⟨rfl, h9⟩
        go_wp2_with fail
        have c3 : W3.cell? ⟨lb, off + k * 2 + 1, none⟩ = some (.int .i64 q.n) := (h9.out.bel.cell hlb).trans c1w
        refine hK _ _ c3 (fun hHeld2 => ?_)
        clear hK K hHeld
        try simp only [List.getElem_toArray, List.getElem_cons_zero, List.getElem_cons_succ, Act.put, List.setIfInBounds_toArray, List.set_cons_zero, List.set_cons_succ]
        refine wpAnyH_ready (rs := [13]) (by kernel_rfl) (by simp) ?_
        refine AllReadyH.cons (o := _) rfl (fun K hK => ?_) AllReadyH.nil
        go_simp
        refine Calls.mono (two_rcount h9.out HC.out q.n) ?_
        rintro e W4 ⟨rfl, h8⟩
        go_wp2_with fail
        have c4 : W4.cell? ⟨lb, off + k * 2 + 1, none⟩ = some (.int .i64 q.n) := (h8.out.bel.cell hlb).trans c1w
        refine hK _ _ c4 (fun hHeld3 => ?_)
        clear hK K hHeld2
        try simp only [List.getElem_toArray, List.getElem_cons_zero, List.getElem_cons_succ, Act.put, List.setIfInBounds_toArray, List.set_cons_zero, List.set_cons_succ]
        refine wpAnyH_take (i := 14) (v := ?_) rfl (by kernel_rfl) (by kernel_rfl) (by kernel_rfl) (fun _ _ _ h => h) (Or.inl ⟨by rfl, ?_⟩) (by assumption) ?_
        rotate_left
        · (intro w hSw; (try dsimp only at hSw); go_simp; try with_reducible rfl)
        try simp only [List.getElem_toArray, List.getElem_cons_zero, List.getElem_cons_succ, Act.put, List.setIfInBounds_toArray, List.set_cons_zero, List.set_cons_succ]
        refine wpAnyH_take (i := 15) (v := ?_) rfl (by kernel_rfl) (by kernel_rfl) (by kernel_rfl) (fun _ _ _ h => h) (Or.inl ⟨by rfl, ?_⟩) (by assumption) ?_
        rotate_left
        · (intro w hSw; (try dsimp only at hSw); go_simp; try with_reducible rfl)
        try simp only [List.getElem_toArray, List.getElem_cons_zero, List.getElem_cons_succ, Act.put, List.setIfInBounds_toArray, List.set_cons_zero, List.set_cons_succ]
        refine wpAnyH_done (by kernel_rfl) ?_ _
        go_wp2
        go_roundw
        case rel => exact ⟨k + 1, cntL L q.n, by omega, by go_num, h8, HC.out.count q.n⟩
        case measure => simp [intOf]; omega
      by_cases g2 : q.k = 2
      · rw [g2] at c0
        go_wp2_with fail
        have TWd : Hid (TwoP w wr.drew b d L L) := TW.out.below (Below.refl _ _).drew
        have c1d : wr.drew.cell? ⟨lb, off + k * 2 + 1, none⟩ = some (.int .i64 q.n) := c1
        refine wp_region_held_drew (S := (fun V => V.cell? ⟨lb, off + k * 2 + 1, none⟩ = some (.int .i64 q.n))) (by kernel_rfl) c1d (fun hHeld => ?_)
        refine wpAnyH_take (i := 0) (v := ?_) rfl (by kernel_rfl) (by kernel_rfl) (by kernel_rfl) (fun _ _ _ h => h) (Or.inl ⟨by rfl, ?_⟩) (by assumption) ?_
        rotate_left
        · (intro w hSw; (try dsimp only at hSw); go_simp; try with_reducible rfl)
        try simp only [List.getElem_toArray, List.getElem_cons_zero, List.getElem_cons_succ, Act.put, List.setIfInBounds_toArray, List.set_cons_zero, List.set_cons_succ]
        refine wpAnyH_take (i := 1) (v := ?_) rfl (by kernel_rfl) (by kernel_rfl) (by kernel_rfl) (fun _ _ _ h => h) (Or.inl ⟨by rfl, ?_⟩) (by assumption) ?_
        rotate_left
        · (intro w hSw; (try dsimp only at hSw); go_simp; try with_reducible rfl)
        try simp only [List.getElem_toArray, List.getElem_cons_zero, List.getElem_cons_succ, Act.put, List.setIfInBounds_toArray, List.set_cons_zero, List.set_cons_succ]
        refine wpAnyH_take (i := 2) (v := ?_) rfl (by kernel_rfl) (by kernel_rfl) (by kernel_rfl) (fun _ _ _ h => h) (Or.inl ⟨by rfl, ?_⟩) (by assumption) ?_
        rotate_left
        · (intro w hSw; (try dsimp only at hSw); go_simp; try with_reducible rfl)
        try simp only [List.getElem_toArray, List.getElem_cons_zero, List.getElem_cons_succ, Act.put, List.setIfInBounds_toArray, List.set_cons_zero, List.set_cons_succ]
        refine wpAnyH_take (i := 3) (v := ?_) rfl (by kernel_rfl) (by kernel_rfl) (by kernel_rfl) (fun _ _ _ h => h) (Or.inl ⟨by rfl, ?_⟩) (by assumption) ?_
        rotate_left
        · (intro w hSw; (try dsimp only at hSw); go_simp; try with_reducible rfl)
        try simp only [List.getElem_toArray, List.getElem_cons_zero, List.getElem_cons_succ, Act.put, List.setIfInBounds_toArray, List.set_cons_zero, List.set_cons_succ]
        refine wpAnyH_take (i := 4) (v := ?_) rfl (by kernel_rfl) (by kernel_rfl) (by kernel_rfl) (fun _ _ _ h => h) (Or.inl ⟨by rfl, ?_⟩) (by assumption) ?_
        rotate_left
        · (intro w hSw; (try dsimp only at hSw); go_simp; try with_reducible rfl)
        try simp only [List.getElem_toArray, List.getElem_cons_zero, List.getElem_cons_succ, Act.put, List.setIfInBounds_toArray, List.set_cons_zero, List.set_cons_succ]
        refine wpAnyH_take (i := 5) (v := ?_) rfl (by kernel_rfl) (by kernel_rfl) (by kernel_rfl) (fun _ _ _ h => h) (Or.inl ⟨by rfl, ?_⟩) (by assumption) ?_
        rotate_left
        · (intro w hSw; (try dsimp only at hSw); go_simp; try with_reducible rfl)
        try simp only [List.getElem_toArray, List.getElem_cons_zero, List.getElem_cons_succ, Act.put, List.setIfInBounds_toArray, List.set_cons_zero, List.set_cons_succ]
        refine wpAnyH_take (i := 7) (v := ?_) rfl (by kernel_rfl) (by kernel_rfl) (by kernel_rfl) (fun _ _ _ h => h) (Or.inl ⟨by rfl, ?_⟩) (by assumption) ?_
        rotate_left
        · (intro w hSw; (try dsimp only at hSw); go_simp; try with_reducible rfl)
        try simp only [List.getElem_toArray, List.getElem_cons_zero, List.getElem_cons_succ, Act.put, List.setIfInBounds_toArray, List.set_cons_zero, List.set_cons_succ]
        refine wpAnyH_take (i := 8) (v := ?_) rfl (by kernel_rfl) (by kernel_rfl) (by kernel_rfl) (fun _ _ _ h => h) (Or.inl ⟨by rfl, ?_⟩) (by assumption) ?_
        rotate_left
        · (intro w hSw; (try dsimp only at hSw); go_simp; try with_reducible rfl)
        try simp only [List.getElem_toArray, List.getElem_cons_zero, List.getElem_cons_succ, Act.put, List.setIfInBounds_toArray, List.set_cons_zero, List.set_cons_succ]
        refine wpAnyH_take (i := 9) (v := ?_) rfl (by kernel_rfl) (by kernel_rfl) (by kernel_rfl) (fun _ _ _ h => h) (Or.inl ⟨by rfl, ?_⟩) (by assumption) ?_
        rotate_left
        · (intro w hSw; (try dsimp only at hSw); go_simp; try with_reducible rfl)
        try simp only [List.getElem_toArray, List.getElem_cons_zero, List.getElem_cons_succ, Act.put, List.setIfInBounds_toArray, List.set_cons_zero, List.set_cons_succ]
        refine wpAnyH_take (i := 10) (v := ?_) rfl (by kernel_rfl) (by kernel_rfl) (by kernel_rfl) (fun _ _ _ h => h) (Or.inl ⟨by rfl, ?_⟩) (by assumption) ?_
        rotate_left
        · (intro w hSw; (try dsimp only at hSw); go_simp; try with_reducible rfl)
        try simp only [List.getElem_toArray, List.getElem_cons_zero, List.getElem_cons_succ, Act.put, List.setIfInBounds_toArray, List.set_cons_zero, List.set_cons_succ]
        refine wpAnyH_take (i := 11) (v := ?_) rfl (by kernel_rfl) (by kernel_rfl) (by kernel_rfl) (fun _ _ _ h => h) (Or.inl ⟨by rfl, ?_⟩) (by assumption) ?_
        rotate_left
        · (intro w hSw; (try dsimp only at hSw); go_simp; try with_reducible rfl)
        try simp only [List.getElem_toArray, List.getElem_cons_zero, List.getElem_cons_succ, Act.put, List.setIfInBounds_toArray, List.set_cons_zero, List.set_cons_succ]
        refine wpAnyH_take (i := 12) (v := ?_) rfl (by kernel_rfl) (by kernel_rfl) (by kernel_rfl) (fun _ _ _ h => h) (Or.inl ⟨by rfl, ?_⟩) (by assumption) ?_
        rotate_left
        · (intro w hSw; (try dsimp only at hSw); go_simp; try with_reducible rfl)
        try simp only [List.getElem_toArray, List.getElem_cons_zero, List.getElem_cons_succ, Act.put, List.setIfInBounds_toArray, List.set_cons_zero, List.set_cons_succ]
        refine wpAnyH_ready (rs := [6]) (by kernel_rfl) (by simp) ?_
        refine AllReadyH.cons (o := _) rfl (fun K hK => ?_) AllReadyH.nil
        go_simp
        refine Calls.mono (two_tick TWd.out HC.out q.n) ?_
        rintro e W3 ⟨rfl, h9⟩
        go_wp2_with fail
        have c3 : W3.cell? ⟨lb, off + k * 2 + 1, none⟩ = some (.int .i64 q.n) := (h9.out.bel.cell hlb).trans c1w
        refine hK _ _ c3 (fun hHeld2 => ?_)
        clear hK K hHeld
        try simp only [List.getElem_toArray, List.getElem_cons_zero, List.getElem_cons_succ, Act.put, List.setIfInBounds_toArray, List.set_cons_zero, List.set_cons_succ]
        refine wpAnyH_ready (rs := [13]) (by kernel_rfl) (by simp) ?_
        refine AllReadyH.cons (o := _) rfl (fun K hK => ?_) AllReadyH.nil
        go_simp
        refine Calls.mono (two_rtick h9.out HC.out q.n) ?_
        rintro e W4 ⟨rfl, h8⟩
        go_wp2_with fail
        have c4 : W4.cell? ⟨lb, off + k * 2 + 1, none⟩ = some (.int .i64 q.n) := (h8.out.bel.cell hlb).trans c1w
        refine hK _ _ c4 (fun hHeld3 => ?_)
        clear hK K hHeld2
        try simp only [List.getElem_toArray, List.getElem_cons_zero, List.getElem_cons_succ, Act.put, List.setIfInBounds_toArray, List.set_cons_zero, List.set_cons_succ]
        refine wpAnyH_take (i := 14) (v := ?_) rfl (by kernel_rfl) (by kernel_rfl) (by kernel_rfl) (fun _ _ _ h => h) (Or.inl ⟨by rfl, ?_⟩) (by assumption) ?_
        rotate_left
        · (intro w hSw; (try dsimp only at hSw); go_simp; try with_reducible rfl)
        try simp only [List.getElem_toArray, List.getElem_cons_zero, List.getElem_cons_succ, Act.put, List.setIfInBounds_toArray, List.set_cons_zero, List.set_cons_succ]
        refine wpAnyH_take (i := 15) (v := ?_) rfl (by kernel_rfl) (by kernel_rfl) (by kernel_rfl) (fun _ _ _ h => h) (Or.inl ⟨by rfl, ?_⟩) (by assumption) ?_
        rotate_left
        · (intro w hSw; (try dsimp only at hSw); go_simp; try with_reducible rfl)
        try simp only [List.getElem_toArray, List.getElem_cons_zero, List.getElem_cons_succ, Act.put, List.setIfInBounds_toArray, List.set_cons_zero, List.set_cons_succ]
        refine wpAnyH_done (by kernel_rfl) ?_ _
        go_wp2
        go_roundw
        case rel => exact ⟨k + 1, tckL L q.n, by omega, by go_num, h8, HC.out.tick q.n⟩
        case measure => simp [intOf]; omega
      by_cases g3 : q.k = 3
      · rw [g3] at c0
        go_wp2_with fail
        obtain ⟨pa, pn, pc, hP⟩ := TW.out.p
        obtain ⟨xa, xn, xc, hX⟩ := TW.out.x
        have HP : Hid _ := hP
        have HX : Hid _ := hX
        have hx0 := hX.cell
        have hxl := hX.is.len
        have hpl := hP.is.len
        have hp0 : 0 < pn := by have := HC.out.one; omega
        obtain rfl : xn = pn := by omega
        clear hP hX hxl hpl
        go_quiet (first
          | (go_at_call 15; exact Calls.quiet_of_same (at_any _ _ _ _ L _ _ (HP.out.drew _) hp0))
          | (go_at_call 16; exact Calls.quiet_of_same (rat_any _ _ _ _ L _ _ (HX.out.drew _)))
          | fail)
        go_wp2
        go_roundw
        case rel => exact ⟨k + 1, L, by omega, by go_num, TW.out.below (below_drewN (Below.refl _ _) _), HC.out⟩
        case measure => simp [intOf]; omega
      by_cases g4 : q.k = 4
      · rw [g4] at c0
        obtain ⟨pa, pn, pc, hP⟩ := TW.out.p
        obtain ⟨xa, xn, xc, hX⟩ := TW.out.x
        have HP : Hid _ := hP
        have HX : Hid _ := hX
        clear hP hX
        go_wp2_with fail
        refine (asks_any _ _ _ _ _ _ _ _ L _ _ HP.out HX.out HC.out).mono ?_
        rintro e W3 ⟨rfl, hm⟩
        have TW3 : Hid _ := TW.out.below (drew_below hm)
        clear hm
        go_wp2
        go_roundw
        case rel => exact ⟨k + 1, L, by omega, by go_num, TW3, HC⟩
        case measure => simp [intOf]; omega
      by_cases g5 : q.k = 5
      · rw [g5] at c0
        go_wp2_with fail
        obtain ⟨pa, pn, pc, hP⟩ := TW.out.p
        obtain ⟨xa, xn, xc, hX⟩ := TW.out.x
        have HP : Hid _ := hP
        have HX : Hid _ := hX
        have hx0 := hX.cell
        have hxl := hX.is.len
        have hpl := hP.is.len
        have hp0 : 0 < pn := by have := HC.out.one; omega
        obtain rfl : xn = pn := by omega
        clear hP hX hxl hpl
        go_quiet (first
          | (go_at_call 18; exact Calls.quiet_of_same (fourthz_any _ _ _ _ L _ _ (HP.out.drew _) HC.out))
          | (go_at_call 19; exact Calls.quiet_of_same (rfourth_any _ _ _ _ L _ _ (HX.out.drew _) HC.out))
          | fail)
        go_wp2
        go_roundw
        case rel => exact ⟨k + 1, L, by omega, by go_num, TW.out.below (below_drewN (Below.refl _ _) _), HC.out⟩
        case measure => simp [intOf]; omega
      · have k1 : (q.k == 1) = false := by simpa using g1
        have k2 : (q.k == 2) = false := by simpa using g2
        have k3 : (q.k == 3) = false := by simpa using g3
        have k4 : (q.k == 4) = false := by simpa using g4
        have k5 : (q.k == 5) = false := by simpa using g5
        clear g1 g2 g3 g4 g5
        go_wp2_with fail
        obtain ⟨pa, pn, pc, hP⟩ := TW.out.p
        obtain ⟨xa, xn, xc, hX⟩ := TW.out.x
        have HP : Hid _ := hP
        have HX : Hid _ := hX
        have hx0 := hX.cell
        have hxl := hX.is.len
        have hpl := hP.is.len
        have hp0 : 0 < pn := by have := HC.out.one; omega
        obtain rfl : xn = pn := by omega
        clear hP hX hxl hpl
        go_quiet (first
          | (go_at_call 20; exact Calls.quiet_of_same (ticks_any _ _ _ _ L _ (HP.out.drew _) hp0))
          | fail)
        go_wp2
        go_roundw
        case rel => exact ⟨k + 1, L, by omega, by go_num, TW.out.below (below_drewN (Below.refl _ _) _), HC.out⟩
        case measure => simp [intOf]; omega
    · have hnlt : ¬ (k : Int) < (n : Int) := by omega
      obtain ⟨pa, pn, pc, hP⟩ := TW.out.p
      obtain ⟨xa, xn, xc, hX⟩ := TW.out.x
      have HP : Hid _ := hP
      have HX : Hid _ := hX
      have HB : Hid _ := TW.out.bel
      clear hP hX TW HO
      go_wp2_with fail
      refine (asks_any _ _ _ _ _ _ _ _ L 1 _ HP.out HX.out HC.out).mono ?_
      rintro e V1 ⟨rfl, hm⟩
      replace HP : Hid _ := HP.out.below (drew_below hm)
      replace HX : Hid _ := HX.out.below (drew_below hm)
      replace HB : Hid (Below w.heap.size w V1) := HB.out.trans ((drew_below hm).mono HB.out.size)
      clear hm
      go_wp2_with fail
      refine (asks_any _ _ _ _ _ _ _ _ L 2 _ HP.out HX.out HC.out).mono ?_
      rintro e V2 ⟨rfl, hm⟩
      replace HP : Hid _ := HP.out.below (drew_below hm)
      replace HX : Hid _ := HX.out.below (drew_below hm)
      replace HB : Hid (Below w.heap.size w V2) := HB.out.trans ((drew_below hm).mono HB.out.size)
      clear hm
      go_wp2_with fail
      refine (asks_any _ _ _ _ _ _ _ _ L 4 _ HP.out HX.out HC.out).mono ?_
      rintro e V4 ⟨rfl, hm⟩
      replace HP : Hid _ := HP.out.below (drew_below hm)
      replace HX : Hid _ := HX.out.below (drew_below hm)
      replace HB : Hid (Below w.heap.size w V4) := HB.out.trans ((drew_below hm).mono HB.out.size)
      clear hm
      go_wp2
      go_ret
      exact ⟨rfl, HB.out⟩
end Go.Proofs.Ythefgplobhmfcaa
