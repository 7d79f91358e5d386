/- A tick ahead of all others: PulseLater's walk. Conditions: the counts can be read. -/
import Derived.Test.YthefgplobhmfcaaPK
namespace Go.Proofs.Ythefgplobhmfcaa
open Go.RowKit Ieee
theorem S4_cons (x : Int) (L : List Int) (k : Nat) (hk : k < 4) : ∀ n, S4 (x :: L) ((k + 1) % 4) (n + 1) = S4 L k n + (if (k + 1) % 4 = 0 then x else 0)
  | 0 => by simp [S4, eq_comm]
  | n + 1 => by
    rw [S4, S4_cons x L k hk n, S4]
    have e : ((n + 1) % 4 = (k + 1) % 4) ↔ n % 4 = k := by omega
    simp only [e, List.getD_cons_succ]
    omega
theorem F4_cons (L : List Int) : F4 (0 :: L) 0 = F4 L 3 ∧ F4 (0 :: L) 1 = F4 L 0 ∧ F4 (0 :: L) 2 = F4 L 1 ∧ F4 (0 :: L) 3 = F4 L 2 := by
  refine ⟨?_, ?_, ?_, ?_⟩
  · have := S4_cons 0 L 3 (by decide) L.length; simpa [F4] using this
  · have := S4_cons 0 L 0 (by decide) L.length; simpa [F4] using this
  · have := S4_cons 0 L 1 (by decide) L.length; simpa [F4] using this
  · have := S4_cons 0 L 2 (by decide) L.length; simpa [F4] using this
theorem own_one (w : World) (base : Nat) (h : base ≤ w.heap.size) : (w.alloc (.cells #[.int .i64 0] 3)).ownsRow base 3 1 (.slice (some ⟨w.heap.size, 0, none⟩) 1 1) ([0] : List Int).length (([0] : List Int).map (Value.int .i64)) :=
  ⟨rfl, .inr ⟨w.heap.size, 1, #[.int .i64 0], rfl, h, heap_alloc_new _ _, Nat.le_refl _, by decide, rfl, rfl⟩⟩
theorem IS.take {w : World} {a : Option Addr} {n : Nat} {zs : List Int} (h : IS w a n zs) (k : Nat) (hk : k ≤ n) : IS w a k (zs.take k) := by
  refine ⟨by rw [List.length_take, h.len]; omega, ?_⟩
  rcases h.cells with h0 | ⟨b, off, e, hc⟩
  · exact .inl (by omega)
  · refine .inr ⟨b, off, e, fun i t hi => hc i t ?_⟩
    rw [List.getElem?_take] at hi
    split at hi
    · exact hi
    · cases hi
/-- Of, whatever the counts. -/
theorem of_some (a : Option Addr) (n c : Nat) (L : List Int) (w : World) (h : IS w a n L) :
    Calls Try.prog 21 #[.slice a n c] w fun e w' => (∃ p r, e = .returned (.tuple #[.pointer p, .int .i64 r])) ∧ Below w.heap.size w w' := by
  cases hok : okL L
  · refine (of_no a n c L w h hok).mono ?_
    rintro e W ⟨rfl, rfl⟩
    exact ⟨⟨_, _, rfl⟩, Below.refl _ _⟩
  · refine (of_yes a n c L w h (Cnt.of hok)).mono ?_
    rintro e W ⟨b, a', c', rfl, _, hb⟩
    exact ⟨⟨_, _, rfl⟩, hb⟩
theorem Cnt.cons {L : List Int} (h : Cnt L) (hn : L.length ≤ 1000) : Cnt (0 :: L) :=
  ⟨by simp, by simp; omega, fun x hx => by
    rcases List.mem_cons.1 hx with rfl | hx
    · omega
    · exact h.each x hx⟩
set_option maxHeartbeats 4000000 in
theorem later_core (a : Option Addr) (n c N : Nat) (L0 : List Int) (w : World) (hN : N ≤ 1000) (hs : (n ≤ 1000 ∧ N = n) ∨ (1000 < n ∧ N = 1000 ∧ 1000 ≤ c)) (h : IS w a N L0) : Calls Try.prog 6 #[.slice a n c] w fun e w' => e = .returned (.bool true) ∧ Below w.heap.size w w' := by
  have H : Hid _ := h
  have hlen := h.len
  clear h
  have KEY : Hid (∀ W : World, Below w.heap.size w W → ∀ cc, ∃ a2 c2 W2, (Builtin.append_ #[26, 26] 26 #[.slice (some ⟨W.heap.size, 0, none⟩) 1 1, .slice a N cc]).run Try.prog (W.alloc (.cells #[.int .i64 0] 3)) = .ok (.slice a2 (1 + N) c2) W2 ∧ IS W2 a2 (1 + N) (0 :: L0) ∧ Below W.heap.size W W2) := by
    intro W hW cc
    obtain ⟨a2, c2, W2, hap, hrow, hgr⟩ := run_append_is _ W.heap.size _ [0] (own_one W W.heap.size (Nat.le_refl _)) a N cc L0 ((H.out.below hW).below (below1 W _)) (by simp; omega) (by simp)
    refine ⟨a2, c2, W2, hap, (own_is hrow).1, (below1 _ _).grown hgr (by simp) (fun q hq => (World.ownsRow.lt (own_one W W.heap.size (Nat.le_refl _)) q hq).1)⟩
  go_enter Try.func6, Try.ntmps6
  rcases hs with ⟨hn, rfl⟩ | ⟨hn, rfl, hc⟩
  · have hnI : (N : Int) ≤ 1000 := by omega
    go_wp2_with fail
    cases hok : okL L0
    · refine (of_no _ _ _ L0 _ H.out hok).mono ?_
      rintro e W ⟨rfl, rfl⟩
      obtain ⟨a2, c2, W2, hap, his, hb2⟩ := KEY.out _ (Below.refl _ _) c
      have HAP : Hid _ := hap
      have HIS : Hid _ := his
      have HB : Hid _ := hb2
      clear hap his hb2 KEY
      go_wp2_with (first
        | (at_builtin; refine wpList_append_run rfl _ _ 26 rfl _ _ rfl rfl _ HAP.out ?_)
        | fail)
      refine (of_some _ _ _ _ _ HIS.out).mono ?_
      rintro e W3 ⟨⟨pp, rr, rfl⟩, hb⟩
      replace HB : Hid (Below W.heap.size W W3) := HB.out.trans (hb.mono HB.out.size)
      clear hb
      go_wp2_with fail
      refine (lives_any _).mono ?_
      rintro e W4 ⟨rfl, hb⟩
      replace HB : Hid (Below W.heap.size W W4) := HB.out.trans (hb.mono HB.out.size)
      clear hb
      go_wp2_with fail
      refine (lives_any _).mono ?_
      rintro e W5 ⟨rfl, hb⟩
      replace HB : Hid (Below W.heap.size W W5) := HB.out.trans (hb.mono HB.out.size)
      clear hb
      go_wp2
      go_ret
      exact ⟨rfl, HB.out⟩
    · have HL : Hid _ := Cnt.of hok
      have HL2 : Hid _ := HL.out.cons (by omega)
      refine (of_yes _ _ _ L0 _ H.out HL.out).mono ?_
      rintro e W ⟨b, a1, c1, rfl, hP, hb⟩
      obtain ⟨a2, c2, W2, hap, his, hb2⟩ := KEY.out _ hb c
      have HAP : Hid _ := hap
      have HIS : Hid _ := his
      have HB : Hid (Below w.heap.size w W2) := hb.trans (hb2.mono hb.size)
      have HP : Hid _ := hP.below hb2
      clear hap his hb2 hb hP KEY hok
      go_wp2_with (first
        | (at_builtin; refine wpList_append_run rfl _ _ 26 rfl _ _ rfl rfl _ HAP.out ?_)
        | fail)
      refine (of_yes _ _ _ _ _ HIS.out HL2.out).mono ?_
      rintro e W3 ⟨d, a3, c3, rfl, hQ, hb⟩
      replace HB : Hid (Below w.heap.size w W3) := HB.out.trans (hb.mono HB.out.size)
      replace HP : Hid _ := HP.out.below hb
      have HQ : Hid _ := hQ
      clear hb hQ HAP HIS
      go_wp2_with fail
      refine (lives_any _).mono ?_
      rintro e W4 ⟨rfl, hb⟩
      replace HB : Hid (Below w.heap.size w W4) := HB.out.trans (hb.mono HB.out.size)
      replace HP : Hid _ := HP.out.below hb
      replace HQ : Hid _ := HQ.out.below hb
      clear hb
      go_wp2_with fail
      refine (beat_1 _ _ _ _ L0 _ HP.out HL.out).mono ?_
      rintro e W5 ⟨rfl, hb⟩
      replace HB : Hid (Below w.heap.size w W5) := HB.out.trans (hb.mono HB.out.size)
      replace HP : Hid _ := HP.out.below hb
      replace HQ : Hid _ := HQ.out.below hb
      clear hb
      go_wp2_with fail
      refine (beat_1 _ _ _ _ (0 :: L0) _ HQ.out HL2.out).mono ?_
      rintro e W6 ⟨rfl, hb⟩
      replace HB : Hid (Below w.heap.size w W6) := HB.out.trans (hb.mono HB.out.size)
      replace HP : Hid _ := HP.out.below hb
      replace HQ : Hid _ := HQ.out.below hb
      clear hb
      go_wp2_with fail
      refine (beat_2 _ _ _ _ L0 _ HP.out HL.out).mono ?_
      rintro e W7 ⟨rfl, hb⟩
      replace HB : Hid (Below w.heap.size w W7) := HB.out.trans (hb.mono HB.out.size)
      replace HP : Hid _ := HP.out.below hb
      replace HQ : Hid _ := HQ.out.below hb
      clear hb
      go_wp2_with fail
      refine (beat_2 _ _ _ _ (0 :: L0) _ HQ.out HL2.out).mono ?_
      rintro e W8 ⟨rfl, hb⟩
      replace HB : Hid (Below w.heap.size w W8) := HB.out.trans (hb.mono HB.out.size)
      replace HP : Hid _ := HP.out.below hb
      replace HQ : Hid _ := HQ.out.below hb
      clear hb
      go_wp2_with fail
      refine (beat_4 _ _ _ _ L0 _ HP.out HL.out).mono ?_
      rintro e W9 ⟨rfl, hb⟩
      replace HB : Hid (Below w.heap.size w W9) := HB.out.trans (hb.mono HB.out.size)
      replace HP : Hid _ := HP.out.below hb
      replace HQ : Hid _ := HQ.out.below hb
      clear hb
      go_wp2_with fail
      refine (beat_4 _ _ _ _ (0 :: L0) _ HQ.out HL2.out).mono ?_
      rintro e W10 ⟨rfl, hb⟩
      replace HB : Hid (Below w.heap.size w W10) := HB.out.trans (hb.mono HB.out.size)
      replace HP : Hid _ := HP.out.below hb
      replace HQ : Hid _ := HQ.out.below hb
      clear hb
      have g0 := F4_bd HL.out 0
      have g1 := F4_bd HL.out 1
      have g2 := F4_bd HL.out 2
      have g3 := F4_bd HL.out 3
      obtain ⟨h0, h1, h2, h3⟩ := F4_cons L0
      rw [h0, h1, h2, h3]
      clear h0 h1 h2 h3
      generalize F4 L0 0 = A at *
      generalize F4 L0 1 = B at *
      generalize F4 L0 2 = C at *
      generalize F4 L0 3 = D at *
      rw [show D + A + B + C = A + B + C + D by omega]
      have o1 := fl_refl (show (A + B + C + D).natAbs < 2 ^ 53 by omega)
      have o2 := fl_refl (show (D - A + B - C).natAbs < 2 ^ 53 by omega)
      have o3 := fl_refl (show (D - B).natAbs < 2 ^ 53 by omega)
      have o4 := fl_refl (show (A - C).natAbs < 2 ^ 53 by omega)
      have o5 := fl_refl (show (0 : Int).natAbs < 2 ^ 53 by decide)
      have t2 := fun (W : World) => turn_any _ _ (A - B + C - D) 0 2 (Fl.of (by omega)) (Fl.of (by decide)) W
      have t4 := fun (W : World) => turn_any _ _ (A - C) (B - D) 1 (Fl.of (by omega)) (Fl.of (by omega)) W
      rw [show quart 2 = 2 from by decide] at t2
      rw [show quart 1 = 1 from by decide] at t4
      simp only [rotR, rotI] at t2 t4
      rw [show -(A - B + C - D) = D - C + B - A by omega, show -(0 : Int) = 0 from rfl] at t2
      rw [show -(B - D) = D - B by omega] at t4
      rw [show D - C + B - A = D - A + B - C by omega] at t2
      have T2 : Hid _ := t2
      have T4 : Hid _ := t4
      clear t2 t4 g0 g1 g2 g3
      generalize floatOfInt .f64 (A + B + C + D) = z1 at *
      generalize floatOfInt .f64 (A - B + C - D) = z2 at *
      generalize floatOfInt .f64 (D - A + B - C) = z3 at *
      generalize floatOfInt .f64 (A - C) = z4 at *
      generalize floatOfInt .f64 (B - D) = z5 at *
      generalize floatOfInt .f64 (D - B) = z6 at *
      generalize floatOfInt .f64 0 = z0 at *
      go_wp2_with fail
      refine Calls.mono (T2.out _) ?_
      rintro e WX ⟨rfl, rfl⟩
      go_wp2_with fail
      refine Calls.mono (T4.out _) ?_
      rintro e WX ⟨rfl, rfl⟩
      go_wp2
      go_ret
      exact ⟨rfl, HB.out⟩
  · have hnI : (1000 : Int) < n := by omega
    go_wp2_with fail
    cases hok : okL L0
    · refine (of_no _ _ _ L0 _ H.out hok).mono ?_
      rintro e W ⟨rfl, rfl⟩
      obtain ⟨a2, c2, W2, hap, his, hb2⟩ := KEY.out _ (Below.refl _ _) c
      have HAP : Hid _ := hap
      have HIS : Hid _ := his
      have HB : Hid _ := hb2
      clear hap his hb2 KEY
      go_wp2_with (first
        | (at_builtin; refine wpList_append_run rfl _ _ 26 rfl _ _ rfl rfl _ HAP.out ?_)
        | fail)
      refine (of_some _ _ _ _ _ HIS.out).mono ?_
      rintro e W3 ⟨⟨pp, rr, rfl⟩, hb⟩
      replace HB : Hid (Below W.heap.size W W3) := HB.out.trans (hb.mono HB.out.size)
      clear hb
      go_wp2_with fail
      refine (lives_any _).mono ?_
      rintro e W4 ⟨rfl, hb⟩
      replace HB : Hid (Below W.heap.size W W4) := HB.out.trans (hb.mono HB.out.size)
      clear hb
      go_wp2_with fail
      refine (lives_any _).mono ?_
      rintro e W5 ⟨rfl, hb⟩
      replace HB : Hid (Below W.heap.size W W5) := HB.out.trans (hb.mono HB.out.size)
      clear hb
      go_wp2
      go_ret
      exact ⟨rfl, HB.out⟩
    · have HL : Hid _ := Cnt.of hok
      have HL2 : Hid _ := HL.out.cons (by omega)
      refine (of_yes _ _ _ L0 _ H.out HL.out).mono ?_
      rintro e W ⟨b, a1, c1, rfl, hP, hb⟩
      obtain ⟨a2, c2, W2, hap, his, hb2⟩ := KEY.out _ hb c
      have HAP : Hid _ := hap
      have HIS : Hid _ := his
      have HB : Hid (Below w.heap.size w W2) := hb.trans (hb2.mono hb.size)
      have HP : Hid _ := hP.below hb2
      clear hap his hb2 hb hP KEY hok
      go_wp2_with (first
        | (at_builtin; refine wpList_append_run rfl _ _ 26 rfl _ _ rfl rfl _ HAP.out ?_)
        | fail)
      refine (of_yes _ _ _ _ _ HIS.out HL2.out).mono ?_
      rintro e W3 ⟨d, a3, c3, rfl, hQ, hb⟩
      replace HB : Hid (Below w.heap.size w W3) := HB.out.trans (hb.mono HB.out.size)
      replace HP : Hid _ := HP.out.below hb
      have HQ : Hid _ := hQ
      clear hb hQ HAP HIS
      go_wp2_with fail
      refine (lives_any _).mono ?_
      rintro e W4 ⟨rfl, hb⟩
      replace HB : Hid (Below w.heap.size w W4) := HB.out.trans (hb.mono HB.out.size)
      replace HP : Hid _ := HP.out.below hb
      replace HQ : Hid _ := HQ.out.below hb
      clear hb
      go_wp2_with fail
      refine (beat_1 _ _ _ _ L0 _ HP.out HL.out).mono ?_
      rintro e W5 ⟨rfl, hb⟩
      replace HB : Hid (Below w.heap.size w W5) := HB.out.trans (hb.mono HB.out.size)
      replace HP : Hid _ := HP.out.below hb
      replace HQ : Hid _ := HQ.out.below hb
      clear hb
      go_wp2_with fail
      refine (beat_1 _ _ _ _ (0 :: L0) _ HQ.out HL2.out).mono ?_
      rintro e W6 ⟨rfl, hb⟩
      replace HB : Hid (Below w.heap.size w W6) := HB.out.trans (hb.mono HB.out.size)
      replace HP : Hid _ := HP.out.below hb
      replace HQ : Hid _ := HQ.out.below hb
      clear hb
      go_wp2_with fail
      refine (beat_2 _ _ _ _ L0 _ HP.out HL.out).mono ?_
      rintro e W7 ⟨rfl, hb⟩
      replace HB : Hid (Below w.heap.size w W7) := HB.out.trans (hb.mono HB.out.size)
      replace HP : Hid _ := HP.out.below hb
      replace HQ : Hid _ := HQ.out.below hb
      clear hb
      go_wp2_with fail
      refine (beat_2 _ _ _ _ (0 :: L0) _ HQ.out HL2.out).mono ?_
      rintro e W8 ⟨rfl, hb⟩
      replace HB : Hid (Below w.heap.size w W8) := HB.out.trans (hb.mono HB.out.size)
      replace HP : Hid _ := HP.out.below hb
      replace HQ : Hid _ := HQ.out.below hb
      clear hb
      go_wp2_with fail
      refine (beat_4 _ _ _ _ L0 _ HP.out HL.out).mono ?_
      rintro e W9 ⟨rfl, hb⟩
      replace HB : Hid (Below w.heap.size w W9) := HB.out.trans (hb.mono HB.out.size)
      replace HP : Hid _ := HP.out.below hb
      replace HQ : Hid _ := HQ.out.below hb
      clear hb
      go_wp2_with fail
      refine (beat_4 _ _ _ _ (0 :: L0) _ HQ.out HL2.out).mono ?_
      rintro e W10 ⟨rfl, hb⟩
      replace HB : Hid (Below w.heap.size w W10) := HB.out.trans (hb.mono HB.out.size)
      replace HP : Hid _ := HP.out.below hb
      replace HQ : Hid _ := HQ.out.below hb
      clear hb
      have g0 := F4_bd HL.out 0
      have g1 := F4_bd HL.out 1
      have g2 := F4_bd HL.out 2
      have g3 := F4_bd HL.out 3
      obtain ⟨h0, h1, h2, h3⟩ := F4_cons L0
      rw [h0, h1, h2, h3]
      clear h0 h1 h2 h3
      generalize F4 L0 0 = A at *
      generalize F4 L0 1 = B at *
      generalize F4 L0 2 = C at *
      generalize F4 L0 3 = D at *
      rw [show D + A + B + C = A + B + C + D by omega]
      have o1 := fl_refl (show (A + B + C + D).natAbs < 2 ^ 53 by omega)
      have o2 := fl_refl (show (D - A + B - C).natAbs < 2 ^ 53 by omega)
      have o3 := fl_refl (show (D - B).natAbs < 2 ^ 53 by omega)
      have o4 := fl_refl (show (A - C).natAbs < 2 ^ 53 by omega)
      have o5 := fl_refl (show (0 : Int).natAbs < 2 ^ 53 by decide)
      have t2 := fun (W : World) => turn_any _ _ (A - B + C - D) 0 2 (Fl.of (by omega)) (Fl.of (by decide)) W
      have t4 := fun (W : World) => turn_any _ _ (A - C) (B - D) 1 (Fl.of (by omega)) (Fl.of (by omega)) W
      rw [show quart 2 = 2 from by decide] at t2
      rw [show quart 1 = 1 from by decide] at t4
      simp only [rotR, rotI] at t2 t4
      rw [show -(A - B + C - D) = D - C + B - A by omega, show -(0 : Int) = 0 from rfl] at t2
      rw [show -(B - D) = D - B by omega] at t4
      rw [show D - C + B - A = D - A + B - C by omega] at t2
      have T2 : Hid _ := t2
      have T4 : Hid _ := t4
      clear t2 t4 g0 g1 g2 g3
      generalize floatOfInt .f64 (A + B + C + D) = z1 at *
      generalize floatOfInt .f64 (A - B + C - D) = z2 at *
      generalize floatOfInt .f64 (D - A + B - C) = z3 at *
      generalize floatOfInt .f64 (A - C) = z4 at *
      generalize floatOfInt .f64 (B - D) = z5 at *
      generalize floatOfInt .f64 (D - B) = z6 at *
      generalize floatOfInt .f64 0 = z0 at *
      go_wp2_with fail
      refine Calls.mono (T2.out _) ?_
      rintro e WX ⟨rfl, rfl⟩
      go_wp2_with fail
      refine Calls.mono (T4.out _) ?_
      rintro e WX ⟨rfl, rfl⟩
      go_wp2
      go_ret
      exact ⟨rfl, HB.out⟩
theorem later_any (a : Option Addr) (n c : Nat) (L : List Int) (w : World) (hc : n ≤ c) (h : IS w a n L) : Calls Try.prog 6 #[.slice a n c] w fun e w' => e = .returned (.bool true) ∧ Below w.heap.size w w' := by
  by_cases hn : n ≤ 1000
  · exact later_core a n c n L w hn (.inl ⟨hn, rfl⟩) h
  · exact later_core a n c 1000 (L.take 1000) w (Nat.le_refl _) (.inr ⟨by omega, rfl, by omega⟩) (h.take 1000 (by omega))
end Go.Proofs.Ythefgplobhmfcaa
