/- The document's Parts; asks: what is told of beats. Conditions: both pulses can be read. -/
import Derived.Test.YthefgplobhmfcaaPN
namespace Go.Proofs.Ythefgplobhmfcaa
open Go.RowKit Ieee
set_option maxHeartbeats 1000000 in
theorem rparts_any (b : Nat) (a : Option Addr) (n c : Nat) (L : List Int) (p : Int) (w : World) (h : PR w b a n c L) (hL : Cnt L) (x y r : Int)
    (hp : (p = 1 ∧ x = F4 L 0 + F4 L 1 + F4 L 2 + F4 L 3 ∧ y = 0 ∧ r = 0) ∨ (p = 2 ∧ x = F4 L 0 - F4 L 1 + F4 L 2 - F4 L 3 ∧ y = 0 ∧ r = 0) ∨ (p = 4 ∧ x = F4 L 0 - F4 L 2 ∧ y = F4 L 1 - F4 L 3 ∧ r = 0) ∨ (p ≠ 1 ∧ p ≠ 2 ∧ p ≠ 4 ∧ x = 0 ∧ y = 0 ∧ r = 1)) :
    Calls Try.prog 28 #[.pointer (some ⟨b, 0, none⟩), .int .i64 p] w fun e w' => e = .returned (.tuple #[.int .i64 x, .int .i64 y, .int .i64 r]) ∧ w' = w := by
  have H : Hid _ := h
  have HL : Hid _ := hL
  have HP : Hid _ := hp
  clear h hL hp
  have f0 : Hid _ := rfourth_any b a n c L 0 w H.out HL.out
  have f1 : Hid _ := rfourth_any b a n c L 1 w H.out HL.out
  have f2 : Hid _ := rfourth_any b a n c L 2 w H.out HL.out
  have f3 : Hid _ := rfourth_any b a n c L 3 w H.out HL.out
  rw [show F4z L 0 = F4 L 0 from rfl] at f0
  rw [show F4z L 1 = F4 L 1 from rfl] at f1
  rw [show F4z L 2 = F4 L 2 from rfl] at f2
  rw [show F4z L 3 = F4 L 3 from rfl] at f3
  have g0 := F4_bd HL.out 0
  have g1 := F4_bd HL.out 1
  have g2 := F4_bd HL.out 2
  have g3 := F4_bd HL.out 3
  generalize F4 L 0 = A at *
  generalize F4 L 1 = B at *
  generalize F4 L 2 = C at *
  generalize F4 L 3 = D at *
  go_enter Try.func28, Try.ntmps28
  go_wp2_with fail
  refine Calls.mono f0.out ?_
  rintro e W ⟨rfl, rfl⟩
  go_wp2_with fail
  refine Calls.mono f1.out ?_
  rintro e W' ⟨rfl, rfl⟩
  go_wp2_with fail
  refine Calls.mono f2.out ?_
  rintro e W' ⟨rfl, rfl⟩
  go_wp2_with fail
  refine Calls.mono f3.out ?_
  rintro e W' ⟨rfl, rfl⟩
  rcases HP.out with ⟨rfl, hx, hy, hr⟩ | ⟨rfl, hx, hy, hr⟩ | ⟨rfl, hx, hy, hr⟩ | ⟨h1, h2, h4, hx, hy, hr⟩
  · have E : Hid _ := And.intro hx (And.intro hy hr)
    clear hx hy hr HP f0 f1 f2 f3
    go_wp2
    refine bodyPost_ret (v := .tuple #[.int .i64 (A + B + C + D), .int .i64 0, .int .i64 0]) ?_ rfl ?_
    · simp [results, go_sem]
    · exact ⟨by rw [E.out.1, E.out.2.1, E.out.2.2], rfl⟩
  · have E : Hid _ := And.intro hx (And.intro hy hr)
    clear hx hy hr HP f0 f1 f2 f3
    go_wp2
    refine bodyPost_ret (v := .tuple #[.int .i64 (A - B + C - D), .int .i64 0, .int .i64 0]) ?_ rfl ?_
    · simp [results, go_sem]
    · exact ⟨by rw [E.out.1, E.out.2.1, E.out.2.2], rfl⟩
  · have E : Hid _ := And.intro hx (And.intro hy hr)
    clear hx hy hr HP f0 f1 f2 f3
    go_wp2
    refine bodyPost_ret (v := .tuple #[.int .i64 (A - C), .int .i64 (B - D), .int .i64 0]) ?_ rfl ?_
    · simp [results, go_sem]
    · exact ⟨by rw [E.out.1, E.out.2.1, E.out.2.2], rfl⟩
  · have E : Hid _ := And.intro hx (And.intro hy hr)
    have k1 : (p == 1) = false := by simpa using h1
    have k2 : (p == 2) = false := by simpa using h2
    have k4 : (p == 4) = false := by simpa using h4
    clear hx hy hr HP f0 f1 f2 f3 h1 h2 h4
    go_wp2
    refine bodyPost_ret (v := .tuple #[.int .i64 0, .int .i64 0, .int .i64 1]) ?_ rfl ?_
    · simp [results, go_sem]
    · exact ⟨by rw [E.out.1, E.out.2.1, E.out.2.2], rfl⟩
/-- What the two sides say of one period. -/
structure Ask (b : Nat) (a : Option Addr) (n c d : Nat) (a2 : Option Addr) (m c2 : Nat) (L : List Int) (p re im : Int) (q1 q2 r : Nat) : Prop where
  beat : ∀ W, PR W b a n c L → Calls Try.prog 23 #[.pointer (some ⟨b, 0, none⟩), .int .i64 p] W fun e w' => e = .returned (.tuple #[.complex .f64 (floatOfInt .f64 re) (floatOfInt .f64 im), .int .i64 0]) ∧ ∃ k, w' = W.drewN k
  power : ∀ W, PR W b a n c L → Calls Try.prog 26 #[.pointer (some ⟨b, 0, none⟩), .int .i64 p] W fun e w' => e = .returned (.tuple #[.float .f64 r, .int .i64 0]) ∧ ∃ k, w' = W.drewN k
  parts : ∀ W, PR W d a2 m c2 L → Calls Try.prog 28 #[.pointer (some ⟨d, 0, none⟩), .int .i64 p] W fun e w' => e = .returned (.tuple #[.int .i64 re, .int .i64 im, .int .i64 0]) ∧ w' = W
  pow : Pow re im q1 q2 r
  bre : re.natAbs < 2 ^ 53
  bim : im.natAbs < 2 ^ 53
theorem ask_is (b : Nat) (a : Option Addr) (n c d : Nat) (a2 : Option Addr) (m c2 : Nat) (L : List Int) (hL : Cnt L) (p : Int) (hp : p = 1 ∨ p = 2 ∨ p = 4) : ∃ re im q1 q2 r, Ask b a n c d a2 m c2 L p re im q1 q2 r := by
  have g0 := F4_bd hL 0
  have g1 := F4_bd hL 1
  have g2 := F4_bd hL 2
  have g3 := F4_bd hL 3
  have hbd := b_bd hL p 4
  have b1 : (bR L p 4).natAbs < 2 ^ 53 := by omega
  have b2 : (bI L p 4).natAbs < 2 ^ 53 := by omega
  obtain ⟨q1, q2, r, hP⟩ := pow_is b1 b2
  refine ⟨bR L p 4, bI L p 4, q1, q2, r, fun W h => beat_any b a n c L p hp W h hL, fun W h => power_any b a n c L p hp W h hL q1 q2 r hP, fun W h => rparts_any d a2 m c2 L p W h hL _ _ 0 ?_, hP, b1, b2⟩
  rcases hp with rfl | rfl | rfl
  · exact .inl ⟨rfl, (beat1 L).1, (beat1 L).2, rfl⟩
  · exact .inr (.inl ⟨rfl, (beat2 L).1, (beat2 L).2, rfl⟩)
  · exact .inr (.inr (.inl ⟨rfl, (beat4 L).1, (beat4 L).2, rfl⟩))
set_option maxHeartbeats 1000000 in
theorem asks_yes (b : Nat) (a : Option Addr) (n c d : Nat) (a2 : Option Addr) (m c2 : Nat) (L : List Int) (p : Int) (hp : p = 1 ∨ p = 2 ∨ p = 4) (w : World) (h : PR w b a n c L) (h2 : PR w d a2 m c2 L) (hL : Cnt L) :
    Calls Try.prog 17 #[.pointer (some ⟨b, 0, none⟩), .pointer (some ⟨d, 0, none⟩), .int .i64 p] w fun e w' => e = .returned (.bool true) ∧ ∃ k, w' = w.drewN k := by
  have H : Hid _ := h
  have H2 : Hid _ := h2
  clear h h2
  obtain ⟨re, im, q1, q2, r, hA⟩ := ask_is b a n c d a2 m c2 L hL p hp
  have HA : Hid _ := hA
  obtain ⟨p1, p2, p3, p4⟩ := hA.pow
  have m1 := fun (t : TypeId) (W : World) => run_float_arith (P := Try.prog) W .mul t .f64 _ _ _ p1
  have m2 := fun (t : TypeId) (W : World) => run_float_arith (P := Try.prog) W .mul t .f64 _ _ _ p2
  have m3 := fun (t : TypeId) (W : World) => run_float_arith (P := Try.prog) W .add t .f64 _ _ _ p3
  have o1 : (FloatKind.f64.format.order r r == some .eq) = true := by rw [show FloatKind.f64.format.order r r = some .eq from p4]; rfl
  clear p1 p2 p3 p4 hA hL hp
  go_enter Try.func17, Try.ntmps17
  go_wp2_with fail
  refine Calls.mono (HA.out.beat _ H.out) ?_
  rintro e W1 ⟨rfl, hm⟩
  have HM : Hid (∃ k, W1 = w.drewN k) := hm
  have hb := drew_below hm
  replace H : Hid _ := H.out.below hb
  replace H2 : Hid _ := H2.out.below hb
  clear hb hm
  go_wp2_with fail
  refine Calls.mono (HA.out.power _ H.out) ?_
  rintro e W2 ⟨rfl, hm⟩
  have hb := drew_below hm
  replace HM : Hid (∃ k, W2 = w.drewN k) := by
    obtain ⟨k1, e1⟩ := HM.out
    obtain ⟨k2, e2⟩ := hm
    exact ⟨k1 + k2, by rw [e2, e1, World.drewN_drewN]⟩
  replace H2 : Hid _ := H2.out.below hb
  clear hb hm
  go_wp2_with fail
  refine Calls.mono (HA.out.parts _ H2.out) ?_
  rintro e W3 ⟨rfl, rfl⟩
  go_wp2_with fail
  refine (whole_any re im HA.out.bre HA.out.bim _).mono ?_
  rintro e W4 ⟨rfl, rfl⟩
  go_wp2
  go_ret
  exact ⟨rfl, HM.out⟩
theorem asks_no (b : Nat) (a : Option Addr) (n c d : Nat) (a2 : Option Addr) (m c2 : Nat) (L : List Int) (p : Int) (hp1 : p ≠ 1) (hp2 : p ≠ 2) (hp4 : p ≠ 4) (w : World) (h : PR w b a n c L) (h2 : PR w d a2 m c2 L) (hL : Cnt L) :
    Calls Try.prog 17 #[.pointer (some ⟨b, 0, none⟩), .pointer (some ⟨d, 0, none⟩), .int .i64 p] w fun e w' => e = .returned (.bool true) ∧ ∃ k, w' = w.drewN k := by
  have hlen := h.is.len
  have h0 : 0 < n := by have := hL.one; omega
  have H : Hid _ := h
  have H2 : Hid _ := h2
  have HL : Hid _ := hL
  have z0 := eq_0
  have HN : Hid _ := And.intro hp1 (And.intro hp2 hp4)
  clear h h2 hL hp1 hp2 hp4
  go_enter Try.func17, Try.ntmps17
  go_wp2_with fail
  refine (beat_no _ _ _ _ L _ HN.out.1 HN.out.2.1 HN.out.2.2 _ H.out h0).mono ?_
  rintro e W1 ⟨rfl, rfl⟩
  go_wp2_with fail
  refine (power_no _ _ _ _ L _ HN.out.1 HN.out.2.1 HN.out.2.2 _ H.out h0).mono ?_
  rintro e W2 ⟨rfl, rfl⟩
  go_wp2_with fail
  refine (rparts_any _ _ _ _ L p _ H2.out HL.out 0 0 1 (.inr (.inr (.inr ⟨HN.out.1, HN.out.2.1, HN.out.2.2, rfl, rfl, rfl⟩)))).mono ?_
  rintro e W3 ⟨rfl, rfl⟩
  go_wp2
  go_ret
  exact ⟨rfl, 0, rfl⟩
theorem asks_any (b : Nat) (a : Option Addr) (n c d : Nat) (a2 : Option Addr) (m c2 : Nat) (L : List Int) (p : Int) (w : World) (h : PR w b a n c L) (h2 : PR w d a2 m c2 L) (hL : Cnt L) :
    Calls Try.prog 17 #[.pointer (some ⟨b, 0, none⟩), .pointer (some ⟨d, 0, none⟩), .int .i64 p] w fun e w' => e = .returned (.bool true) ∧ ∃ k, w' = w.drewN k := by
  by_cases hp : p = 1 ∨ p = 2 ∨ p = 4
  · exact asks_yes b a n c d a2 m c2 L p hp w h h2 hL
  · exact asks_no b a n c d a2 m c2 L p (by omega) (by omega) (by omega) w h h2 hL
end Go.Proofs.Ythefgplobhmfcaa
