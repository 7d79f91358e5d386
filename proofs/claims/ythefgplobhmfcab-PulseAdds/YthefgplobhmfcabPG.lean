/- Beat of what has none; Power; whole. Conditions: a pulse can be read; its counts are such. -/
import Derived.Test.YthefgplobhmfcabPF
namespace Go.Proofs.Ythefgplobhmfcab
open Go.RowKit Ieee
theorem beat_nil (p : Int) (w : World) :
    Calls Try.prog 6 #[.pointer none, .int .i64 p] w fun e w' => e = .returned (.tuple #[.complex .f64 0 0, .int .i64 6]) ∧ w' = w := by
  go_enter Try.func6, Try.ntmps6
  go_wp2_with fail
  refine (isMade_nil _).mono ?_
  rintro e W ⟨rfl, rfl⟩
  go_wp2
  go_ret2
  exact ⟨rfl, rfl⟩
theorem beat_no (b : Nat) (a : Option Addr) (n c : Nat) (L : List Int) (p : Int) (h1 : p ≠ 1) (h2 : p ≠ 2) (h4 : p ≠ 4) (w : World) (h : PR w b a n c L) (h0 : 0 < n) :
    Calls Try.prog 6 #[.pointer (some ⟨b, 0, none⟩), .int .i64 p] w fun e w' => e = .returned (.tuple #[.complex .f64 0 0, .int .i64 1]) ∧ w' = w := by
  have h0I : decide (0 < n) = true := by simpa using h0
  have H : Hid _ := h
  have g1 : (p != 1) = true := by simpa using h1
  have g2 : (p != 2) = true := by simpa using h2
  have g4 : (p != 4) = true := by simpa using h4
  clear h h1 h2 h4
  go_enter Try.func6, Try.ntmps6
  go_wp2_with fail
  refine (isMade_any _ _ _ _ L _ H.out).mono ?_
  rintro e W ⟨rfl, rfl⟩
  rw [h0I]
  go_wp2
  go_ret2
  exact ⟨rfl, rfl⟩
theorem power_nil (p : Int) (w : World) :
    Calls Try.prog 7 #[.pointer none, .int .i64 p] w fun e w' => e = .returned (.tuple #[.float .f64 0, .int .i64 6]) ∧ w' = w := by
  go_enter Try.func7, Try.ntmps7
  go_wp2_with fail
  refine (beat_nil _ _).mono ?_
  rintro e W ⟨rfl, rfl⟩
  go_wp2
  go_ret2
  exact ⟨rfl, rfl⟩
theorem power_no (b : Nat) (a : Option Addr) (n c : Nat) (L : List Int) (p : Int) (h1 : p ≠ 1) (h2 : p ≠ 2) (h4 : p ≠ 4) (w : World) (h : PR w b a n c L) (h0 : 0 < n) :
    Calls Try.prog 7 #[.pointer (some ⟨b, 0, none⟩), .int .i64 p] w fun e w' => e = .returned (.tuple #[.float .f64 0, .int .i64 1]) ∧ w' = w := by
  have H : Hid _ := h
  clear h
  go_enter Try.func7, Try.ntmps7
  go_wp2_with fail
  refine (beat_no _ _ _ _ L _ h1 h2 h4 _ H.out h0).mono ?_
  rintro e W ⟨rfl, rfl⟩
  go_wp2
  go_ret2
  exact ⟨rfl, rfl⟩
/-- No NaN. -/
def NotNan (s : Bool) (x : Nat) : Prop := (∃ m e, double.read x = .number s m e) ∨ double.read x = .infinity s
theorem word_notNan (s : Bool) {r : Nat} (h : r ≤ double.infRung) : NotNan s (double.word s r) := by
  have hs : double.signWeight = 2 ^ 63 := rfl
  have hi : double.infRung = 2047 * 2 ^ 52 := rfl
  have hx : double.word s r % 2 ^ 63 = r := by unfold Format.word; rw [hs]; split <;> omega
  have hy : (double.word s r / 2 ^ 63 % 2 == 1) = s := by
    unfold Format.word; rw [hs]
    cases s
    · have : r / 2 ^ 63 % 2 = 0 := by omega
      simp [this]
    · have : (2 ^ 63 + r) / 2 ^ 63 % 2 = 1 := by omega
      rw [if_pos rfl, this]; rfl
  unfold NotNan Format.read
  simp only [hs, hx, hy]
  by_cases h1 : r < double.binade
  · rw [if_pos h1]; exact .inl ⟨_, _, rfl⟩
  · rw [if_neg h1]
    by_cases h2 : r < double.infRung
    · rw [if_pos h2]; exact .inl ⟨_, _, rfl⟩
    · rw [if_neg h2, if_pos (by omega)]; exact .inr rfl
theorem nearest_notNan (s : Bool) (m : Nat) (e : Int) : NotNan s (double.nearest s m e) := by
  unfold Format.nearest
  by_cases h : m = 0
  · rw [if_pos h]; exact word_notNan s (Nat.zero_le _)
  · rw [if_neg h]; exact word_notNan s (Nat.min_le_right _ _)
/-- A square. -/
theorem square {n : Int} (h : n.natAbs < 2 ^ 53) : ∃ r, floatBits .mul .f64 (floatOfInt .f64 n) (floatOfInt .f64 n) = some r ∧ NotNan false r := by
  obtain ⟨s, m, q, h1, _, _⟩ := (Fl.of h).read
  refine ⟨_, ?_, nearest_notNan (s ^^ s) (m * m) (-(q : Int) + -(q : Int)) |> fun h => by rwa [Bool.xor_self] at h⟩
  show ((double.read _).product (double.read _)).map double.write = _
  simp only [h1, Datum.product, Option.map_some, Format.write, Bool.xor_self]
theorem add_pos {x y : Nat} (hx : NotNan false x) (hy : NotNan false y) : ∃ r, floatBits .add .f64 x y = some r ∧ double.order r r = some .eq := by
  have hrr : ∀ r s, NotNan s r → double.order r r = some .eq := by
    rintro r s (⟨m, e, h⟩ | h)
    · simp [Format.order, h, Datum.order]
    · simp [Format.order, h, Datum.order]
  have key : ∃ d, (double.read x).sum (double.read y) = some d ∧ ∃ s, NotNan s (double.write d) := by
    rcases hx with ⟨m, e, hx⟩ | hx <;> rcases hy with ⟨n, f, hy⟩ | hy <;> rw [hx, hy]
    · exact ⟨_, rfl, _, nearest_notNan _ _ _⟩
    · exact ⟨_, rfl, false, word_notNan _ (Nat.le_refl _)⟩
    · exact ⟨_, rfl, false, word_notNan _ (Nat.le_refl _)⟩
    · exact ⟨_, rfl, false, word_notNan _ (Nat.le_refl _)⟩
  obtain ⟨d, hd, s, hs⟩ := key
  refine ⟨double.write d, ?_, hrr _ s hs⟩
  show ((double.read _).sum (double.read _)).map double.write = _
  rw [hd]; rfl
/-- The bits of a power. -/
def Pow (re im : Int) (q1 q2 r : Nat) : Prop := floatBits .mul .f64 (floatOfInt .f64 re) (floatOfInt .f64 re) = some q1 ∧ floatBits .mul .f64 (floatOfInt .f64 im) (floatOfInt .f64 im) = some q2 ∧ floatBits .add .f64 q1 q2 = some r ∧ double.order r r = some .eq
theorem pow_is {re im : Int} (h1 : re.natAbs < 2 ^ 53) (h2 : im.natAbs < 2 ^ 53) : ∃ q1 q2 r, Pow re im q1 q2 r := by
  obtain ⟨q1, e1, n1⟩ := square h1
  obtain ⟨q2, e2, n2⟩ := square h2
  obtain ⟨r, e3, n3⟩ := add_pos n1 n2
  exact ⟨q1, q2, r, e1, e2, e3, n3⟩
theorem power_any (b : Nat) (a : Option Addr) (n c : Nat) (L : List Int) (p : Int) (hp : p = 1 ∨ p = 2 ∨ p = 4) (w : World) (h : PR w b a n c L) (hL : Cnt L) (q1 q2 r : Nat) (hP : Pow (bR L p 4) (bI L p 4) q1 q2 r) :
    Calls Try.prog 7 #[.pointer (some ⟨b, 0, none⟩), .int .i64 p] w fun e w' => e = .returned (.tuple #[.float .f64 r, .int .i64 0]) ∧ ∃ m, w' = w.drewN m := by
  have H : Hid _ := h
  have HL : Hid _ := hL
  obtain ⟨p1, p2, p3, -⟩ := hP
  have m1 := fun (t : TypeId) (W : World) => run_float_arith (P := Try.prog) W .mul t .f64 _ _ _ p1
  have m2 := fun (t : TypeId) (W : World) => run_float_arith (P := Try.prog) W .mul t .f64 _ _ _ p2
  have m3 := fun (t : TypeId) (W : World) => run_float_arith (P := Try.prog) W .add t .f64 _ _ _ p3
  clear p1 p2 p3 h hL
  have HB : Hid _ := beat_any b a n c L p hp w H.out HL.out
  generalize floatOfInt .f64 (bR L p 4) = z1 at *
  generalize floatOfInt .f64 (bI L p 4) = z2 at *
  go_enter Try.func7, Try.ntmps7
  go_wp2_with fail
  refine Calls.mono HB.out ?_
  rintro e W ⟨rfl, m, rfl⟩
  go_wp2
  go_ret2
  exact ⟨rfl, _, rfl⟩
theorem one_over_zero : floatBits .quo .f64 4607182418800017408 (floatOfInt .f64 0) = some 9218868437227405312 := by rw [fl_zero]; decide +kernel
theorem inf_pos : (FloatKind.f64.format.order 9218868437227405312 0 == some .gt) = true := by decide +kernel
end Go.Proofs.Ythefgplobhmfcab
