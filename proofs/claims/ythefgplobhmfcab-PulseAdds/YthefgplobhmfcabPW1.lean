/- Counts that are added: rows, sums, beats. Conditions: rows can be read. -/
import Derived.Test.YthefgplobhmfcabPH
import Derived.Laws.MakeOwn
namespace Go.Proofs.Ythefgplobhmfcab
open Go.RowKit Ieee
theorem eq_0 : (FloatKind.f64.format.order 0 0 == some .eq) = true := by decide +kernel
theorem add_0 (t : TypeId) (W : World) : (binOp .add t (.complex .f64 0 0) (.complex .f64 0 0)).run Try.prog W = .ok (.complex .f64 0 0) W :=
  run_complex_sum W .add (.inl rfl) t .f64 0 0 0 0 0 0 (by decide +kernel)
theorem fl_refl {n : Int} (h : n.natAbs < 2 ^ 53) : (FloatKind.f64.format.order (floatOfInt .f64 n) (floatOfInt .f64 n) == some .eq) = true := by
  rw [show FloatKind.f64.format.order (floatOfInt .f64 n) (floatOfInt .f64 n) = _ from (Fl.of h).order (Fl.of h)]; simp
theorem IS.take {w : World} {a : Option Addr} {n : Nat} {zs : List Int} (h : IS w a n zs) (k : Nat) (hk : k ≤ n) : IS w a k (zs.take k) := by
  refine ⟨by rw [List.length_take, h.len]; omega, ?_⟩
  rcases h.cells with h0 | ⟨b, off, e, hc⟩
  · exact .inl (by omega)
  · refine .inr ⟨b, off, e, fun i t hi => hc i t ?_⟩
    rw [List.getElem?_take] at hi
    split at hi
    · exact hi
    · cases hi
/-- Sums. -/
def addL (A B : List Int) : List Int := List.zipWith (· + ·) A B
theorem addL_len {A B : List Int} (h : A.length = B.length) : (addL A B).length = A.length := by simp [addL, h]
theorem addL_get {A B : List Int} (h : A.length = B.length) (i : Nat) : (addL A B).getD i 0 = A.getD i 0 + B.getD i 0 := by
  simp only [List.getD_eq_getElem?_getD, addL, List.getElem?_zipWith]
  cases e1 : A[i]? with
  | none =>
    have : B[i]? = none := by rw [List.getElem?_eq_none_iff] at *; omega
    simp [this]
  | some x =>
    have : i < B.length := by have := (List.getElem?_eq_some_iff.1 e1).1; omega
    simp [List.getElem?_eq_getElem this]
theorem S4_add {A B : List Int} (h : A.length = B.length) (k : Nat) : ∀ n, S4 (addL A B) k n = S4 A k n + S4 B k n
  | 0 => rfl
  | n + 1 => by
    simp only [S4, S4_add h k n, addL_get h]
    split <;> omega
theorem F4_add {A B : List Int} (h : A.length = B.length) (k : Nat) : F4 (addL A B) k = F4 A k + F4 B k := by
  unfold F4; rw [S4_add h, addL_len h, ← h]
theorem rot_add : ∀ (k : Nat) (a b c d : Int), rotR k (a + c) (b + d) = rotR k a b + rotR k c d ∧ rotI k (a + c) (b + d) = rotI k a b + rotI k c d
  | 0, _, _, _, _ => ⟨rfl, rfl⟩
  | k + 1, a, b, c, d => by
    have := rot_add k (-b) a (-d) c
    simp only [rotR, rotI]
    rw [show -(b + d) = -b + -d by omega]
    exact this
theorem b_add {A B : List Int} (h : A.length = B.length) (p : Int) : ∀ j, bR (addL A B) p j = bR A p j + bR B p j ∧ bI (addL A B) p j = bI A p j + bI B p j
  | 0 => ⟨rfl, rfl⟩
  | j + 1 => by
    obtain ⟨h1, h2⟩ := b_add h p j
    have h3 := rot_add (quart ((j : Int) * 4 / p)) (F4 A j) 0 (F4 B j) 0
    simp only [bR, bI, h1, h2, F4_add h]
    rw [show (0 : Int) + 0 = 0 from rfl] at h3
    rw [h3.1, h3.2]
    omega
/-- What is in the new row so far. -/
def rowC (S : List Int) (k : Nat) : Array Value := ((S.take k ++ List.replicate (S.length - k) 0).map (Value.int .i64)).toArray
theorem rowC_size (S : List Int) {k : Nat} (h : k ≤ S.length) : (rowC S k).size = S.length := by simp [rowC]; omega
theorem rowC_set (S : List Int) {k : Nat} {x : Int} (h : S[k]? = some x) : (rowC S k).setIfInBounds k (.int .i64 x) = rowC S (k + 1) := by
  have hk := (List.getElem?_eq_some_iff.1 h).1
  unfold rowC
  rw [List.setIfInBounds_toArray, ← List.map_set, take_snoc h]
  congr 2
  have e1 : S.length - k = (S.length - (k + 1)) + 1 := by omega
  rw [e1, List.replicate_succ, List.set_append_right _ _ (by simp; omega), List.append_assoc]
  have : k - (S.take k).length = 0 := by simp; omega
  rw [this]; rfl
theorem rowC_last (S : List Int) : rowC S S.length = (S.map (Value.int .i64)).toArray := by simp [rowC]
theorem rowC_first (S : List Int) : rowC S 0 = madeCells #[.int .i64 0] S.length := by
  unfold rowC
  apply Array.ext
  · simp [size_madeCells]
  · intro i h1 h2
    simp [madeCells, Nat.mod_one]
theorem make_ints (w : World) (c : Nat) (hc : c ≤ 17592186044416) : (Instr.makeSlice 22 (.int .i64 (c : Int)) (.int .i64 (c : Int))).run Try.prog w = .ok (.slice (some ⟨w.heap.size, 0, none⟩) c c) (w.alloc (.cells (madeCells #[.int .i64 0] c) 3)) := by
  obtain ⟨i0, hi, hz, hs, hby⟩ := info3
  have := run_make (P := Try.prog) w 22 3 i0 (.int .i64 0) Try.underlying22 hi hz .i64 .i64 (c : Int) (c : Int) (by omega) (by omega) (by rw [hby]; omega) (by omega)
  simpa [hs, Value.cells] using this
theorem is_row {w : World} {g : Nat} {S : List Int} (h : w.heap[g]? = some (.cells (rowC S S.length) 3 (0, 0))) : IS w (some ⟨g, 0, none⟩) S.length S := by
  refine ⟨rfl, .inr ⟨g, 0, rfl, fun i t hi => ?_⟩⟩
  rw [cell_row h, rowC_last]
  simp [hi]
end Go.Proofs.Ythefgplobhmfcab
