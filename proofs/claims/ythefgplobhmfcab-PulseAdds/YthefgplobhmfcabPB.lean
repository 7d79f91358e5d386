/- Rows of whole numbers: reading and appends; a pulse in memory; sums of every fourth. Conditions: they can be read. -/
import Derived.Test.YthefgplobhmfcabKA
import Derived.Test.YthefgplobhmfcabPA
import Derived.Deep.DeepAppendWide
namespace Go.Proofs.Ythefgplobhmfcab
open Go.RowKit
theorem plain_add3 (b off i : Nat) : (⟨b, off, none⟩ : Addr).add i = ⟨b, off + i, none⟩ := by unfold Addr.add; split <;> simp_all
theorem run_append_none3 {P : Program} (w : World) (base : Nat) (t ty e : TypeId) (i : TypeInfo) (size : Nat) (ht : P.underlying t = some (.slice e)) (hi : P.info? e = some i)
    (v : Value) (n c : Nat) (xs : List Value) (hown : w.ownsRow base e size v n xs) :
    (Builtin.append_ #[t, t] ty #[v, .slice none 0 c]).run P w = .ok v w := by
  rcases hown.2 with ⟨rfl, rfl⟩ | ⟨g, cap, cur, rfl, _, _, hnc, _⟩
  · simp [Builtin.append_, run_underlying ht, sizeOf, typeInfo, hi, Builtin.lenOf, Builtin.firstCells]
  · simp [Builtin.append_, run_underlying ht, sizeOf, typeInfo, hi, Builtin.lenOf, Builtin.firstCells, hnc, storeCells]
theorem own_form3 {w : World} {base : Nat} {e : TypeId} {k : Nat} {v : Value} {n : Nat} {xs : List Value} (h : w.ownsRow base e k v n xs) : ∃ a cap, v = .slice a n cap ∧ n ≤ cap := by
  rcases h.2 with ⟨rfl, rfl⟩ | ⟨g, cap, cur, rfl, _, _, hc, _⟩
  · exact ⟨none, 0, rfl, Nat.le_refl _⟩
  · exact ⟨_, cap, rfl, hc⟩
theorem drop_cons {α : Type} {os : List α} {k : Nat} {o : α} (h : os[k]? = some o) : os.drop k = o :: os.drop (k + 1) := by
  obtain ⟨hk, rfl⟩ := List.getElem?_eq_some_iff.1 h
  exact List.drop_eq_getElem_cons hk
theorem take_snoc {α : Type} {os : List α} {k : Nat} {o : α} (h : os[k]? = some o) : os.take (k + 1) = os.take k ++ [o] := by
  obtain ⟨hk, rfl⟩ := List.getElem?_eq_some_iff.1 h
  exact List.take_succ_eq_append_getElem hk
theorem getK {α : Type} {os : List α} {k : Nat} (h : k < os.length) : ∃ o, os[k]? = some o := ⟨os[k], List.getElem?_eq_getElem h⟩
/-- A slice of n whole numbers that can be read. -/
structure IS (w : World) (a : Option Addr) (n : Nat) (zs : List Int) : Prop where
  len : zs.length = n
  cells : n = 0 ∨ ∃ b off, a = some ⟨b, off, none⟩ ∧ ∀ i t, zs[i]? = some t → w.cell? ⟨b, off + i, none⟩ = some (.int .i64 t)
theorem IS.below {w w' : World} {a : Option Addr} {n : Nat} {zs : List Int} (h : IS w a n zs) (hb : Below w.heap.size w w') : IS w' a n zs := by
  refine ⟨h.len, ?_⟩
  rcases h.cells with h0 | ⟨b, off, rfl, hc⟩
  · exact .inl h0
  · exact .inr ⟨b, off, rfl, fun i t hi => (hb.cell (cell_lt (hc i t hi))).trans (hc i t hi)⟩
theorem IS.at {w : World} {a : Option Addr} {n k : Nat} {zs : List Int} {t : Int} (h : IS w a n zs) (ht : zs[k]? = some t) : ∃ b off, a = some ⟨b, off, none⟩ ∧ w.cell? ⟨b, off + k, none⟩ = some (.int .i64 t) ∧ b < w.heap.size := by
  rcases h.cells with h0 | ⟨b, off, e, hc⟩
  · have := (List.getElem?_eq_some_iff.1 ht).1
    have := h.len
    omega
  · exact ⟨b, off, e, hc k t ht, cell_lt (hc k t ht)⟩
theorem info3 : ∃ i : TypeInfo, Try.prog.info? 3 = some i ∧ i.zero = some (.int .i64 0) ∧ i.size = 1 ∧ i.bytes = 8 := by
  obtain ⟨i, h1, h2, h3, h4⟩ := info_parts (show (Try.prog.info? 3).map (fun i => (i.zero, i.size, i.bytes)) = some (some (.int .i64 0), 1, 8) from by kernel_rfl)
  exact ⟨i, h1, h2, h3, h4⟩
theorem run_append_is (w : World) (base : Nat) (v : Value) (xs : List Int) (hown : w.ownsRow base 3 1 v xs.length (xs.map (Value.int .i64))) (a : Option Addr) (m c : Nat) (zs : List Int) (h : IS w a m zs)
    (hsum : xs.length + m ≤ 17592186044416) (hbase : base ≤ w.heap.size) :
    ∃ a' cap' w', (Builtin.append_ #[22, 22] 22 #[v, .slice a m c]).run Try.prog w = .ok (.slice a' (xs.length + m) cap') w' ∧ w'.ownsRow base 3 1 (.slice a' (xs.length + m) cap') (xs ++ zs).length ((xs ++ zs).map (Value.int .i64)) ∧ w.grownBy w' v.ownBlock := by
  obtain ⟨i, hi, hz, hs, hby⟩ := info3
  have hm := h.len
  rcases a with _ | ad
  · have hm0 : m = 0 := by
      rcases h.cells with h0 | ⟨b, off, h0, _⟩
      · exact h0
      · cases h0
    subst hm0
    obtain rfl : zs = [] := List.length_eq_zero_iff.1 hm
    obtain ⟨a', cap', rfl, _⟩ := own_form3 hown
    exact ⟨a', cap', w, run_append_none3 w base 22 22 3 i 1 Try.underlying22 hi _ _ c _ hown, by simpa using hown, World.grownBy.refl _ _⟩
  · obtain ⟨v', w', h1, h2, h3, _⟩ := run_append_own (P := Try.prog) w base 22 22 3 i _ 1 8 Try.underlying22 hi hz hs hby rfl (by decide) v xs.length _ hown ad m c (zs.map (Value.int .i64)) (by rw [List.length_map, hm]; omega) (fun j u hj => by
      rw [List.getElem?_map] at hj
      obtain ⟨t, ht, rfl⟩ := Option.map_eq_some_iff.1 hj
      obtain ⟨b, off, e, c0, _⟩ := h.at ht
      cases e
      rw [plain_add3]; exact c0) (fun u hu => by obtain ⟨t, _, rfl⟩ := List.mem_map.1 hu; rfl) (by unfold maxLen; omega) (by omega) hbase
    obtain ⟨a', cap', rfl, _⟩ := own_form3 h2
    exact ⟨a', cap', w', h1, by rw [List.map_append, List.length_append, hm]; exact h2, h3⟩
theorem own_is {w : World} {base : Nat} {a : Option Addr} {n cap : Nat} {ts : List Int} (h : w.ownsRow base 3 1 (.slice a n cap) ts.length (ts.map (Value.int .i64))) : IS w a n ts ∧ n ≤ cap := by
  have hx : ts.length = n := by
    rcases h.2 with ⟨h0, h1⟩ | ⟨g, cap', cur, e1, _⟩
    · cases h0; exact h1
    · cases e1; rfl
  rcases h.2 with ⟨h0, h1⟩ | ⟨g, cap', cur, e1, hb, hcells, hnc, _, hsz, htk⟩
  · cases h0
    exact ⟨⟨hx, .inl rfl⟩, Nat.le_refl _⟩
  · cases e1
    refine ⟨⟨rfl, .inr ⟨g, 0, rfl, fun i t hi => ?_⟩⟩, hnc⟩
    have hil := (List.getElem?_eq_some_iff.1 hi).1
    have := h.cellAt i (by omega)
    rw [Nat.zero_add, this]; simp [hi]
theorem empty_i (w : World) (base : Nat) (h : base ≤ w.heap.size) : (w.alloc (.cells #[] 3)).ownsRow base 3 1 (.slice (some ⟨w.heap.size, 0, none⟩) 0 0) ([] : List Int).length (([] : List Int).map (Value.int .i64)) :=
  ⟨rfl, .inr ⟨w.heap.size, 0, #[], rfl, h, heap_alloc_new _ _, Nat.le_refl _, Nat.zero_le _, rfl, rfl⟩⟩
theorem is_one (w : World) (s : Int) : IS (w.alloc (.cells #[.int .i64 s] 3)) (some ⟨w.heap.size, 0, none⟩) 1 [s] :=
  ⟨rfl, .inr ⟨w.heap.size, 0, rfl, fun i t hi => by
    cases i with
    | zero => simp at hi; subst hi; exact cell_row (heap_alloc_new _ _) 0
    | succ i => simp at hi⟩⟩
/-- A pulse that can be read. -/
structure PR (w : World) (b : Nat) (a : Option Addr) (n c : Nat) (L : List Int) : Prop where
  cell : w.cell? ⟨b, 0, none⟩ = some (.slice a n c)
  le : n ≤ c
  is : IS w a n L
theorem PR.below {w w' : World} {b : Nat} {a : Option Addr} {n c : Nat} {L : List Int} (h : PR w b a n c L) (hb : Below w.heap.size w w') : PR w' b a n c L :=
  ⟨(hb.cell (cell_lt h.cell)).trans h.cell, h.le, h.is.below hb⟩
/-- Counts as they may be. -/
structure Cnt (L : List Int) : Prop where
  one : 1 ≤ L.length
  few : L.length ≤ 1048576
  each : ∀ x ∈ L, 0 ≤ x ∧ x ≤ 1048576
/-- The sum of every fourth of the first n. -/
def S4 (L : List Int) (k : Nat) : Nat → Int
  | 0 => 0
  | i + 1 => S4 L k i + (if i % 4 = k then L.getD i 0 else 0)
def F4 (L : List Int) (k : Nat) : Int := S4 L k L.length
theorem Cnt.get {L : List Int} (h : Cnt L) (i : Nat) : 0 ≤ L.getD i 0 ∧ L.getD i 0 ≤ 1048576 := by
  rw [List.getD_eq_getElem?_getD]
  cases e : L[i]? with
  | none => simp
  | some x => exact h.each x (List.mem_of_getElem? e)
theorem S4_bd {L : List Int} (h : Cnt L) (k : Nat) : ∀ n, 0 ≤ S4 L k n ∧ S4 L k n ≤ 1048576 * n
  | 0 => ⟨by simp [S4], by simp [S4]⟩
  | n + 1 => by
    have := S4_bd h k n
    have := h.get n
    unfold S4
    split <;> omega
theorem S4_four {L : List Int} {k t : Nat} (h : t % 4 = k) : S4 L k (t + 4) = S4 L k t + L.getD t 0 := by
  simp only [S4]
  rw [if_pos h, if_neg (by omega), if_neg (by omega), if_neg (by omega)]
  omega
theorem S4_low {L : List Int} {k : Nat} : ∀ {t : Nat}, t ≤ k → k < 4 → S4 L k t = 0
  | 0, _, _ => rfl
  | t + 1, h, h4 => by
    rw [S4, S4_low (by omega) h4, if_neg (by omega)]; rfl
theorem S4_end {L : List Int} {k : Nat} : ∀ (j : Nat), S4 L k (L.length + j) = F4 L k
  | 0 => rfl
  | j + 1 => by
    rw [← Nat.add_assoc, S4, S4_end j]
    have : L.getD (L.length + j) 0 = 0 := by rw [List.getD_eq_getElem?_getD, List.getElem?_eq_none (by omega)]; rfl
    rw [this]; simp
theorem F4_bd {L : List Int} (h : Cnt L) (k : Nat) : 0 ≤ F4 L k ∧ F4 L k ≤ 1099511627776 := by
  have := S4_bd h k L.length
  have := h.few
  unfold F4; omega
end Go.Proofs.Ythefgplobhmfcab
