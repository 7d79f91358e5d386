/- Rows of texts and of whole numbers: appends. Conditions: they can be read. -/
import Derived.Test.YthejehbhjkmeeaaMB
namespace Go.Proofs.Ythejehbhjkmeeaa
open Go.RowKit
/-- A slice of n texts that can be read. -/
structure SS (w : World) (a : Option Addr) (n : Nat) (ns : List ByteArray) : Prop where
  len : ns.length = n
  cells : n = 0 ∨ ∃ b off, a = some ⟨b, off, none⟩ ∧ ∀ i t, ns[i]? = some t → w.cell? ⟨b, off + i, none⟩ = some (.string t)
theorem SS.below {w w' : World} {a : Option Addr} {n : Nat} {ns : List ByteArray} (h : SS w a n ns) (hb : Below w.heap.size w w') : SS w' a n ns := by
  refine ⟨h.len, ?_⟩
  rcases h.cells with h0 | ⟨b, off, rfl, hc⟩
  · exact .inl h0
  · exact .inr ⟨b, off, rfl, fun i t hi => (hb.cell (cell_lt (hc i t hi))).trans (hc i t hi)⟩
theorem SS.at {w : World} {a : Option Addr} {n k : Nat} {ns : List ByteArray} {t : ByteArray} (h : SS w a n ns) (ht : ns[k]? = some t) : ∃ b off, a = some ⟨b, off, none⟩ ∧ w.cell? ⟨b, off + k, none⟩ = some (.string t) ∧ b < w.heap.size := by
  rcases h.cells with h0 | ⟨b, off, e, hc⟩
  · have := (List.getElem?_eq_some_iff.1 ht).1
    have := h.len
    omega
  · exact ⟨b, off, e, hc k t ht, cell_lt (hc k t ht)⟩
/-- A slice of n whole numbers that can be read. -/
structure IS (w : World) (a : Option Addr) (n : Nat) (zs : List Int) : Prop where
  len : zs.length = n
  cells : n = 0 ∨ ∃ b off, a = some ⟨b, off, none⟩ ∧ ∀ i t, zs[i]? = some t → w.cell? ⟨b, off + i, none⟩ = some (.int .i64 t)
theorem IS.below {w w' : World} {a : Option Addr} {n : Nat} {zs : List Int} (h : IS w a n zs) (hb : Below w.heap.size w w') : IS w' a n zs := by
  refine ⟨h.len, ?_⟩
  rcases h.cells with h0 | ⟨b, off, rfl, hc⟩
  · exact .inl h0
  · exact .inr ⟨b, off, rfl, fun i t hi => (hb.cell (cell_lt (hc i t hi))).trans (hc i t hi)⟩
theorem IS.at {w : World} {a : Option Addr} {n k : Nat} {zs : List Int} {t : Int} (h : IS w a n zs) (ht : zs[k]? = some t) : ∃ b off, a = some ⟨b, off, none⟩ ∧ w.cell? ⟨b, off + k, none⟩ = some (.int .i64 t) ∧ b < w.heap.size := by
  rcases h.cells with h0 | ⟨b, off, e, hc⟩
  · have := (List.getElem?_eq_some_iff.1 ht).1
    have := h.len
    omega
  · exact ⟨b, off, e, hc k t ht, cell_lt (hc k t ht)⟩
theorem info9 : ∃ i : TypeInfo, Try.prog.info? 9 = some i ∧ i.zero = some (.string ⟨#[]⟩) ∧ i.size = 1 ∧ i.bytes = 16 := by
  obtain ⟨i, h1, h2, h3, h4⟩ := info_parts (show (Try.prog.info? 9).map (fun i => (i.zero, i.size, i.bytes)) = some (some (.string ⟨#[]⟩), 1, 16) from by kernel_rfl)
  exact ⟨i, h1, h2, h3, h4⟩
theorem info3 : ∃ i : TypeInfo, Try.prog.info? 3 = some i ∧ i.zero = some (.int .i64 0) ∧ i.size = 1 ∧ i.bytes = 8 := by
  obtain ⟨i, h1, h2, h3, h4⟩ := info_parts (show (Try.prog.info? 3).map (fun i => (i.zero, i.size, i.bytes)) = some (some (.int .i64 0), 1, 8) from by kernel_rfl)
  exact ⟨i, h1, h2, h3, h4⟩
/-- Texts behind a row of one's own. -/
theorem run_append_ss (w : World) (base : Nat) (v : Value) (xs : List ByteArray) (hown : w.ownsRow base 9 1 v xs.length (xs.map Value.string)) (a : Option Addr) (m c : Nat) (zs : List ByteArray) (h : SS w a m zs)
    (hsum : xs.length + m ≤ 8796093022208) (hbase : base ≤ w.heap.size) :
    ∃ a' cap' w', (Builtin.append_ #[53, 53] 53 #[v, .slice a m c]).run Try.prog w = .ok (.slice a' (xs.length + m) cap') w' ∧ w'.ownsRow base 9 1 (.slice a' (xs.length + m) cap') (xs ++ zs).length ((xs ++ zs).map Value.string) ∧ w.grownBy w' v.ownBlock := by
  obtain ⟨i, hi, hz, hs, hby⟩ := info9
  have hm := h.len
  rcases a with _ | ad
  · have hm0 : m = 0 := by
      rcases h.cells with h0 | ⟨b, off, h0, _⟩
      · exact h0
      · cases h0
    subst hm0
    obtain rfl : zs = [] := List.length_eq_zero_iff.1 hm
    obtain ⟨a', cap', rfl, _⟩ := own_form3 hown
    exact ⟨a', cap', w, run_append_none3 w base 53 53 9 i 1 Try.underlying53 hi _ _ c _ hown, by simpa using hown, World.grownBy.refl _ _⟩
  · obtain ⟨v', w', h1, h2, h3, _⟩ := run_append_own (P := Try.prog) w base 53 53 9 i _ 1 16 Try.underlying53 hi hz hs hby rfl (by decide) v xs.length _ hown ad m c (zs.map Value.string) (by rw [List.length_map, hm]; omega) (fun j u hj => by
      rw [List.getElem?_map] at hj
      obtain ⟨t, ht, rfl⟩ := Option.map_eq_some_iff.1 hj
      obtain ⟨b, off, e, c0, _⟩ := h.at ht
      cases e
      rw [plain_add3]; exact c0) (fun u hu => by obtain ⟨t, _, rfl⟩ := List.mem_map.1 hu; rfl) (by unfold maxLen; omega) (by omega) hbase
    obtain ⟨a', cap', rfl, _⟩ := own_form3 h2
    exact ⟨a', cap', w', h1, by rw [List.map_append, List.length_append, hm]; exact h2, h3⟩
/-- Whole numbers behind a row of one's own. -/
theorem run_append_is (w : World) (base : Nat) (v : Value) (xs : List Int) (hown : w.ownsRow base 3 1 v xs.length (xs.map (Value.int .i64))) (a : Option Addr) (m c : Nat) (zs : List Int) (h : IS w a m zs)
    (hsum : xs.length + m ≤ 17592186044416) (hbase : base ≤ w.heap.size) :
    ∃ a' cap' w', (Builtin.append_ #[69, 69] 69 #[v, .slice a m c]).run Try.prog w = .ok (.slice a' (xs.length + m) cap') w' ∧ w'.ownsRow base 3 1 (.slice a' (xs.length + m) cap') (xs ++ zs).length ((xs ++ zs).map (Value.int .i64)) ∧ w.grownBy w' v.ownBlock := by
  obtain ⟨i, hi, hz, hs, hby⟩ := info3
  have hm := h.len
  rcases a with _ | ad
  · have hm0 : m = 0 := by
      rcases h.cells with h0 | ⟨b, off, h0, _⟩
      · exact h0
      · cases h0
    subst hm0
    obtain rfl : zs = [] := List.length_eq_zero_iff.1 hm
    obtain ⟨a', cap', rfl, _⟩ := own_form3 hown
    exact ⟨a', cap', w, run_append_none3 w base 69 69 3 i 1 Try.underlying69 hi _ _ c _ hown, by simpa using hown, World.grownBy.refl _ _⟩
  · obtain ⟨v', w', h1, h2, h3, _⟩ := run_append_own (P := Try.prog) w base 69 69 3 i _ 1 8 Try.underlying69 hi hz hs hby rfl (by decide) v xs.length _ hown ad m c (zs.map (Value.int .i64)) (by rw [List.length_map, hm]; omega) (fun j u hj => by
      rw [List.getElem?_map] at hj
      obtain ⟨t, ht, rfl⟩ := Option.map_eq_some_iff.1 hj
      obtain ⟨b, off, e, c0, _⟩ := h.at ht
      cases e
      rw [plain_add3]; exact c0) (fun u hu => by obtain ⟨t, _, rfl⟩ := List.mem_map.1 hu; rfl) (by unfold maxLen; omega) (by omega) hbase
    obtain ⟨a', cap', rfl, _⟩ := own_form3 h2
    exact ⟨a', cap', w', h1, by rw [List.map_append, List.length_append, hm]; exact h2, h3⟩
theorem own_ss {w : World} {base : Nat} {a : Option Addr} {n cap : Nat} {ts : List ByteArray} (h : w.ownsRow base 9 1 (.slice a n cap) ts.length (ts.map Value.string)) : SS w a n ts ∧ n ≤ cap := by
  have hx : ts.length = n := by
    rcases h.2 with ⟨h0, h1⟩ | ⟨g, cap', cur, e1, _⟩
    · cases h0; exact h1
    · cases e1; rfl
  rcases h.2 with ⟨h0, h1⟩ | ⟨g, cap', cur, e1, hb, hcells, hnc, _, hsz, htk⟩
  · cases h0
    exact ⟨⟨hx, .inl rfl⟩, Nat.le_refl _⟩
  · cases e1
    refine ⟨⟨rfl, .inr ⟨g, 0, rfl, fun i t hi => ?_⟩⟩, hnc⟩
    have hil := (List.getElem?_eq_some_iff.1 hi).1
    have := h.cellAt i (by omega)
    rw [Nat.zero_add, this]; simp [hi]
theorem own_is {w : World} {base : Nat} {a : Option Addr} {n cap : Nat} {ts : List Int} (h : w.ownsRow base 3 1 (.slice a n cap) ts.length (ts.map (Value.int .i64))) : IS w a n ts ∧ n ≤ cap := by
  have hx : ts.length = n := by
    rcases h.2 with ⟨h0, h1⟩ | ⟨g, cap', cur, e1, _⟩
    · cases h0; exact h1
    · cases e1; rfl
  rcases h.2 with ⟨h0, h1⟩ | ⟨g, cap', cur, e1, hb, hcells, hnc, _, hsz, htk⟩
  · cases h0
    exact ⟨⟨hx, .inl rfl⟩, Nat.le_refl _⟩
  · cases e1
    refine ⟨⟨rfl, .inr ⟨g, 0, rfl, fun i t hi => ?_⟩⟩, hnc⟩
    have hil := (List.getElem?_eq_some_iff.1 hi).1
    have := h.cellAt i (by omega)
    rw [Nat.zero_add, this]; simp [hi]
theorem empty_s (w : World) (base : Nat) (h : base ≤ w.heap.size) : (w.alloc (.cells #[] 9)).ownsRow base 9 1 (.slice (some ⟨w.heap.size, 0, none⟩) 0 0) ([] : List ByteArray).length (([] : List ByteArray).map Value.string) :=
  ⟨rfl, .inr ⟨w.heap.size, 0, #[], rfl, h, heap_alloc_new _ _, Nat.le_refl _, Nat.zero_le _, rfl, rfl⟩⟩
theorem empty_i (w : World) (base : Nat) (h : base ≤ w.heap.size) : (w.alloc (.cells #[] 3)).ownsRow base 3 1 (.slice (some ⟨w.heap.size, 0, none⟩) 0 0) ([] : List Int).length (([] : List Int).map (Value.int .i64)) :=
  ⟨rfl, .inr ⟨w.heap.size, 0, #[], rfl, h, heap_alloc_new _ _, Nat.le_refl _, Nat.zero_le _, rfl, rfl⟩⟩
theorem ss_one (w : World) (s : ByteArray) : SS (w.alloc (.cells #[.string s] 9)) (some ⟨w.heap.size, 0, none⟩) 1 [s] :=
  ⟨rfl, .inr ⟨w.heap.size, 0, rfl, fun i t hi => by
    cases i with
    | zero => simp at hi; subst hi; exact cell_row (heap_alloc_new _ _) 0
    | succ i => simp at hi⟩⟩
theorem is_one (w : World) (s : Int) : IS (w.alloc (.cells #[.int .i64 s] 3)) (some ⟨w.heap.size, 0, none⟩) 1 [s] :=
  ⟨rfl, .inr ⟨w.heap.size, 0, rfl, fun i t hi => by
    cases i with
    | zero => simp at hi; subst hi; exact cell_row (heap_alloc_new _ _) 0
    | succ i => simp at hi⟩⟩
theorem SS.take {w : World} {a : Option Addr} {n : Nat} {ns : List ByteArray} (h : SS w a n ns) (k : Nat) (hk : k ≤ n) : SS w a k (ns.take k) := by
  refine ⟨by rw [List.length_take, h.len]; omega, ?_⟩
  rcases h.cells with h0 | ⟨b, off, e, hc⟩
  · exact .inl (by omega)
  · exact .inr ⟨b, off, e, fun i t hi => hc i t (by
      have hik : i < k := by have := (List.getElem?_eq_some_iff.1 hi).1; rw [List.length_take] at this; omega
      rw [List.getElem?_take_of_lt hik] at hi; exact hi)⟩
theorem SS.drop {w : World} {b off n : Nat} {ns : List ByteArray} (h : SS w (some ⟨b, off, none⟩) n ns) (k : Nat) {a' : Option Addr} (ha : n - k = 0 ∨ a' = some ⟨b, off + k, none⟩) : SS w a' (n - k) (ns.drop k) := by
  refine ⟨by rw [List.length_drop, h.len], ?_⟩
  rcases ha with h0 | rfl
  · exact .inl h0
  · rcases h.cells with h0 | ⟨b', off', e, hc⟩
    · exact .inl (by omega)
    · cases e
      refine .inr ⟨b, off + k, rfl, fun i t hi => ?_⟩
      rw [List.getElem?_drop] at hi
      have := hc (k + i) t hi
      rw [show off + k + i = off + (k + i) from by omega]; exact this
end Go.Proofs.Ythejehbhjkmeeaa
