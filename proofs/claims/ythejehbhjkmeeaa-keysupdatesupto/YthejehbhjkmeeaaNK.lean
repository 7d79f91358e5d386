/- The law KeysUpdates, but for its frame. Conditions: keys and rows can be read; the keys are not too many. -/
import Derived.Test.YthejehbhjkmeeaaNJ
namespace Go.Proofs.Ythejehbhjkmeeaa
open Go.RowKit
/-- Rows of lists of rows that can be read. -/
structure RL (w : World) (a : Option Addr) (n : Nat) (ls : List (List Rw)) : Prop where
  len : ls.length = n
  room : n ≤ 140737488351232
  at_ : ∀ i l, ls[i]? = some l → ∃ b off a' m c, a = some ⟨b, off, none⟩ ∧ w.cell? ⟨b, off + i, none⟩ = some (.slice a' m c) ∧ m ≤ c ∧ RS w a' m l
def rowR (rs : List Rw) : List Value := rs.flatMap (·.cs)
theorem rowR_len {rs : List Rw} (h : ∀ r ∈ rs, RwOk r) : (rowR rs).length = rs.length * 13 := by
  induction rs with
  | nil => rfl
  | cons r t ih =>
    show (r.cs ++ rowR t).length = _
    rw [List.length_append, ih (fun r hr => h r (by simp [hr])), (h r (by simp)).len, List.length_cons]; omega
theorem rowR_at : ∀ {rs : List Rw}, (∀ r ∈ rs, RwOk r) → ∀ {i : Nat} {r : Rw}, rs[i]? = some r → ∀ j, j < 13 → (rowR rs)[i * 13 + j]? = r.cs[j]?
  | [], _, i, r, h, _, _ => by simp at h
  | x :: t, hok, i, r, h, j, hj => by
    show (x.cs ++ rowR t)[_]? = _
    have hx := (hok x (by simp)).len
    cases i with
    | zero =>
      simp at h; subst h
      rw [List.getElem?_append_left (by omega)]; simp
    | succ i =>
      rw [List.getElem?_append_right (by omega), hx, show (i + 1) * 13 + j - 13 = i * 13 + j from by omega]
      exact rowR_at (fun r hr => hok r (by simp [hr])) (by simpa using h) j hj
theorem rowR_get {rs : List Rw} (hok : ∀ r ∈ rs, RwOk r) {j : Nat} {u : Value} (h : (rowR rs)[j]? = some u) : ∃ r, rs[j / 13]? = some r ∧ r.cs[j % 13]? = some u := by
  have hj : j < (rowR rs).length := (List.getElem?_eq_some_iff.1 h).1
  rw [rowR_len hok] at hj
  have hi : j / 13 < rs.length := by omega
  refine ⟨rs[j / 13], List.getElem?_eq_getElem hi, ?_⟩
  rw [← rowR_at hok (List.getElem?_eq_getElem hi) (j % 13) (by omega), show j / 13 * 13 + j % 13 = j from by omega]
  exact h
theorem infoR : ∃ i : TypeInfo, Try.prog.info? 47 = some i ∧ i.zero = some (.agg (rowZ 0 ⟨#[]⟩).toArray) ∧ i.size = 13 ∧ i.bytes = 136 := by
  obtain ⟨i, h1, h2, h3, h4⟩ := info_parts (show (Try.prog.info? 47).map (fun i => (i.zero, i.size, i.bytes)) = some (some (.agg (rowZ 0 ⟨#[]⟩).toArray), 13, 136) from by kernel_rfl)
  exact ⟨i, h1, h2, h3, h4⟩
theorem empty_r (w : World) (base : Nat) (h : base ≤ w.heap.size) : (w.alloc (.cells #[] 47)).ownsRow base 47 13 (.slice (some ⟨w.heap.size, 0, none⟩) 0 0) 0 [] :=
  ⟨rfl, .inr ⟨w.heap.size, 0, #[], rfl, h, heap_alloc_new _ _, Nat.le_refl _, Nat.zero_le _, rfl, rfl⟩⟩
/-- A copy of rows. -/
theorem copy_rows (w : World) (e : Nat) (hown : w.ownsRow e 47 13 (.slice (some ⟨e, 0, none⟩) 0 0) 0 []) (a : Option Addr) (m c : Nat) (rs : List Rw) (h : RS w a m rs) (he : e ≤ w.heap.size) :
    ∃ a' cap' w', (Builtin.append_ #[31, 31] 31 #[.slice (some ⟨e, 0, none⟩) 0 0, .slice a m c]).run Try.prog w = .ok (.slice a' m cap') w' ∧ RS w' a' m rs ∧ Below e w w' ∧ ∀ k, k < w.heap.size → k ≠ e → w'.heap[k]? = w.heap[k]? := by
  obtain ⟨i, hi, hz, hs, hby⟩ := infoR
  have hm := h.len
  have hr := h.room
  rcases a with _ | ad
  · have hm0 : m = 0 := by
      rcases h.cells with h0 | ⟨b, off, h0, _⟩
      · exact h0
      · cases h0
    subst hm0
    obtain rfl : rs = [] := List.length_eq_zero_iff.1 hm
    exact ⟨_, _, w, run_append_none3 w e 31 31 47 i 13 Try.underlying31 hi _ _ c _ hown, ⟨rfl, by omega, by simp, .inl rfl⟩, Below.refl _ _, fun _ _ _ => rfl⟩
  · obtain ⟨v', w', h1, h2, h3, _⟩ := run_append_own (P := Try.prog) w e 31 31 47 i _ 13 136 Try.underlying31 hi hz hs hby rfl (by decide) _ 0 _ hown ad m c (rowR rs) (by rw [rowR_len h.ok, hm]) (fun j u hj => by
      obtain ⟨r, hr1, hr2⟩ := rowR_get h.ok hj
      obtain ⟨b, off, e', hrg, _, _⟩ := h.at hr1
      cases e'
      have := hrg (j % 13) u hr2
      rw [plain_add3, show off + j = off + j / 13 * 13 + j % 13 from by omega]
      exact this) (fun u hu => by
        obtain ⟨r, hr1, hr2⟩ := List.mem_flatMap.1 hu
        exact (h.ok r hr1).one u hr2) (by unfold maxLen; omega) (by omega) he
    rw [Nat.zero_add] at h2
    obtain ⟨a', cap', rfl, _⟩ := own_form3 h2
    refine ⟨a', cap', w', h1, ⟨hm, hr, h.ok, ?_⟩, (Below.refl e w).grown h3 he (fun q hq => (World.ownsRow.lt hown q hq).1), fun k hk hne => h3.block k hk (by simp [Value.ownBlock]; exact hne)⟩
    rcases h2.2 with ⟨h0, h0'⟩ | ⟨g, cap'', cur, e1, hb, hcells, hnc, _, hsz, htk⟩
    · exact .inl h0'
    · cases e1
      refine .inr ⟨g, 0, rfl, fun k r hk => ?_⟩
      intro j v hj
      have hj' : j < 13 := by have := (List.getElem?_eq_some_iff.1 hj).1; rw [(h.ok r (List.mem_of_getElem? hk)).len] at this; exact this
      have hk' := (List.getElem?_eq_some_iff.1 hk).1
      have := h2.cellAt (k * 13 + j) (by omega)
      rw [show 0 + k * 13 + j = k * 13 + j from by omega, this, List.nil_append, rowR_at h.ok hk j hj']
      exact hj
end Go.Proofs.Ythejehbhjkmeeaa
