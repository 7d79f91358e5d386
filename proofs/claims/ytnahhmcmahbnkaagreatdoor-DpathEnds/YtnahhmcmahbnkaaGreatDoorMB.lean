/- Rows of terms in memory; appends of such rows; the masks of fields; Check of package match. Conditions: the terms can be read. -/
import Derived.Test.YtnahhmcmahbnkaaGreatDoorGWFtoFR
import Derived.Test.YtnahhmcmahbnkaaGreatDoorMA
import Derived.Laws.AppendOwn
namespace Go.Proofs.YtnahhmcmahbnkaaGreatDoor
open Go.RowKit

theorem scope_jumps {P : Program} {a : Act} {w : World} {Q : Exit → Act → World → Prop} {c rest : Code} (l : Nat) (J : Act → World → Prop) (μ : Act → World → Nat) (hf : findLabel c l = some (Code.skip.seq rest))
    (pass : ∀ a w, J a w → rest.wp P (Exit.jump l (fun a' w' => J a' w' ∧ μ a' w' < μ a w) Q) a w)
    (first : Hid (∀ a w, J a w → rest.wp P (Exit.jump l J Q) a w) → c.wp P (Exit.jump l J Q) a w) : (Code.scope c).wp P Q a w := by
  refine wp_scope_jumps l J μ hf (first ?_) (fun a w hJ => wp_seq (wp_skip (pass a w hJ)))
  intro a w hJ
  refine Code.wp_mono ?_ (pass a w hJ)
  intro e a' w' h
  cases e <;> first | exact h | exact ⟨h.1, h.2.1⟩

/-- A term's cells. -/
def cellsT (t : Tm) : List Value := [.int .i64 t.f, .int .u64 (t.v.toNat : Int), .int .u64 (t.m.toNat : Int)]
def rowT (ts : List Tm) : List Value := ts.flatMap cellsT
theorem rowT_nil : rowT [] = [] := rfl
theorem rowT_cons (t : Tm) (r : List Tm) : rowT (t :: r) = cellsT t ++ rowT r := by simp [rowT]
theorem rowT_append (a b : List Tm) : rowT (a ++ b) = rowT a ++ rowT b := by simp [rowT]
theorem rowT_length (ts : List Tm) : (rowT ts).length = ts.length * 3 := by
  induction ts with
  | nil => rfl
  | cons t r ih => rw [rowT_cons, List.length_append, ih, List.length_cons]; simp [cellsT]; omega
theorem rowT_at : ∀ (ts : List Tm) (i : Nat) (t : Tm), ts[i]? = some t → ∀ k, k < 3 → (rowT ts)[i * 3 + k]? = (cellsT t)[k]? := by
  intro ts
  induction ts with
  | nil => intro i t h; simp at h
  | cons x r ih =>
    intro i t h k hk
    rw [rowT_cons]
    cases i with
    | zero =>
      simp at h
      subst h
      rw [List.getElem?_append_left (by simp [cellsT]; omega)]
      simp
    | succ i =>
      have h' : r[i]? = some t := by simpa using h
      rw [List.getElem?_append_right (by simp [cellsT]; omega), ← ih i t h' k hk]
      congr 1
      simp [cellsT]; omega
theorem rowT_get {ts : List Tm} {j : Nat} {u : Value} (h : (rowT ts)[j]? = some u) : ∃ t, ts[j / 3]? = some t ∧ (cellsT t)[j % 3]? = some u := by
  have hj : j < (rowT ts).length := (List.getElem?_eq_some_iff.1 h).1
  rw [rowT_length] at hj
  have hi : j / 3 < ts.length := by omega
  refine ⟨ts[j / 3], List.getElem?_eq_getElem hi, ?_⟩
  rw [← rowT_at ts (j / 3) _ (List.getElem?_eq_getElem hi) (j % 3) (by omega), show j / 3 * 3 + j % 3 = j from by omega]
  exact h
theorem cellsT_one (ts : List Tm) : ∀ u ∈ rowT ts, u.oneCell' = true := by
  intro u hu
  simp only [rowT, List.mem_flatMap, cellsT, List.mem_cons, List.not_mem_nil, or_false] at hu
  obtain ⟨t, _, rfl | rfl | rfl⟩ := hu <;> rfl

/-- A slice of n terms that can be read. -/
structure TS (w : World) (a : Option Addr) (n : Nat) (ts : List Tm) : Prop where
  len : ts.length = n
  room : n ≤ 5864062014805
  cells : n = 0 ∨ ∃ b off, a = some ⟨b, off, none⟩ ∧ ∀ i t, ts[i]? = some t → w.cell? ⟨b, off + i * 3, none⟩ = some (.int .i64 t.f) ∧ w.cell? ⟨b, off + i * 3 + 1, none⟩ = some (.int .u64 (t.v.toNat : Int)) ∧ w.cell? ⟨b, off + i * 3 + 2, none⟩ = some (.int .u64 (t.m.toNat : Int))
/-- A value that is such a slice. -/
def TV (w : World) (v : Value) (ts : List Tm) : Prop := ∃ a n c, v = .slice a n c ∧ n ≤ c ∧ TS w a n ts

theorem TS.below {w w' : World} {a : Option Addr} {n : Nat} {ts : List Tm} (h : TS w a n ts) (hb : Below w.heap.size w w') : TS w' a n ts := by
  refine ⟨h.len, h.room, ?_⟩
  rcases h.cells with h0 | ⟨b, off, rfl, hc⟩
  · exact .inl h0
  · refine .inr ⟨b, off, rfl, fun i t hi => ?_⟩
    obtain ⟨c0, c1, c2⟩ := hc i t hi
    exact ⟨(hb.cell (cell_lt c0)).trans c0, (hb.cell (cell_lt c1)).trans c1, (hb.cell (cell_lt c2)).trans c2⟩
theorem TS.empty {w : World} (a : Option Addr) : TS w a 0 [] := ⟨rfl, by omega, .inl rfl⟩
theorem TV.nil {w : World} : TV w (.slice none 0 0) [] := ⟨none, 0, 0, rfl, Nat.le_refl _, TS.empty _⟩
theorem TV.below {w w' : World} {v : Value} {ts : List Tm} (h : TV w v ts) (hb : Below w.heap.size w w') : TV w' v ts := by
  obtain ⟨a, n, c, e, hc, h⟩ := h
  exact ⟨a, n, c, e, hc, h.below hb⟩
theorem TS.at {w : World} {a : Option Addr} {n k : Nat} {ts : List Tm} {t : Tm} (h : TS w a n ts) (ht : ts[k]? = some t) : ∃ b off, a = some ⟨b, off, none⟩ ∧ w.cell? ⟨b, off + k * 3, none⟩ = some (.int .i64 t.f) ∧ w.cell? ⟨b, off + k * 3 + 1, none⟩ = some (.int .u64 (t.v.toNat : Int)) ∧ w.cell? ⟨b, off + k * 3 + 2, none⟩ = some (.int .u64 (t.m.toNat : Int)) ∧ b < w.heap.size := by
  rcases h.cells with h0 | ⟨b, off, e, hc⟩
  · have := (List.getElem?_eq_some_iff.1 ht).1
    have := h.len
    omega
  · obtain ⟨c0, c1, c2⟩ := hc k t ht
    exact ⟨b, off, e, c0, c1, c2, cell_lt c0⟩
theorem TS.zero {w : World} {a : Option Addr} {ts : List Tm} (h : TS w a 0 ts) : ts = [] := List.length_eq_zero_iff.1 h.len
/-- The first term, and the rest. -/
theorem TS.head {w : World} {a : Option Addr} {n : Nat} {t : Tm} {r : List Tm} (h : TS w a n (t :: r)) : ∃ b off, a = some ⟨b, off, none⟩ ∧ w.cell? ⟨b, off, none⟩ = some (.int .i64 t.f) ∧ w.cell? ⟨b, off + 1, none⟩ = some (.int .u64 (t.v.toNat : Int)) ∧ w.cell? ⟨b, off + 2, none⟩ = some (.int .u64 (t.m.toNat : Int)) ∧ b < w.heap.size ∧ TS w (some ⟨b, off + 3, none⟩) (n - 1) r := by
  have hl := h.len
  simp at hl
  obtain ⟨b, off, e, c0, c1, c2, hb⟩ := h.at (k := 0) rfl
  refine ⟨b, off, e, by simpa using c0, by simpa using c1, by simpa using c2, hb, by omega, by have := h.room; omega, ?_⟩
  rcases h.cells with h0 | ⟨b', off', e', hc⟩
  · omega
  · rw [e] at e'
    cases e'
    refine .inr ⟨b, off + 3, rfl, fun i u hi => ?_⟩
    have := hc (i + 1) u (by simpa using hi)
    rw [show off + 3 + i * 3 = off + (i + 1) * 3 from by omega]
    exact this
theorem slice_tail {b off n cap : Nat} (hn : 0 < n) (hc : n ≤ cap) : ∃ a', (∀ W : World, (Instr.slice 50 (.slice (some ⟨b, off, none⟩) n cap) (some (.int .i64 1)) none none).run Tryz.prog W = .ok (.slice a' (n - 1) (cap - 1)) W) ∧ (n - 1 = 0 ∨ a' = some ⟨b, off + 3, none⟩) := by
  refine ⟨if cap = 1 then some ⟨b, off, none⟩ else some ⟨b, off + 3, none⟩, fun W => ?_, ?_⟩
  · simp [go_sem, show (1 : Int) ≤ (n : Int) from by omega]
  · by_cases h : cap = 1
    · exact .inl (by omega)
    · exact .inr (if_neg h)
theorem TS.tail {w : World} {b off n : Nat} {a' : Option Addr} {r : List Tm} (h : TS w (some ⟨b, off + 3, none⟩) (n - 1) r) (ha : n - 1 = 0 ∨ a' = some ⟨b, off + 3, none⟩) : TS w a' (n - 1) r := by
  rcases ha with h0 | rfl
  · exact ⟨h.len, h.room, .inl h0⟩
  · exact h

theorem plain_add3 (b off i : Nat) : (⟨b, off, none⟩ : Addr).add i = ⟨b, off + i, none⟩ := by unfold Addr.add; split <;> simp_all
theorem run_append_none3 {P : Program} (w : World) (base : Nat) (t ty e : TypeId) (i : TypeInfo) (size : Nat) (ht : P.underlying t = some (.slice e)) (hi : P.info? e = some i)
    (v : Value) (n c : Nat) (xs : List Value) (hown : w.ownsRow base e size v n xs) :
    (Builtin.append_ #[t, t] ty #[v, .slice none 0 c]).run P w = .ok v w := by
  rcases hown.2 with ⟨rfl, rfl⟩ | ⟨g, cap, cur, rfl, _, _, hnc, _⟩
  · simp [Builtin.append_, run_underlying ht, sizeOf, typeInfo, hi, Builtin.lenOf, Builtin.firstCells]
  · simp [Builtin.append_, run_underlying ht, sizeOf, typeInfo, hi, Builtin.lenOf, Builtin.firstCells, hnc, storeCells]
theorem own_form3 {w : World} {base : Nat} {e : TypeId} {k : Nat} {v : Value} {n : Nat} {xs : List Value} (h : w.ownsRow base e k v n xs) : ∃ a cap, v = .slice a n cap ∧ n ≤ cap := by
  rcases h.2 with ⟨rfl, rfl⟩ | ⟨g, cap, cur, rfl, _, _, hc, _⟩
  · exact ⟨none, 0, rfl, Nat.le_refl _⟩
  · exact ⟨_, cap, rfl, hc⟩
theorem infoT : ∃ i : TypeInfo, Tryz.prog.info? 118 = some i ∧ i.zero = some (.agg #[.int .i64 0, .int .u64 0, .int .u64 0]) ∧ i.size = 3 ∧ i.bytes = 24 := by
  obtain ⟨i, h1, h2, h3, h4⟩ := info_parts (show (Tryz.prog.info? 118).map (fun i => (i.zero, i.size, i.bytes)) = some (some (.agg #[.int .i64 0, .int .u64 0, .int .u64 0]), 3, 24) from by kernel_rfl)
  exact ⟨i, h1, h2, h3, h4⟩
/-- Terms behind a row of one's own. -/
theorem run_append_ts (w : World) (base : Nat) (v : Value) (xs : List Tm) (hown : w.ownsRow base 118 3 v xs.length (rowT xs)) (a : Option Addr) (m c : Nat) (zs : List Tm) (h : TS w a m zs)
    (hsum : xs.length + m ≤ 5864062014805) (hbase : base ≤ w.heap.size) :
    ∃ a' cap' w', (Builtin.append_ #[50, 50] 50 #[v, .slice a m c]).run Tryz.prog w = .ok (.slice a' (xs.length + m) cap') w' ∧ w'.ownsRow base 118 3 (.slice a' (xs.length + m) cap') (xs ++ zs).length (rowT (xs ++ zs)) ∧ w.grownBy w' v.ownBlock := by
  obtain ⟨i, hi, hz, hs, hby⟩ := infoT
  have hm := h.len
  rcases a with _ | ad
  · have hm0 : m = 0 := by
      rcases h.cells with h0 | ⟨b, off, h0, _⟩
      · exact h0
      · cases h0
    subst hm0
    obtain rfl := h.zero
    obtain ⟨a', cap', rfl, _⟩ := own_form3 hown
    exact ⟨a', cap', w, run_append_none3 w base 50 50 118 i 3 Tryz.underlying50 hi _ _ c _ hown, by simpa using hown, World.grownBy.refl _ _⟩
  · obtain ⟨v', w', h1, h2, h3, _⟩ := run_append_own (P := Tryz.prog) w base 50 50 118 i _ 3 24 Tryz.underlying50 hi hz hs hby rfl (by decide) v xs.length _ hown ad m c (rowT zs) (by rw [rowT_length, hm]) (fun j u hj => by
      obtain ⟨t, ht, hk⟩ := rowT_get hj
      obtain ⟨b, off, e, c0, c1, c2, _⟩ := h.at ht
      cases e
      have hmod : j % 3 < 3 := by omega
      rw [show (⟨b, off, none⟩ : Addr).add j = ⟨b, off + j / 3 * 3 + j % 3, none⟩ from by
        rw [show off + j / 3 * 3 + j % 3 = off + j from by omega]; exact plain_add3 b off j]
      generalize hr : j % 3 = r at hk hmod ⊢
      match r, hmod with
      | 0, _ => simp [cellsT] at hk; subst hk; exact c0
      | 1, _ => simp [cellsT] at hk; subst hk; exact c1
      | 2, _ => simp [cellsT] at hk; subst hk; exact c2) (cellsT_one zs) (by unfold maxLen; omega) (by omega) hbase
    obtain ⟨a', cap', rfl, _⟩ := own_form3 h2
    exact ⟨a', cap', w', h1, by rw [rowT_append, List.length_append, hm]; exact h2, h3⟩
theorem own_ts {w : World} {base : Nat} {a : Option Addr} {n cap : Nat} {ts : List Tm} (h : w.ownsRow base 118 3 (.slice a n cap) ts.length (rowT ts)) (hr : ts.length ≤ 5864062014805) : TS w a n ts ∧ n ≤ cap := by
  rcases h.2 with ⟨h0, h1⟩ | ⟨g, cap', cur, e1, hb, hcells, hnc, _, hsz, htk⟩
  · cases h0
    exact ⟨⟨h1, by omega, .inl rfl⟩, Nat.le_refl _⟩
  · cases e1
    refine ⟨⟨rfl, hr, .inr ⟨g, 0, rfl, fun i t hi => ?_⟩⟩, hnc⟩
    have hil := (List.getElem?_eq_some_iff.1 hi).1
    have q : ∀ k, k < 3 → w.cell? ⟨g, i * 3 + k, none⟩ = (cellsT t)[k]? := fun k hk => by
      have := h.cellAt (i * 3 + k) (by omega)
      rw [this, rowT_at ts i t hi k hk]
    have q0 := q 0 (by omega)
    have q1 := q 1 (by omega)
    have q2 := q 2 (by omega)
    simp only [Nat.zero_add]
    exact ⟨q0, q1, q2⟩
theorem own_tv' {w : World} {base : Nat} {a : Option Addr} {n cap : Nat} {ts : List Tm} (h : w.ownsRow base 118 3 (.slice a n cap) ts.length (rowT ts)) (hr : ts.length ≤ 5864062014805) (_ : ts.length = n) : TV w (.slice a n cap) ts := ⟨a, n, cap, rfl, (own_ts h hr).2, (own_ts h hr).1⟩
theorem own_tv {w : World} {base : Nat} {v : Value} {ts : List Tm} (h : w.ownsRow base 118 3 v ts.length (rowT ts)) (hr : ts.length ≤ 5864062014805) : TV w v ts := by
  obtain ⟨a, cap, rfl, hc⟩ := own_form3 h
  exact ⟨a, _, cap, rfl, hc, (own_ts h hr).1⟩
end Go.Proofs.YtnahhmcmahbnkaaGreatDoor
