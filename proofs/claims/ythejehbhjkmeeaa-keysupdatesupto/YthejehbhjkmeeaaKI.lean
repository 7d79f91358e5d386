/- Appends of keys; kept. Conditions: keys and rows can be read. -/
import Derived.Test.YthejehbhjkmeeaaKH
import Derived.Deep.DeepAppendWide
namespace Go.Proofs.Ythejehbhjkmeeaa
open Go.RowKit
theorem plain_add3 (b off i : Nat) : (⟨b, off, none⟩ : Addr).add i = ⟨b, off + i, none⟩ := by unfold Addr.add; split <;> simp_all
theorem run_append_none3 {P : Program} (w : World) (base : Nat) (t ty e : TypeId) (i : TypeInfo) (size : Nat) (ht : P.underlying t = some (.slice e)) (hi : P.info? e = some i)
    (v : Value) (n c : Nat) (xs : List Value) (hown : w.ownsRow base e size v n xs) :
    (Builtin.append_ #[t, t] ty #[v, .slice none 0 c]).run P w = .ok v w := by
  rcases hown.2 with ⟨rfl, rfl⟩ | ⟨g, cap, cur, rfl, _, _, hnc, _⟩
  · simp [Builtin.append_, run_underlying ht, sizeOf, typeInfo, hi, Builtin.lenOf, Builtin.firstCells]
  · simp [Builtin.append_, run_underlying ht, sizeOf, typeInfo, hi, Builtin.lenOf, Builtin.firstCells, hnc, storeCells]
theorem own_form3 {w : World} {base : Nat} {e : TypeId} {k : Nat} {v : Value} {n : Nat} {xs : List Value} (h : w.ownsRow base e k v n xs) : ∃ a cap, v = .slice a n cap ∧ n ≤ cap := by
  rcases h.2 with ⟨rfl, rfl⟩ | ⟨g, cap, cur, rfl, _, _, hc, _⟩
  · exact ⟨none, 0, rfl, Nat.le_refl _⟩
  · exact ⟨_, cap, rfl, hc⟩
theorem infoK : ∃ i : TypeInfo, Try.prog.info? 37 = some i ∧ i.zero = some (.agg #[.string ⟨#[]⟩, .int .i64 0]) ∧ i.size = 2 ∧ i.bytes = 24 := by
  obtain ⟨i, h1, h2, h3, h4⟩ := info_parts (show (Try.prog.info? 37).map (fun i => (i.zero, i.size, i.bytes)) = some (some (.agg #[.string ⟨#[]⟩, .int .i64 0]), 2, 24) from by kernel_rfl)
  exact ⟨i, h1, h2, h3, h4⟩
/-- Keys behind a row of one's own. -/
theorem run_append_ks (w : World) (base : Nat) (v : Value) (xs : List Ky) (hown : w.ownsRow base 37 2 v xs.length (rowK xs)) (a : Option Addr) (m c : Nat) (zs : List Ky) (h : KS w a m zs)
    (hsum : xs.length + m ≤ 5864062014805) (hbase : base ≤ w.heap.size) :
    ∃ a' cap' w', (Builtin.append_ #[22, 22] 22 #[v, .slice a m c]).run Try.prog w = .ok (.slice a' (xs.length + m) cap') w' ∧ w'.ownsRow base 37 2 (.slice a' (xs.length + m) cap') (xs ++ zs).length (rowK (xs ++ zs)) ∧ w.grownBy w' v.ownBlock := by
  obtain ⟨i, hi, hz, hs, hby⟩ := infoK
  have hm := h.len
  rcases a with _ | ad
  · have hm0 : m = 0 := by
      rcases h.cells with h0 | ⟨b, off, h0, _⟩
      · exact h0
      · cases h0
    subst hm0
    obtain rfl := h.zero
    obtain ⟨a', cap', rfl, _⟩ := own_form3 hown
    exact ⟨a', cap', w, run_append_none3 w base 22 22 37 i 2 Try.underlying22 hi _ _ c _ hown, by simpa using hown, World.grownBy.refl _ _⟩
  · obtain ⟨v', w', h1, h2, h3, _⟩ := run_append_own (P := Try.prog) w base 22 22 37 i _ 2 24 Try.underlying22 hi hz hs hby rfl (by decide) v xs.length _ hown ad m c (rowK zs) (by rw [rowK_length, hm]) (fun j u hj => by
      obtain ⟨t, ht, hk⟩ := rowK_get hj
      obtain ⟨b, off, e, c0, c1, _⟩ := h.at ht
      cases e
      have hmod : j % 2 < 2 := by omega
      rw [show (⟨b, off, none⟩ : Addr).add j = ⟨b, off + j / 2 * 2 + j % 2, none⟩ from by
        rw [show off + j / 2 * 2 + j % 2 = off + j from by omega]; exact plain_add3 b off j]
      generalize hr : j % 2 = r at hk hmod ⊢
      match r, hmod with
      | 0, _ => simp [cellsK] at hk; subst hk; exact c0
      | 1, _ => simp [cellsK] at hk; subst hk; exact c1) (cellsK_one zs) (by unfold maxLen; omega) (by omega) hbase
    obtain ⟨a', cap', rfl, _⟩ := own_form3 h2
    exact ⟨a', cap', w', h1, by rw [rowK_append, List.length_append, hm]; exact h2, h3⟩
theorem own_ks {w : World} {base : Nat} {a : Option Addr} {n cap : Nat} {ts : List Ky} (h : w.ownsRow base 37 2 (.slice a n cap) ts.length (rowK ts)) (hr : ts.length ≤ 11728124029610) (hs : ∀ k ∈ ts, k.n.size ≤ maxLen) : KS w a n ts ∧ n ≤ cap := by
  rcases h.2 with ⟨h0, h1⟩ | ⟨g, cap', cur, e1, hb, hcells, hnc, _, hsz, htk⟩
  · cases h0
    exact ⟨⟨h1, by omega, hs, .inl rfl⟩, Nat.le_refl _⟩
  · cases e1
    refine ⟨⟨rfl, hr, hs, .inr ⟨g, 0, rfl, fun i t hi => ?_⟩⟩, hnc⟩
    have hil := (List.getElem?_eq_some_iff.1 hi).1
    have q : ∀ k, k < 2 → w.cell? ⟨g, i * 2 + k, none⟩ = (cellsK t)[k]? := fun k hk => by
      have := h.cellAt (i * 2 + k) (by omega)
      rw [this, rowK_at ts i t hi k hk]
    have q0 := q 0 (by omega)
    have q1 := q 1 (by omega)
    simp only [Nat.zero_add]
    exact ⟨q0, q1⟩
theorem own_kv {w : World} {base : Nat} {v : Value} {ts : List Ky} (h : w.ownsRow base 37 2 v ts.length (rowK ts)) (hr : ts.length ≤ 11728124029610) (hs : ∀ k ∈ ts, k.n.size ≤ maxLen) : KV w v ts := by
  obtain ⟨a, cap, rfl, hc⟩ := own_form3 h
  exact ⟨a, _, cap, rfl, hc, (own_ks h hr hs).1⟩
theorem ks_one (w : World) (k : Ky) (hs : k.n.size ≤ maxLen) : KS (w.alloc (.cells #[.string k.n, .int .i64 k.v] 37)) (some ⟨w.heap.size, 0, none⟩) 1 [k] :=
  ⟨rfl, by omega, by simpa using hs, .inr ⟨w.heap.size, 0, rfl, fun i t hi => by
    cases i with
    | zero => simp at hi; subst hi; exact ⟨cell_row (heap_alloc_new _ _) 0, cell_row (heap_alloc_new _ _) 1⟩
    | succ i => simp at hi⟩⟩
/-- Rows of one's own stay where nothing of them is written. -/
theorem own_fr {w w' : World} {base mb : Nat} {e : TypeId} {k : Nat} {v : Value} {n : Nat} {xs : List Value} (h : w.ownsRow base e k v n xs) (hf : Fr mb w w') (hne : v.ownBlock ≠ some mb) : w'.ownsRow base e k v n xs := by
  refine ⟨h.1, ?_⟩
  rcases h.2 with h' | ⟨g, cap, cur, e1, e2, e3, e4⟩
  · exact .inl h'
  · refine .inr ⟨g, cap, cur, e1, e2, (hf.block _ (lt_of_heap e3) (fun q => hne ?_)).trans e3, e4⟩
    rw [e1, ← q]; rfl
theorem own_below {w w' : World} {base : Nat} {e : TypeId} {k : Nat} {v : Value} {n : Nat} {xs : List Value} (h : w.ownsRow base e k v n xs) (hb : Below w.heap.size w w') : w'.ownsRow base e k v n xs := by
  refine ⟨h.1, ?_⟩
  rcases h.2 with h' | ⟨g, cap, cur, e1, e2, e3, e4⟩
  · exact .inl h'
  · exact .inr ⟨g, cap, cur, e1, e2, (hb.block _ (lt_of_heap e3)).trans e3, e4⟩
theorem srt_length (N : List ByteArray) : (srt N).length = N.length := by simp [srt]
theorem srt_mem {N : List ByteArray} {n : ByteArray} : n ∈ srt N ↔ n ∈ N := by
  simp only [srt, List.mem_map, List.mem_mergeSort]
  constructor
  · rintro ⟨l, ⟨m, hm, rfl⟩, rfl⟩
    cases m; simpa using hm
  · intro h
    exact ⟨n.data.toList, ⟨n, h, rfl⟩, by cases n; simp⟩
/-- What kept answers. -/
def keptS (old : List Ky) (kind : Int) (rs : List Rw) : List Ky := (srt (namesOf kind rs)).map fun n => ⟨n, valL (namesOf kind rs) old n⟩
theorem upF_zero (n : ByteArray) : upF (fun _ => 0) n 0 = fun _ => 0 := by funext m; unfold upF; split <;> rfl
theorem namesOf_len (kind : Int) : ∀ (rs : List Rw), (namesOf kind rs).length ≤ rs.length := by
  intro rs
  unfold namesOf
  suffices h : ∀ (rs : List Rw) (D : List ByteArray), (rs.foldl (fun D r => if r.k = kind then addN D r.n else D) D).length ≤ D.length + rs.length by simpa using h rs []
  intro rs
  induction rs with
  | nil => intro D; simp
  | cons r t ih =>
    intro D
    have := ih (if r.k = kind then addN D r.n else D)
    have h2 : (if r.k = kind then addN D r.n else D).length ≤ D.length + 1 := by
      split
      · unfold addN; split <;> simp
      · omega
    simp only [List.foldl_cons, List.length_cons]; omega
theorem size13 : (Try.prog.info? 47).map (·.size) = some 13 := by kernel_rfl
theorem size2 : (Try.prog.info? 37).map (·.size) = some 2 := by kernel_rfl
end Go.Proofs.Ythejehbhjkmeeaa
