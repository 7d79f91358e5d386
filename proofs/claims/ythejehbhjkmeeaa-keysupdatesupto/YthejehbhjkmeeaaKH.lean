/- A map of texts to whole numbers; rows of a database; kept: which names rows of a kind have, with the numbers that these had. Conditions: keys and rows can be read. -/
import Derived.Test.YthejehbhjkmeeaaKG
namespace Go.Proofs.Ythejehbhjkmeeaa
open Go.RowKit
theorem zero3 (W : World) : (zeroValue 3).run Try.prog W = .ok (.int .i64 0) W := by
  first | kernel_rfl | simp [zeroValue, go_sem]
instance bytesLawful : LawfulBEq ByteArray := { eq_of_beq := fun h => (MapKept.bytes_beq _ _).1 h, rfl := (MapKept.bytes_beq _ _).2 rfl }
theorem fg_find {f : ByteArray → Int} : ∀ {l : List (ByteArray × Value × Nat)} {D : List ByteArray} (i : Nat) (n : ByteArray), l.map (fun x => (x.1, x.2.1)) = D.map (fun n => (n, Value.int .i64 (f n))) →
    (findG n l i = none ∧ n ∉ D) ∨ (∃ j, findG n l i = some (j, .int .i64 (f n)) ∧ n ∈ D)
  | [], D, i, n, h => by
    have : D = [] := by cases D with
      | nil => rfl
      | cons a b => simp at h
    subst this
    exact .inl ⟨rfl, by simp⟩
  | x :: r, [], i, n, h => by simp at h
  | x :: r, d :: D, i, n, h => by
    simp only [List.map_cons, List.cons.injEq, Prod.mk.injEq] at h
    obtain ⟨⟨h1, h2⟩, h3⟩ := h
    unfold findG
    by_cases e : n = x.1
    · rw [if_pos e]
      exact .inr ⟨i, by rw [h2, e, h1], by rw [e, h1]; simp⟩
    · rw [if_neg e]
      rcases fg_find (D := D) (i + 1) n h3 with ⟨a, b⟩ | ⟨j, a, b⟩
      · exact .inl ⟨a, by rw [← h1]; simp [e, b]⟩
      · exact .inr ⟨j, a, List.mem_cons_of_mem _ b⟩
def upF (f : ByteArray → Int) (n : ByteArray) (v : Int) : ByteArray → Int := fun m => if m = n then v else f m
theorem fg_set {f : ByteArray → Int} {n : ByteArray} {v : Int} : ∀ {l : List (ByteArray × Value × Nat)} {D : List ByteArray}, D.Nodup → l.map (fun x => (x.1, x.2.1)) = D.map (fun n => (n, Value.int .i64 (f n))) → n ∈ D →
    (setG n (.int .i64 v) l).map (fun x => (x.1, x.2.1)) = D.map (fun m => (m, Value.int .i64 (upF f n v m)))
  | [], [], _, _, hn => by simp at hn
  | [], d :: D, _, h, _ => by simp at h
  | x :: r, [], _, h, _ => by simp at h
  | x :: r, d :: D, hnd, h, hn => by
    simp only [List.map_cons, List.cons.injEq, Prod.mk.injEq] at h
    obtain ⟨⟨h1, h2⟩, h3⟩ := h
    have hnd' := List.nodup_cons.1 hnd
    unfold setG
    by_cases e : n = x.1
    · rw [if_pos e]
      have ed : d = n := by rw [← h1, e]
      simp only [List.map_cons, List.cons.injEq, Prod.mk.injEq]
      refine ⟨⟨h1, by simp [upF, ed]⟩, ?_⟩
      rw [h3]
      apply List.map_congr_left
      intro m hm
      have : m ≠ n := fun q => hnd'.1 (by rw [ed, ← q]; exact hm)
      simp [upF, this]
    · rw [if_neg e]
      have ed : d ≠ n := fun q => e (by rw [← q, h1])
      simp only [List.map_cons, List.cons.injEq, Prod.mk.injEq]
      refine ⟨⟨h1, by rw [h2]; simp [upF, ed]⟩, fg_set hnd'.2 h3 ?_⟩
      rcases List.mem_cons.1 hn with q | q
      · exact absurd q.symm ed
      · exact q
theorem SMap.lt {w : World} {b : Nat} {D : List ByteArray} {f : ByteArray → Int} (h : SMap w b D f) : b < w.heap.size := by
  obtain ⟨l, c, h1, _⟩ := h
  exact lt_of_heap h1
theorem SMap.of {w w' : World} {b : Nat} {D : List ByteArray} {f : ByteArray → Int} (h : SMap w b D f) (hb : w'.heap[b]? = w.heap[b]?) : SMap w' b D f := by
  obtain ⟨l, c, h1, h2⟩ := h
  exact ⟨l, c, hb.trans h1, h2⟩
theorem SMap.below {w w' : World} {b : Nat} {D : List ByteArray} {f : ByteArray → Int} (h : SMap w b D f) (hb : Below w.heap.size w w') : SMap w' b D f := h.of (hb.block _ h.lt)
theorem SMap.new {w : World} {b : Nat} (f : ByteArray → Int) (h : w.heap[b]? = some (.map #[] 0)) : SMap w b [] f := ⟨[], 0, h, rfl, by simp, by simp, by simp, by simp⟩
theorem SMap.look {w : World} {b : Nat} {D : List ByteArray} {f : ByteArray → Int} (h : SMap w b D f) (n : ByteArray) :
    (Instr.lookup 62 (.map (some b)) (.string n) true).run Try.prog w = .ok (.tuple #[.int .i64 (if n ∈ D then f n else 0), .bool (decide (n ∈ D))]) w := by
  obtain ⟨l, c, h1, h2, _⟩ := h
  have := look_ok strK Try.underlying62 _ zero3 h1 n
  rcases fg_find (D := D) 0 n h2 with ⟨a, b⟩ | ⟨j, a, b⟩
  · rw [a] at this; simpa [b, sv] using this
  · rw [a] at this; simpa [b, sv] using this
theorem SMap.look1 {w : World} {b : Nat} {D : List ByteArray} {f : ByteArray → Int} (h : SMap w b D f) {n : ByteArray} (hn : n ∈ D) :
    (Instr.lookup 62 (.map (some b)) (.string n) false).run Try.prog w = .ok (.int .i64 (f n)) w := by
  obtain ⟨l, c, h1, h2, _⟩ := h
  have := look_any strK Try.underlying62 _ zero3 h1 n
  rcases fg_find (D := D) 0 n h2 with ⟨a, b⟩ | ⟨j, a, b⟩
  · exact absurd hn b
  · rw [a] at this; simpa [b, sv] using this
def addN (D : List ByteArray) (n : ByteArray) : List ByteArray := if n ∈ D then D else D ++ [n]
theorem SMap.put {w : World} {b : Nat} {D : List ByteArray} {f : ByteArray → Int} (h : SMap w b D f) (n : ByteArray) (v : Int) (hs : n.size ≤ maxLen) :
    ∃ w', (Instr.mapUpdate 62 (.map (some b)) (.string n) (.int .i64 v)).run Try.prog w = .ok () w' ∧ SMap w' b (addN D n) (upF f n v) ∧ Fr b w w' := by
  have hlt := h.lt
  obtain ⟨l, c, h1, h2, h3, h4, h5, h6⟩ := h
  have hk : l.map (·.1) = D := by
    have := congrArg (List.map Prod.fst) h2
    simpa [Function.comp_def] using this
  rcases fg_find (D := D) 0 n h2 with ⟨a, q⟩ | ⟨j, a, q⟩
  · refine ⟨_, put_new strK Try.underlying62 h1 n a (.int .i64 v), ⟨l ++ [(n, .int .i64 v, c)], c + 1, putObj_same hlt _, ?_, ?_, ?_, ?_, ?_⟩, ⟨putObj_below _ _ _, fun k _ hne => putObj_other _ hne _⟩⟩
    · unfold addN; rw [if_neg q]
      simp only [List.map_append, List.map_cons, List.map_nil, h2]
      congr 1
      · apply List.map_congr_left
        intro m hm
        have : m ≠ n := fun e => q (by rw [← e]; exact hm)
        simp [upF, this]
      · simp [upF]
    · intro x hx
      rcases List.mem_append.1 hx with hx | hx
      · exact Nat.lt_succ_of_lt (h3 x hx)
      · simp at hx; rw [hx]; exact Nat.lt_succ_self _
    · rw [List.map_append]
      refine List.nodup_append.2 ⟨h4, by simp, ?_⟩
      intro x hx y hy
      simp at hy; subst hy
      obtain ⟨z, hz, rfl⟩ := List.mem_map.1 hx
      exact Nat.ne_of_lt (h3 z hz)
    · unfold addN; rw [if_neg q]
      refine List.nodup_append.2 ⟨h5, by simp, ?_⟩
      intro x hx y hy e
      simp at hy; subst hy
      exact q (by rw [← e]; exact hx)
    · unfold addN; rw [if_neg q]
      intro m hm
      rcases List.mem_append.1 hm with hm | hm
      · exact h6 m hm
      · simp at hm; rw [hm]; exact hs
  · have hsk := setG_keys n (.int .i64 v) l
    refine ⟨_, put_old strK Try.underlying62 h1 n a (.int .i64 v), ⟨setG n (.int .i64 v) l, c, putObj_same hlt _, ?_, ?_, ?_, ?_, ?_⟩, ⟨putObj_below _ _ _, fun k _ hne => putObj_other _ hne _⟩⟩
    · unfold addN; rw [if_pos q]; exact fg_set h5 h2 q
    · intro x hx
      have : x.2.2 ∈ (setG n (.int .i64 v) l).map (·.2.2) := List.mem_map_of_mem hx
      rw [hsk.2] at this
      obtain ⟨y, hy, e⟩ := List.mem_map.1 this
      rw [← e]; exact h3 y hy
    · rw [hsk.2]; exact h4
    · unfold addN; rw [if_pos q]; exact h5
    · unfold addN; rw [if_pos q]; exact h6
/-- A row: its cells, its kind, its name. -/
structure Rw where
  cs : List Value
  k : Int
  n : ByteArray
structure RwOk (r : Rw) : Prop where
  len : r.cs.length = 13
  kind : r.cs[0]? = some (.int .i64 r.k)
  name : r.cs[1]? = some (.string r.n)
  one : ∀ v ∈ r.cs, v.oneCell' = true
  short : r.n.size ≤ maxLen
/-- A slice of n rows that can be read. -/
structure RS (w : World) (a : Option Addr) (n : Nat) (rs : List Rw) : Prop where
  len : rs.length = n
  room : n * 136 ≤ 140737488351232
  ok : ∀ r ∈ rs, RwOk r
  cells : n = 0 ∨ ∃ b off, a = some ⟨b, off, none⟩ ∧ ∀ i r, rs[i]? = some r → w.rangeAt b (off + i * 13) r.cs
theorem rangeAt_below {w w' : World} {b o : Nat} {cs : List Value} (h : w.rangeAt b o cs) (hb : Below w.heap.size w w') : w'.rangeAt b o cs := fun j v hv => (hb.cell (cell_lt (h j v hv))).trans (h j v hv)
theorem RS.below {w w' : World} {a : Option Addr} {n : Nat} {rs : List Rw} (h : RS w a n rs) (hb : Below w.heap.size w w') : RS w' a n rs := by
  refine ⟨h.len, h.room, h.ok, ?_⟩
  rcases h.cells with h0 | ⟨b, off, rfl, hc⟩
  · exact .inl h0
  · exact .inr ⟨b, off, rfl, fun i r hi => rangeAt_below (hc i r hi) hb⟩
theorem RS.at {w : World} {a : Option Addr} {n k : Nat} {rs : List Rw} {r : Rw} (h : RS w a n rs) (hr : rs[k]? = some r) : ∃ b off, a = some ⟨b, off, none⟩ ∧ w.rangeAt b (off + k * 13) r.cs ∧ RwOk r ∧ b < w.heap.size := by
  have hok := h.ok r (List.mem_of_getElem? hr)
  rcases h.cells with h0 | ⟨b, off, e, hc⟩
  · have := (List.getElem?_eq_some_iff.1 hr).1
    have := h.len
    omega
  · have := hc k r hr
    exact ⟨b, off, e, this, hok, cell_lt (this 0 _ hok.kind)⟩
/-- The names that rows of a kind have, each once, as they come. -/
def namesOf (kind : Int) (rs : List Rw) : List ByteArray := rs.foldl (fun D r => if r.k = kind then addN D r.n else D) []
theorem namesOf_snoc (kind : Int) (rs : List Rw) (r : Rw) : namesOf kind (rs ++ [r]) = if r.k = kind then addN (namesOf kind rs) r.n else namesOf kind rs := by simp [namesOf]
/-- What stands under a name behind keys. -/
def valL (D : List ByteArray) (ks : List Ky) : ByteArray → Int := ks.foldl (fun f k => if k.n ∈ D then upF f k.n k.v else f) (fun _ => 0)
theorem valL_snoc (D : List ByteArray) (ks : List Ky) (k : Ky) : valL D (ks ++ [k]) = if k.n ∈ D then upF (valL D ks) k.n k.v else valL D ks := by simp [valL]
end Go.Proofs.Ythejehbhjkmeeaa
