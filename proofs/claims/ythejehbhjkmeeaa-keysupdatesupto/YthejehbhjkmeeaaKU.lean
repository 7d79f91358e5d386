/- Right keys, numbers that are given: plain facts of package keys. No condition. -/
import Derived.Test.YthejehbhjkmeeaaKN
namespace Go.Proofs.Ythejehbhjkmeeaa
open Go.RowKit
theorem toList_inj {a b : ByteArray} : (a.toList == b.toList) = true ↔ a = b := by
  rw [← beq_toListBytes]; exact MapKept.bytes_beq a b
/-- The names of keys rise. -/
def Rising : Option ByteArray → List Ky → Prop
  | _, [] => True
  | p, k :: r => notUp p k.n = false ∧ Rising (some k.n) r
theorem takeB_iff {H : List Int} {most n : Int} : takeB H most n = true ↔ n ∉ H ∧ 1 ≤ n ∧ n ≤ most := by simp [takeB]
theorem step_some {most : Int} : ∀ {ks : List Ky} {H H' : List Int} {p : Option ByteArray}, step most H p ks = some H' →
    H' = H ++ ks.map (·.v) ∧ Rising p ks ∧ (∀ k ∈ ks, 1 ≤ k.v ∧ k.v ≤ most ∧ k.v ∉ H) ∧ (ks.map (·.v)).Nodup
  | [], H, H', p, h => by simp [step] at h; simp [h, Rising]
  | k :: r, H, H', p, h => by
    unfold step at h
    cases h1 : notUp p k.n
    · cases h2 : takeB H most k.v
      · simp [h1, h2] at h
      · simp only [h1, h2, Bool.not_true, Bool.or_false, cond_false] at h
        obtain ⟨e, hr, hb, hn⟩ := step_some h
        obtain ⟨t1, t2, t3⟩ := takeB_iff.1 h2
        refine ⟨by rw [e]; simp, ⟨h1, hr⟩, ?_, ?_⟩
        · intro k' hk'
          rcases List.mem_cons.1 hk' with rfl | hk'
          · exact ⟨t2, t3, t1⟩
          · have := hb k' hk'
            exact ⟨this.1, this.2.1, fun hm => this.2.2 (List.mem_append_left _ hm)⟩
        · rw [List.map_cons, List.nodup_cons]
          refine ⟨fun hm => ?_, hn⟩
          obtain ⟨k', hk', e'⟩ := List.mem_map.1 hm
          exact (hb k' hk').2.2 (by rw [e']; simp)
    · simp [h1] at h
theorem step_of {most : Int} : ∀ {ks : List Ky} {H : List Int} {p : Option ByteArray}, Rising p ks → (∀ k ∈ ks, 1 ≤ k.v ∧ k.v ≤ most ∧ k.v ∉ H) → (ks.map (·.v)).Nodup → step most H p ks = some (H ++ ks.map (·.v))
  | [], H, p, _, _, _ => by simp [step]
  | k :: r, H, p, hr, hb, hn => by
    have hk := hb k (by simp)
    have h2 : takeB H most k.v = true := takeB_iff.2 ⟨hk.2.2, hk.1, hk.2.1⟩
    rw [step_yes hr.1 h2]
    rw [List.map_cons, List.nodup_cons] at hn
    rw [step_of hr.2 (fun k' hk' => ?_) hn.2]
    · simp
    · have := hb k' (by simp [hk'])
      refine ⟨this.1, this.2.1, fun hm => ?_⟩
      rcases List.mem_append.1 hm with hm | hm
      · exact this.2.2 hm
      · simp at hm
        exact hn.1 (by rw [← hm]; exact List.mem_map_of_mem hk')
/-- Keys of two lists that share a row of numbers are right. -/
structure Right (most : Int) (a b : List Ky) : Prop where
  ra : Rising none a
  rb : Rising none b
  bd : ∀ k ∈ a ++ b, 1 ≤ k.v ∧ k.v ≤ most
  nd : ((a ++ b).map (·.v)).Nodup
theorem rightB_iff {most : Int} {a b : List Ky} : rightB most a b = true ↔ Right most a b := by
  unfold rightB
  simp only [accR, two, if_pos, Option.bind_some]
  constructor
  · intro h
    cases h1 : step most [] none a with
    | none => rw [h1] at h; simp at h
    | some H1 =>
      rw [h1] at h
      simp only [Option.bind_some] at h
      cases h2 : step most H1 none b with
      | none => simp [h2] at h
      | some H2 =>
        obtain ⟨e1, r1, b1, n1⟩ := step_some h1
        obtain ⟨e2, r2, b2, n2⟩ := step_some h2
        refine ⟨r1, r2, fun k hk => ?_, ?_⟩
        · rcases List.mem_append.1 hk with hk | hk
          · exact ⟨(b1 k hk).1, (b1 k hk).2.1⟩
          · exact ⟨(b2 k hk).1, (b2 k hk).2.1⟩
        · rw [List.map_append, List.nodup_append]
          refine ⟨n1, n2, fun x hx y hy e => ?_⟩
          obtain ⟨k, hk, rfl⟩ := List.mem_map.1 hy
          exact (b2 k hk).2.2 (by rw [e1, ← e]; simpa using hx)
  · intro h
    have hnd := h.nd
    rw [List.map_append, List.nodup_append] at hnd
    rw [step_of h.ra (fun k hk => ⟨(h.bd k (by simp [hk])).1, (h.bd k (by simp [hk])).2, by simp⟩) hnd.1]
    simp only [Option.bind_some]
    have := step_of (most := most) (H := [] ++ a.map (·.v)) (p := none) h.rb (fun k hk => ⟨(h.bd k (by simp [hk])).1, (h.bd k (by simp [hk])).2, fun hm => hnd.2.2 k.v (by simpa using hm) k.v (List.mem_map_of_mem hk) rfl⟩) hnd.2.1
    simp only [Nat.succ_ne_zero, if_false] at *
    rw [this]; rfl
theorem chkE_zero {a b c d : List Ky} : chkE a b c d = 0 ↔ Right 16777215 a b ∧ Right 65535 c d := by
  unfold chkE
  cases h1 : rightB 16777215 a b <;> cases h2 : rightB 65535 c d
  · simp; intro h; rw [rightB_iff.2 h] at h1; cases h1
  · simp; intro h; rw [rightB_iff.2 h] at h1; cases h1
  · simp; intro _ h; rw [rightB_iff.2 h] at h2; cases h2
  · simp; exact ⟨rightB_iff.1 h1, rightB_iff.1 h2⟩
theorem chkE_cases (a b c d : List Ky) : chkE a b c d = 0 ∨ chkE a b c d = 190 := by
  unfold chkE; cases (rightB 16777215 a b && rightB 65535 c d) <;> simp
def nlt (a b : ByteArray) : Prop := a.data.toList < b.data.toList
theorem less_iff {a b : ByteArray} : Op.bytesLess a.toList b.toList = true ↔ nlt a b := by
  rw [ByteArray.toList_eq, ByteArray.toList_eq, bytesLess_eq]; simp [nlt]
theorem nlt_trans {a b c : ByteArray} (h1 : nlt a b) (h2 : nlt b c) : nlt a c := List.lt_trans h1 h2
theorem nlt_ne {a b : ByteArray} (h : nlt a b) : a ≠ b := fun e => by subst e; exact List.lt_irrefl _ h
theorem rising_pair : ∀ {ks : List Ky} {p : Option ByteArray}, Rising p ks ↔ (ks.map (·.n)).Pairwise nlt ∧ ∀ q, p = some q → ∀ k ∈ ks, nlt q k.n
  | [], p => by simp [Rising]
  | k :: r, p => by
    unfold Rising
    rw [rising_pair (ks := r)]
    have hnu : notUp p k.n = false ↔ ∀ q, p = some q → nlt q k.n := by
      cases p with
      | none => simp [notUp]
      | some q => simp [notUp, less_iff]
    rw [hnu, List.map_cons, List.pairwise_cons]
    constructor
    · rintro ⟨h1, h2, h3⟩
      refine ⟨⟨fun x hx => ?_, h2⟩, fun q hq k' hk' => ?_⟩
      · obtain ⟨k', hk', rfl⟩ := List.mem_map.1 hx
        exact h3 _ rfl k' hk'
      · rcases List.mem_cons.1 hk' with rfl | hk'
        · exact h1 q hq
        · exact nlt_trans (h1 q hq) (h3 _ rfl k' hk')
    · rintro ⟨⟨h1, h2⟩, h3⟩
      exact ⟨fun q hq => h3 q hq k (by simp), h2, fun q hq k' hk' => by cases hq; exact h1 _ (List.mem_map_of_mem hk')⟩
theorem rising_names {ks : List Ky} (h : Rising none ks) : (ks.map (·.n)).Nodup := by
  have := (rising_pair.1 h).1
  exact this.imp (fun h => nlt_ne h)
theorem srt_pair {N : List ByteArray} (h : N.Nodup) : (srt N).Pairwise nlt := by
  unfold srt
  rw [List.pairwise_map]
  have tr : ∀ a b c : List UInt8, Go.leB a b = true → Go.leB b c = true → Go.leB a c = true := fun a b c h1 h2 => by simp only [Go.leB, decide_eq_true_eq] at *; exact List.le_trans h1 h2
  have to : ∀ a b : List UInt8, (Go.leB a b || Go.leB b a) = true := fun a b => by simp only [Go.leB, Bool.or_eq_true, decide_eq_true_eq]; exact List.le_total a b
  have hs := List.pairwise_mergeSort tr to (N.map (·.data.toList))
  have hnd : ((N.map (·.data.toList)).mergeSort Go.leB).Nodup := by
    rw [(List.mergeSort_perm _ _).nodup_iff, List.nodup_iff_pairwise_ne, List.pairwise_map]
    exact h.imp (fun hne e => hne (by rename_i a b; cases a; cases b; simpa using e))
  refine (hs.and hnd).imp ?_
  rintro a b ⟨h1, h2⟩
  simp only [Go.leB, decide_eq_true_eq] at h1
  show (_ : List UInt8) < _
  simp only
  rcases List.le_iff_lt_or_eq.1 h1 with h | h
  · exact h
  · exact absurd h h2
theorem namesOf_nodup (kind : Int) (rs : List Rw) : (namesOf kind rs).Nodup := by
  unfold namesOf
  suffices h : ∀ (rs : List Rw) (D : List ByteArray), D.Nodup → (rs.foldl (fun D r => if r.k = kind then addN D r.n else D) D).Nodup from h rs [] (by simp)
  intro rs
  induction rs with
  | nil => intro D h; exact h
  | cons r t ih =>
    intro D h
    refine ih _ ?_
    dsimp only
    split
    · unfold addN
      split
      · exact h
      · rename_i hn
        exact List.nodup_append.2 ⟨h, by simp, fun x hx y hy e => by simp at hy; subst hy; exact hn (by rw [← e]; exact hx)⟩
    · exact h
theorem keptS_names (old : List Ky) (kind : Int) (rs : List Rw) : (keptS old kind rs).map (·.n) = srt (namesOf kind rs) := by
  unfold keptS; rw [List.map_map]
  exact (List.map_congr_left (fun _ _ => rfl)).trans (List.map_id _)
theorem findK_iff : ∀ {ks : List Ky} {n : ByteArray}, (ks.map (·.n)).Nodup → ∀ {v : Int}, findK ks n = some v ↔ ⟨n, v⟩ ∈ ks
  | [], n, _, v => by simp [findK]
  | k :: r, n, hnd, v => by
    rw [List.map_cons, List.nodup_cons] at hnd
    unfold findK
    cases h : (k.n.toList == n.toList)
    · have hne : k.n ≠ n := fun e => by rw [toList_inj.2 e] at h; cases h
      simp only [cond_false]
      rw [findK_iff hnd.2]
      constructor
      · intro h'; exact List.mem_cons_of_mem _ h'
      · intro h'
        rcases List.mem_cons.1 h' with e | h'
        · exact absurd (by rw [← e]) hne
        · exact h'
    · have he : k.n = n := toList_inj.1 h
      simp only [cond_true, Option.some.injEq]
      constructor
      · intro e; subst e; subst he; simp
      · intro h'
        rcases List.mem_cons.1 h' with e | h'
        · rw [← e]
        · exact absurd (by rw [he]; exact List.mem_map_of_mem (f := (·.n)) h') hnd.1
theorem findK_none : ∀ {ks : List Ky} {n : ByteArray}, findK ks n = none ↔ n ∉ ks.map (·.n)
  | [], n => by simp [findK]
  | k :: r, n => by
    unfold findK
    cases h : (k.n.toList == n.toList)
    · have hne : k.n ≠ n := fun e => by rw [toList_inj.2 e] at h; cases h
      simp only [cond_false]
      rw [findK_none]
      simp only [List.map_cons, List.mem_cons, not_or]
      exact ⟨fun h' => ⟨fun e => hne e.symm, h'⟩, fun h' => h'.2⟩
    · have he : k.n = n := toList_inj.1 h
      simp [he]
theorem valL_eq {D : List ByteArray} {n : ByteArray} (hn : n ∈ D) {ks : List Ky} (hnd : (ks.map (·.n)).Nodup) : valL D ks n = (findK ks n).getD 0 := by
  unfold valL
  suffices h : ∀ (ks : List Ky) (f : ByteArray → Int), (ks.map (·.n)).Nodup → ks.foldl (fun f k => if k.n ∈ D then upF f k.n k.v else f) f n = (findK ks n).getD (f n) from h ks _ hnd
  intro ks
  induction ks with
  | nil => intro f _; rfl
  | cons k r ih =>
    intro f hnd
    rw [List.map_cons, List.nodup_cons] at hnd
    rw [List.foldl_cons, ih _ hnd.2]
    show (findK r n).getD ((if k.n ∈ D then upF f k.n k.v else f) n) = (bif k.n.toList == n.toList then some k.v else findK r n).getD (f n)
    cases h : (k.n.toList == n.toList)
    · have hne : n ≠ k.n := fun e => by rw [toList_inj.2 e.symm] at h; cases h
      have hfn : (if k.n ∈ D then upF f k.n k.v else f) n = f n := by
        split
        · unfold upF; rw [if_neg hne]
        · rfl
      rw [hfn]; rfl
    · have he : k.n = n := toList_inj.1 h
      have hno : findK r n = none := findK_none.2 (by rw [← he]; exact hnd.1)
      rw [hno, if_pos (by rw [he]; exact hn)]
      simp [upF, he]
theorem inj_of_nodup {α β : Type} {f : α → β} : ∀ {l : List α}, (l.map f).Nodup → ∀ {x y : α}, x ∈ l → y ∈ l → f x = f y → x = y
  | [], _, _, _, hx, _, _ => by simp at hx
  | a :: l, h, x, y, hx, hy, e => by
    rw [List.map_cons, List.nodup_cons] at h
    rcases List.mem_cons.1 hx with e1 | h1 <;> rcases List.mem_cons.1 hy with e2 | h2
    · rw [e1, e2]
    · exact absurd (by rw [← e1, e]; exact List.mem_map_of_mem h2) h.1
    · exact absurd (by rw [← e2, ← e]; exact List.mem_map_of_mem h1) h.1
    · exact inj_of_nodup h.2 h1 h2 e
end Go.Proofs.Ythejehbhjkmeeaa
