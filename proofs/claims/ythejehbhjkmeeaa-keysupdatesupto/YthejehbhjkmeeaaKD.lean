/- A pool of numbers: newPool, take. Conditions: as said. -/
import Derived.Test.YthejehbhjkmeeaaKC
import Derived.Carry
namespace Go.Proofs.Ythejehbhjkmeeaa
open Go.RowKit
theorem wpList_mapUpdate_run {ops : Array Oper} {rest : List Oper} {op : Oper} {a : Act} {w w' : World} {Q : Exit → Act → World → Prop} (hgd : op.guard = none) (mt : TypeId) (x k y : Operand) (ho : op.op = .mapUpdate mt x k y)
    (m kv v : Value) (hx : a.eval x = m) (hk : a.eval k = kv) (hy : a.eval y = v) (hr : (Instr.mapUpdate mt m kv v).run Try.prog w = .ok () w')
    (h : wpList Try.prog ops Q rest (a.put op.dst undef) w') : wpList Try.prog ops Q (op :: rest) a w := by
  refine wpList_plain hgd fun K hK => ?_
  unfold Oper.wp execOp
  simp only [ho, hx, hk, hy, Sem.run_bind, hr, Result.andThen_ok]
  exact hK _ _ h
/-- All old blocks but one stay. -/
structure Fr (mb : Nat) (w w' : World) : Prop where
  below : Below mb w w'
  block : ∀ k, k < w.heap.size → k ≠ mb → w'.heap[k]? = w.heap[k]?
theorem Fr.refl (mb : Nat) (w : World) : Fr mb w w := ⟨Below.refl _ _, fun _ _ _ => rfl⟩
theorem Fr.trans {mb : Nat} {w w1 w2 : World} (h : Fr mb w w1) (g : Fr mb w1 w2) : Fr mb w w2 := ⟨h.below.trans g.below, fun k hk hne => (g.block k (Nat.lt_of_lt_of_le hk h.below.size) hne).trans (h.block k hk hne)⟩
theorem Fr.of {mb : Nat} {w w' : World} (h : Below w.heap.size w w') (hm : mb ≤ w.heap.size) : Fr mb w w' := ⟨h.mono hm, fun k hk _ => h.block k hk⟩
theorem Fr.to {mb : Nat} {w0 w w' : World} (hb : Below w0.heap.size w0 w) (h : Fr mb w w') (hm : w0.heap.size ≤ mb) : Below w0.heap.size w0 w' := hb.trans (h.below.mono hm)
theorem Fr.size {mb : Nat} {w w' : World} (h : Fr mb w w') : w.heap.size ≤ w'.heap.size := h.below.size
theorem Fr.cell {mb : Nat} {w w' : World} (h : Fr mb w w') {b o : Nat} (hb : b < w.heap.size) (hne : b ≠ mb) : w'.cell? ⟨b, o, none⟩ = w.cell? ⟨b, o, none⟩ := by
  unfold World.cell?; simp only [h.block b hb hne]
/-- The numbers that are had, in a map's block. -/
def PoolAt (w : World) (mb : Nat) (H : List Int) : Prop := ∃ l c, w.heap[mb]? = some (.map (entG iv l).toArray c) ∧ l.map (·.1) = H ∧ ∀ x ∈ l, x.2.1 = .agg #[]
theorem PoolAt.below {w w' : World} {mb : Nat} {H : List Int} (h : PoolAt w mb H) (hb : Below w.heap.size w w') : PoolAt w' mb H := by
  obtain ⟨l, c, h1, h2⟩ := h
  exact ⟨l, c, (hb.block _ (lt_of_heap h1)).trans h1, h2⟩
theorem PoolAt.lt {w : World} {mb : Nat} {H : List Int} (h : PoolAt w mb H) : mb < w.heap.size := by
  obtain ⟨l, c, h1, h2⟩ := h
  exact lt_of_heap h1
def poolV (mb : Nat) (most : Int) : Value := .agg #[.map (some mb), .int .i64 most]
theorem size59 : (Try.prog.info? 59).map (·.size) = some 2 := by kernel_rfl
set_option maxHeartbeats 400000 in
theorem newPool_any (most : Int) (w : World) : Calls Try.prog 24 #[.int .i64 most] w fun e w' => e = .returned (poolV (w.heap.size + 1) most) ∧ PoolAt w' (w.heap.size + 1) [] ∧ Below w.heap.size w w' := by
  unfold poolV
  have hmm := @run_makeMap Try.prog
  go_enter Try.func24, Try.ntmps24
  go_wp2
  refine bodyPost_ret (results_cell_row (p := 2) (ty := 59) rfl _ _ w.heap.size 59 #[.map (some (w.heap.size + 1)), .int .i64 most] (0, 0) _ rfl (two_first _ _ _) Try.underlying59 rfl size59) rfl ⟨rfl, ⟨[], 0, ?_, rfl, by simp⟩, below2 _ _ _⟩
  exact two_last _ _ _
/-- Can a number be taken? -/
def takeB (H : List Int) (most n : Int) : Bool := !(decide (n ∈ H)) && (decide (1 ≤ n) && decide (n ≤ most))
def takeH (H : List Int) (most n : Int) : List Int := bif takeB H most n then H ++ [n] else H
theorem zero73 (W : World) : (zeroValue 73).run Try.prog W = .ok (.agg #[]) W := by
  first | kernel_rfl | simp [zeroValue, go_sem]
set_option maxRecDepth 20000 in
set_option maxHeartbeats 400000 in
theorem take_any (mb : Nat) (H : List Int) (most n : Int) (w : World) (h : PoolAt w mb H) :
    Calls Try.prog 25 #[poolV mb most, .int .i64 n] w fun e w' => e = .returned (.bool (takeB H most n)) ∧ PoolAt w' mb (takeH H most n) ∧ Fr mb w w' := by
  obtain ⟨l, c, h1, h2, h3⟩ := h
  unfold poolV
  have hlt := lt_of_heap h1
  have hA : (w.alloc (.cells #[.map (some mb), .int .i64 most] 59)).heap[mb]? = some (.map (entG iv l).toArray c) := (heap_alloc_old _ _ hlt).trans h1
  have hlk := look_ok intK Try.underlying57 (.agg #[]) zero73 hA n
  have hvv : ((findG n l 0).map (·.2)).getD (.agg #[]) = .agg #[] := by
    cases hf : findG n l 0 with
    | none => rfl
    | some p =>
      obtain ⟨b, _, hb⟩ := findG_at (i := p.1) (v := p.2) (by rw [hf])
      have := h3 _ (List.mem_of_getElem? hb)
      simpa using this
  rw [hvv] at hlk
  have hmem : (findG n l 0).isSome = decide (n ∈ H) := by
    rw [← h2]
    cases hf : findG n l 0 with
    | none => simp [findG_none.1 hf]
    | some p => 
      have : n ∈ l.map (·.1) := by
        by_cases hm : n ∈ l.map (·.1)
        · exact hm
        · rw [findG_none.2 hm] at hf; cases hf
      simp only [Option.isSome_some]
      exact (decide_eq_true this).symm
  rw [hmem] at hlk
  unfold iv at hlk
  have hno : takeB H most n = false → PoolAt ((w.alloc (.cells #[.map (some mb), .int .i64 most] 59)).alloc (.cells #[] 73)) mb (takeH H most n) ∧ Fr mb w ((w.alloc (.cells #[.map (some mb), .int .i64 most] 59)).alloc (.cells #[] 73)) := by
    intro ht
    have : takeH H most n = H := by unfold takeH; rw [ht]; rfl
    rw [this]
    exact ⟨PoolAt.below ⟨l, c, h1, h2, h3⟩ (below2 _ _ _), Fr.of (below2 _ _ _) (by omega)⟩
  by_cases m1 : n ∈ H
  · have ht : takeB H most n = false := by simp [takeB, m1]
    have HP : Hid _ := hno ht
    have HT : Hid _ := ht
    have m1' : decide (n ∈ H) = true := decide_eq_true m1
    rw [m1'] at hlk
    clear hvv hmem hA hno ht m1 m1'
    go_enter Try.func25, Try.ntmps25
    go_wp2
    go_ret
    exact ⟨by rw [HT.out]; rfl, HP.out⟩
  · have m1' : decide (n ∈ H) = false := decide_eq_false m1
    rw [m1'] at hlk
    by_cases m2 : n < 1
    · have ht : takeB H most n = false := by simp [takeB]; omega
      have HP : Hid _ := hno ht
      have HT : Hid _ := ht
      clear hvv hmem hA hno ht m1 m1'
      go_enter Try.func25, Try.ntmps25
      go_wp2
      go_ret
      exact ⟨by rw [HT.out]; rfl, HP.out⟩
    · have m2' : 1 ≤ n := by omega
      by_cases m3 : most < n
      · have ht : takeB H most n = false := by simp [takeB]; omega
        have HP : Hid _ := hno ht
        have HT : Hid _ := ht
        clear hvv hmem hA hno ht m1 m1' m2
        go_enter Try.func25, Try.ntmps25
        go_wp2
        go_ret
        exact ⟨by rw [HT.out]; rfl, HP.out⟩
      · have m3' : n ≤ most := by omega
        have ht : takeB H most n = true := by simp [takeB, m1]; omega
        have HT : Hid _ := ht
        have hth : takeH H most n = H ++ [n] := by unfold takeH; rw [ht]; rfl
        have hA2 : ((w.alloc (.cells #[.map (some mb), .int .i64 most] 59)).alloc (.cells #[] 73)).heap[mb]? = some (.map (entG iv l).toArray c) := (heap_alloc_old _ _ (by simp; omega)).trans hA
        have hfn : findG n l 0 = none := findG_none.2 (by rw [h2]; exact m1)
        have hput := put_new intK Try.underlying57 hA2 n hfn (.agg #[])
        unfold iv at hput
        have HP : Hid (PoolAt (putObj ((w.alloc (.cells #[.map (some mb), .int .i64 most] 59)).alloc (.cells #[] 73)) mb (.map (entG (fun z => .int .i64 z) (l ++ [(n, .agg #[], c)])).toArray (c + 1))) mb (takeH H most n) ∧ Fr mb w (putObj ((w.alloc (.cells #[.map (some mb), .int .i64 most] 59)).alloc (.cells #[] 73)) mb (.map (entG (fun z => .int .i64 z) (l ++ [(n, .agg #[], c)])).toArray (c + 1)))) := by
          refine ⟨⟨l ++ [(n, .agg #[], c)], c + 1, putObj_same (by simp; omega) _, by rw [hth, List.map_append, h2]; rfl, ?_⟩, ?_⟩
          · intro x hx
            rcases List.mem_append.1 hx with hx | hx
            · exact h3 x hx
            · simp at hx; rw [hx]
          · exact (Fr.of (below2 _ _ _) (by omega)).trans ⟨putObj_below _ _ _, fun k _ hne => putObj_other _ hne _⟩
        clear hvv hmem hA hno ht m1 m1' m2 m3 hth hA2 hfn
        go_enter Try.func25, Try.ntmps25
        go_wp2
        go_ret
        exact ⟨by rw [HT.out]; rfl, HP.out⟩
end Go.Proofs.Ythejehbhjkmeeaa
