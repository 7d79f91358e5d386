/- Get, Set, Has of package field. Conditions: the State's cells are of their kinds. -/
import Derived.Test.YtnahhmcmahbnkaaGreatDoorFE
import Derived.Deep.RegionHeld3
import Derived.Deep.RegionWith
import Derived.Deep.DrawnRows
namespace Go.Proofs.YtnahhmcmahbnkaaGreatDoor
open Go.RowKit

theorem cell_row {W : World} {g : Nat} {cs : Array Value} {t : TypeId} (h : W.heap[g]? = some (.cells cs t (0, 0))) (i : Nat) : W.cell? ⟨g, i, none⟩ = cs[i]? := cell_of_row W g i cs t (0, 0) h
/-- A whole struct into a block. -/
theorem wpList_store_row {P : Program} {ops : Array Oper} {rest : List Oper} {op : Oper} {a : Act} {w : World} {Q : Exit → Act → World → Prop} (hgd : op.guard = none) (ty : TypeId) (x y : Operand) (ho : op.op = .store ty x y)
    (g : Nat) (old c' : Array Value) (t : TypeId) (hx : a.eval x = .pointer (some ⟨g, 0, none⟩)) (hy : a.eval y = .agg c') (hg : w.heap[g]? = some (.cells old t (0, 0)))
    (hi : (P.info? ty).map (·.size) = some c'.size) (hs : old.size = c'.size) (h1 : c'.all (·.oneCell') = true)
    (h : ∀ w', w'.heap[g]? = some (.cells c' t (0, 0)) → (∀ k, k ≠ g → w'.heap[k]? = w.heap[k]?) → w'.heap.size = w.heap.size → Below g w w' → wpList P ops Q rest (a.put op.dst undef) w') : wpList P ops Q (op :: rest) a w := by
  refine wpList_plain hgd fun K hK => ?_
  unfold Oper.wp execOp
  simp only [ho, hx, hy, Sem.run_bind, Instr.storeAt, Instr.sureAddr, Sem.run_pure, Result.andThen_ok, run_storeVar_row w g t ty old c' hg hi hs h1]
  have e1 : (w.setRow g c').heap.size = w.heap.size := by simp [World.setRow]
  have e2 : ∀ k, k ≠ g → (w.setRow g c').heap[k]? = w.heap[k]? := fun k hk => by
    simp only [World.setRow, Array.getElem?_modify]
    rw [if_neg (fun e => hk e.symm)]
  have e3 : (w.setRow g c').heap[g]? = some (.cells c' t (0, 0)) := by
    simp only [World.setRow, Array.getElem?_modify, hg]
    simp
  exact hK _ _ (h _ e3 e2 e1 ⟨rfl, rfl, rfl, by omega, fun k hk => e2 k (by omega)⟩)

/-- The first n cells of a block as a struct. -/
theorem wpList_load_head {P : Program} {ops : Array Oper} {rest : List Oper} {op : Oper} {a : Act} {w : World} {Q : Exit → Act → World → Prop} (hgd : op.guard = none) (ty : TypeId) (x : Operand) (ho : op.op = .load ty x)
    (g n : Nat) (hx : a.eval x = .pointer (some ⟨g, 0, none⟩)) (cs : Array Value) (t : TypeId) (d : TypeDesc) (hg : w.heap[g]? = some (.cells cs t (0, 0)))
    (hu : P.underlying ty = some d) (hd : d.isRow = true) (hn : (cs.extract 0 n).size = n) (hi : (P.info? ty).map (·.size) = some n)
    (h : wpList P ops Q rest (a.put op.dst (.agg (cs.extract 0 n))) w) : wpList P ops Q (op :: rest) a w := by
  have hr := World.rangeAt_of_block hg 0 n
  rw [Nat.zero_add] at hr
  refine wpList_load_mid hgd ty x ho g 0 hx (cs.extract 0 n).toList d hr hu hd (by rw [Array.length_toList, hn]; exact hi) ?_
  rw [Array.toArray_toList]
  exact h
theorem run_load49 {W : World} {g : Nat} {cs : Array Value} (h : W.heap[g]? = some (.cells cs 38 (0, 0))) (hs : cs.size = 49) : (Instr.loadAt 38 (.pointer (some ⟨g, 0, none⟩))).run Tryz.prog W = .ok (.agg cs) W := by
  simp only [Instr.loadAt, Instr.sureAddr, Sem.run_bind, Sem.run_pure, Result.andThen_ok, run_loadVar_row W g 38 38 cs (0, 0) _ h Tryz.underlying38 rfl (info_size hs)]
theorem yields_load49 {ops : Array Oper} {S : World → Prop} {op : Oper} {a : Act} (hw : Region.wanted op (yielded ops a.tmps) = true) (x : Operand) (ho : op.op = .load 38 x)
    (b : Nat) (hx : a.eval x = .pointer (some ⟨b, 0, none⟩)) (cs : Array Value) (hS : ∀ w, S w → w.heap[b]? = some (.cells cs 38 (0, 0))) (hs : cs.size = 49) : YieldsIf Tryz.prog ops S op (.agg cs) a :=
  .inl ⟨hw, fun w hw' => by
    unfold execOp
    simp only [ho, hx, Sem.run_bind, run_load49 (hS w hw') hs, Sem.run_pure, Result.andThen_ok]⟩
theorem lt_of_heap {W : World} {g : Nat} {o : Obj} (h : W.heap[g]? = some o) : g < W.heap.size := by
  rcases Nat.lt_or_ge g W.heap.size with h' | h'
  · exact h'
  · simp [Array.getElem?_eq_none h'] at h
theorem info67 : (Tryz.prog.info? 215).map (·.size) = some 5 := by kernel_rfl
/-- The cells of rows. -/
def rowC (name : ByteArray) (bits of_ : Int) (R S : Value) : Array Value := #[.string name, .int .i64 bits, .int .i64 of_, R, S]

/-- Has the State the field? -/
def hasF (f : Nat) (cs : Array Value) : Bool := ofB (fOf f) (boolAt cs 5) (boolAt cs 11) (numAt cs 20)
theorem fName_ne (f : Nat) (hf : 1 ≤ f) (hf2 : f ≤ 28) : (fName f).toList.isEmpty = false := by
  rcases (show f = 1 ∨ f = 2 ∨ f = 3 ∨ f = 4 ∨ f = 5 ∨ f = 6 ∨ f = 7 ∨ f = 8 ∨ f = 9 ∨ f = 10 ∨ f = 11 ∨ f = 12 ∨ f = 13 ∨ f = 14 ∨ f = 15 ∨ f = 16 ∨ f = 17 ∨ f = 18 ∨ f = 19 ∨ f = 20 ∨ f = 21 ∨ f = 22 ∨ f = 23 ∨ f = 24 ∨ f = 25 ∨ f = 26 ∨ f = 27 ∨ f = 28 from by omega) with rfl | rfl | rfl | rfl | rfl | rfl | rfl | rfl | rfl | rfl | rfl | rfl | rfl | rfl | rfl | rfl | rfl | rfl | rfl | rfl | rfl | rfl | rfl | rfl | rfl | rfl | rfl | rfl <;> decide +kernel
theorem fOf_le (f : Nat) : fOf f ≤ 5 := by unfold fOf; split <;> decide
theorem fBits_le (f : Nat) : fBits f ≤ 48 := by unfold fBits; split <;> decide
theorem info44 : (Tryz.prog.info? 33).map (·.size) = some 36 := by kernel_rfl
theorem packet_cells {cs : Array Value} (h : St cs) : (cs.extract 0 36).size = 36 ∧ (cs.extract 0 36)[5]? = some (.bool (boolAt cs 5)) ∧ (cs.extract 0 36)[11]? = some (.bool (boolAt cs 11)) ∧ (cs.extract 0 36)[20]? = some (.int .i64 (numAt cs 20)) := by
  obtain ⟨b5, h5⟩ := h.bool 5 (by decide)
  obtain ⟨b11, h11⟩ := h.bool 11 (by decide)
  obtain ⟨k, h20, _⟩ := h.i64 20 (by decide)
  have hs := h.size
  refine ⟨by simp [hs], ?_, ?_, ?_⟩
  · rw [boolAt_of h5, Array.getElem?_extract]; simpa [hs] using h5
  · rw [boolAt_of h11, Array.getElem?_extract]; simpa [hs] using h11
  · rw [numAt_of h20, Array.getElem?_extract]; simpa [hs] using h20

set_option linter.unusedSimpArgs false in
set_option maxHeartbeats 1000000 in
set_option maxRecDepth 20000 in
theorem get_any (f : Nat) (hf : 1 ≤ f) (hf2 : f ≤ 28) (cs : Array Value) (hst : St cs) (w : World) :
    Calls Tryz.prog 98 #[.agg cs, .int .i64 f] w fun e w' => e = .returned (if hasF f cs then .tuple #[.int .u64 (bits BinOp.and IntKind.u64 (rdF f cs) (2 ^ fBits f - 1)), .int .i64 0] else .tuple #[.int .u64 0, .int .i64 81]) ∧ Below w.heap.size w w' := by
  obtain ⟨hp0, hp5, hp11, hp20⟩ := packet_cells hst
  have HP : Hid _ := And.intro hp5 (And.intro hp11 hp20)
  have HP0 : Hid _ := hp0
  have HST : Hid _ := hst
  clear hst hp5 hp11 hp20 hp0
  go_enter Tryz.func98, Tryz.ntmps98
  go_wp2_with fail
  refine (rowOf_any f hf hf2 _).mono ?_
  rintro e W1 ⟨R, S, rfl, hrow, hb1⟩
  obtain ⟨r, cap, rfl, hcall, hread⟩ := hrow.read
  obtain ⟨s, cap2, rfl, _, _⟩ := hrow.write
  have hS1 : W1.heap[w.heap.size]? = some (.cells cs 38 (0, 0)) := (hb1.block _ (by simp)).trans (heap_alloc_new _ _)
  have hlt1 : w.heap.size < W1.heap.size := by have := hb1.size; simp at this; omega
  have HS1 : Hid _ := hS1
  have HR : Hid _ := hread
  have HB1 : Hid (Below w.heap.size w W1) := (below1 w _).trans (hb1.mono (by simp))
  clear hrow hb1 hS1 hread
  unfold rowV
  go_wp2_with fail
  refine (isField_any (fName f) _ _ _ _ _).mono ?_
  rintro e W2 ⟨rfl, hb2⟩
  rw [fName_ne f hf hf2]
  have hS2 : W2.heap[w.heap.size]? = some (.cells cs 38 (0, 0)) := (hb2.block _ (by simp; omega)).trans ((heap_alloc_old _ _ (by omega)).trans HS1.out)
  have hR2 : W2.heap[W1.heap.size]? = some (.cells #[.string (fName f), .int .i64 (fBits f), .int .i64 (fOf f), .func (Fn.func r) #[] cap, .func (Fn.func s) #[] cap2] 215 (0, 0)) := (hb2.block _ (by simp)).trans (heap_alloc_new _ _)
  have HB2 : Hid (Below W1.heap.size W1 W2) := (below1 W1 _).trans (hb2.mono (by simp))
  have r2 := cell_row hR2 2
  simp only [List.getElem?_toArray, List.getElem?_cons_succ, List.getElem?_cons_zero] at r2
  have HS2 : Hid _ := hS2
  have HR2 : Hid _ := hR2
  clear hb2 hS2 hR2 HS1
  go_wp2_with (first
    | refine wpList_load_head rfl 33 _ rfl w.heap.size 36 rfl cs 38 _ HS2.out Tryz.underlying33 rfl HP0.out info44 ?_
    | fail)
  refine (isOf_any (fOf f) (fOf_le f) _ _ _ _ HP.out.1 HP.out.2.1 HP.out.2.2 _).mono ?_
  rintro e W3 ⟨rfl, hb3⟩
  have hS3 : W3.heap[w.heap.size]? = some (.cells cs 38 (0, 0)) := (hb3.block _ (by have := HB2.out.size; omega)).trans HS2.out
  have hR3 : W3.heap[W1.heap.size]? = some (.cells #[.string (fName f), .int .i64 (fBits f), .int .i64 (fOf f), .func (Fn.func r) #[] cap, .func (Fn.func s) #[] cap2] 215 (0, 0)) := (hb3.block _ (lt_of_heap HR2.out)).trans HR2.out
  have HB3 : Hid (Below W1.heap.size W1 W3) := HB2.out.trans (hb3.mono HB2.out.size)
  clear hb3 r2 HB2 HS2 HR2
  rw [show ofB (fOf f) (boolAt cs 5) (boolAt cs 11) (numAt cs 20) = hasF f cs from rfl]
  cases hh : hasF f cs
  · clear hS3 hR3
    go_wp2
    all_goals (first | (go_ret2; exact ⟨rfl, HB1.out.trans (HB3.out.mono HB1.out.size)⟩) | skip)

  · have key : ∀ W, Below W3.heap.size W3 W → W.cell? ⟨W1.heap.size, 1, none⟩ = some (.int .i64 (fBits f)) ∧ W.cell? ⟨W1.heap.size, 3, none⟩ = some (.func (Fn.func r) #[] cap) ∧ W.heap[w.heap.size]? = some (.cells cs 38 (0, 0)) ∧ Below W3.heap.size W3 W := fun W hb => by
      have e1 : W1.heap.size < W3.heap.size := lt_of_heap hR3
      have q1 := cell_row ((hb.block _ e1).trans hR3) 1
      have q3 := cell_row ((hb.block _ e1).trans hR3) 3
      simp only [List.getElem?_toArray, List.getElem?_cons_succ, List.getElem?_cons_zero] at q1 q3
      exact ⟨q1, q3, (hb.block _ (by omega)).trans hS3, hb⟩
    have KC : Hid _ := key
    clear hS3 hR3 key
    go_wp2_with fail
    refine wp_region_held_drew (S := (fun W => W.cell? ⟨W1.heap.size, 1, none⟩ = some (.int .i64 (fBits f)) ∧ W.cell? ⟨W1.heap.size, 3, none⟩ = some (.func (Fn.func r) #[] cap) ∧ W.heap[w.heap.size]? = some (.cells cs 38 (0, 0)) ∧ Below W3.heap.size W3 W)) (by kernel_rfl) ?_ (fun hHeld => ?_)
    · exact KC.out _ (Below.refl _ _).drew
    refine wpAnyH_take (i := 0) (v := ?_) rfl (by kernel_rfl) (by kernel_rfl) (by kernel_rfl) (fun _ _ _ h => h) (Or.inl ⟨by rfl, ?_⟩) (by assumption) ?_
    rotate_left
    · (intro w hSw; (try dsimp only at hSw); go_simp; try with_reducible rfl)
    try simp only [List.getElem_toArray, List.getElem_cons_zero, List.getElem_cons_succ, Act.put, List.setIfInBounds_toArray, List.set_cons_zero, List.set_cons_succ]
    refine wpAnyH_take (i := 1) (v := ?_) rfl (by kernel_rfl) (by kernel_rfl) (by kernel_rfl) (fun _ _ _ h => h) (Or.inl ⟨by rfl, ?_⟩) (by assumption) ?_
    rotate_left
    · (intro w hSw; (try dsimp only at hSw); go_simp; try with_reducible rfl)
    try simp only [List.getElem_toArray, List.getElem_cons_zero, List.getElem_cons_succ, Act.put, List.setIfInBounds_toArray, List.set_cons_zero, List.set_cons_succ]
    refine wpAnyH_take (i := 2) (v := .agg cs) rfl (by kernel_rfl) (by kernel_rfl) (by kernel_rfl) (fun _ _ _ h => h) (yields_load49 (by rfl) _ rfl w.heap.size rfl cs (fun _ h => h.2.2.1) HST.out.size) (by assumption) ?_
    try simp only [List.getElem_toArray, List.getElem_cons_zero, List.getElem_cons_succ, Act.put, List.setIfInBounds_toArray, List.set_cons_zero, List.set_cons_succ]
    refine wpAnyH_take (i := 4) (v := ?_) rfl (by kernel_rfl) (by kernel_rfl) (by kernel_rfl) (fun _ _ _ h => h) (Or.inl ⟨by rfl, ?_⟩) (by assumption) ?_
    rotate_left
    · (intro w hSw; (try dsimp only at hSw); go_simp; try with_reducible rfl)
    try simp only [List.getElem_toArray, List.getElem_cons_zero, List.getElem_cons_succ, Act.put, List.setIfInBounds_toArray, List.set_cons_zero, List.set_cons_succ]
    refine wpAnyH_take (i := 5) (v := ?_) rfl (by kernel_rfl) (by kernel_rfl) (by kernel_rfl) (fun _ _ _ h => h) (Or.inl ⟨by rfl, ?_⟩) (by assumption) ?_
    rotate_left
    · (intro w hSw; (try dsimp only at hSw); go_simp; try with_reducible rfl)
    try simp only [List.getElem_toArray, List.getElem_cons_zero, List.getElem_cons_succ, Act.put, List.setIfInBounds_toArray, List.set_cons_zero, List.set_cons_succ]
    refine wpAnyH_ready (rs := [3]) (by kernel_rfl) (by simp) ?_
    refine AllReadyH.cons (o := _) rfl (fun K hK => ?_) AllReadyH.nil
    go_simp
    refine (HR.out _ cs (HB3.out.trans (hHeld.2.2.2.mono HB3.out.size)) HST.out).mono ?_
    rintro e W4 ⟨rfl, hb4⟩
    go_wp2_with fail
    refine hK.out _ _ (KC.out _ (hHeld.2.2.2.trans (hb4.mono hHeld.2.2.2.size))) (fun hHeld2 => ?_)
    clear hK K hb4
    try simp only [List.getElem_toArray, List.getElem_cons_zero, List.getElem_cons_succ, Act.put, List.setIfInBounds_toArray, List.set_cons_zero, List.set_cons_succ]
    clear hHeld
    refine wpAnyH_ready (rs := [6]) (by kernel_rfl) (by simp) ?_
    refine AllReadyH.cons (o := _) rfl (fun K hK => ?_) AllReadyH.nil
    go_simp
    refine (ones_any _ (fBits_le f) _).mono ?_
    rintro e W5 ⟨rfl, rfl⟩
    go_wp2_with fail
    refine hK.out _ _ hHeld2 (fun hHeld3 => ?_)
    clear hK K hHeld2
    try simp only [List.getElem_toArray, List.getElem_cons_zero, List.getElem_cons_succ, Act.put, List.setIfInBounds_toArray, List.set_cons_zero, List.set_cons_succ]
    refine wpAnyH_take (i := 7) (v := ?_) rfl (by kernel_rfl) (by kernel_rfl) (by kernel_rfl) (fun _ _ _ h => h) (Or.inl ⟨by rfl, ?_⟩) (by assumption) ?_
    rotate_left
    · (intro w hSw; (try dsimp only at hSw); go_simp; try with_reducible rfl)
    try simp only [List.getElem_toArray, List.getElem_cons_zero, List.getElem_cons_succ, Act.put, List.setIfInBounds_toArray, List.set_cons_zero, List.set_cons_succ]
    refine wpAnyH_take (i := 8) (v := ?_) rfl (by kernel_rfl) (by kernel_rfl) (by kernel_rfl) (fun _ _ _ h => h) (Or.inl ⟨by rfl, ?_⟩) (by assumption) ?_
    rotate_left
    · (intro w hSw; (try dsimp only at hSw); go_simp; try with_reducible rfl)
    try simp only [List.getElem_toArray, List.getElem_cons_zero, List.getElem_cons_succ, Act.put, List.setIfInBounds_toArray, List.set_cons_zero, List.set_cons_succ]
    refine wpAnyH_take (i := 9) (v := ?_) rfl (by kernel_rfl) (by kernel_rfl) (by kernel_rfl) (fun _ _ _ h => h) (Or.inl ⟨by rfl, ?_⟩) (by assumption) ?_
    rotate_left
    · (intro w hSw; (try dsimp only at hSw); go_simp; try with_reducible rfl)
    try simp only [List.getElem_toArray, List.getElem_cons_zero, List.getElem_cons_succ, Act.put, List.setIfInBounds_toArray, List.set_cons_zero, List.set_cons_succ]
    refine wpAnyH_done (by kernel_rfl) ?_ _

    go_wp2
    go_ret2
    exact ⟨rfl, HB1.out.trans ((HB3.out.trans (hHeld3.2.2.2.mono HB3.out.size)).mono HB1.out.size)⟩
end Go.Proofs.YtnahhmcmahbnkaaGreatDoor
