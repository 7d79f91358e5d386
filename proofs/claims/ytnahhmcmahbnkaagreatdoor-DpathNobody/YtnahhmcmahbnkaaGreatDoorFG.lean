/- Set of package field. Conditions: the State's cells are of their kinds. -/
import Derived.Test.YtnahhmcmahbnkaaGreatDoorFF
namespace Go.Proofs.YtnahhmcmahbnkaaGreatDoor
open Go.RowKit

def zeroC : Array Value := #[.int .u64 0, .int .u64 0, .bool false, .int .i64 0, .int .i64 0, .bool false, .int .i64 0, .int .u64 0, .int .u32 0, .int .u64 0, .int .u32 0, .bool false, .int .i64 0, .int .i64 0, .int .i64 0, .int .i64 0, .int .i64 0, .int .u32 0, .int .u32 0, .string ⟨#[]⟩, .int .i64 0, .int .i64 0, .int .i64 0, .int .u32 0, .int .i64 0, .int .i64 0, .bool false, .int .u32 0, .int .u32 0, .int .i64 0, .int .i64 0, .int .i64 0, .string ⟨#[]⟩, .string ⟨#[]⟩, .string ⟨#[]⟩, .string ⟨#[]⟩, .int .i64 0, .int .i64 0, .int .i64 0, .int .i64 0, .int .u32 0, .int .u32 0, .int .u32 0, .int .u32 0, .int .i64 0, .int .u32 0, .int .u32 0, .int .i64 0, .int .i64 0]
theorem zeroC_size : zeroC.size = 49 := rfl
theorem zeroC_one : zeroC.all (·.oneCell') = true := by decide +kernel
/-- A whole struct into a block: the operation. -/
theorem wp_store_row {P : Program} {op : Oper} {a : Act} {w : World} {K : Act → World → Prop} {Q : Exit → Act → World → Prop} (ty : TypeId) (x y : Operand) (ho : op.op = .store ty x y)
    (g : Nat) (old c' : Array Value) (t : TypeId) (hx : a.eval x = .pointer (some ⟨g, 0, none⟩)) (hy : a.eval y = .agg c') (hg : w.heap[g]? = some (.cells old t (0, 0)))
    (hi : (P.info? ty).map (·.size) = some c'.size) (hs : old.size = c'.size) (h1 : c'.all (·.oneCell') = true)
    (h : ∀ w', w'.heap[g]? = some (.cells c' t (0, 0)) → (∀ k, k ≠ g → w'.heap[k]? = w.heap[k]?) → w'.heap.size = w.heap.size → Below g w w' → K (a.put op.dst undef) w') : op.wp P a w K Q := by
  unfold Oper.wp execOp
  simp only [ho, hx, hy, Sem.run_bind, Instr.storeAt, Instr.sureAddr, Sem.run_pure, Result.andThen_ok, run_storeVar_row w g t ty old c' hg hi hs h1]
  have e1 : (w.setRow g c').heap.size = w.heap.size := by simp [World.setRow]
  have e2 : ∀ k, k ≠ g → (w.setRow g c').heap[k]? = w.heap[k]? := fun k hk => by
    simp only [World.setRow, Array.getElem?_modify]
    rw [if_neg (fun e => hk e.symm)]
  have e3 : (w.setRow g c').heap[g]? = some (.cells c' t (0, 0)) := by
    simp only [World.setRow, Array.getElem?_modify, hg]
    simp
  exact h _ e3 e2 e1 ⟨rfl, rfl, rfl, by omega, fun k hk => e2 k (by omega)⟩
theorem results_state {fn : Func} {p u : Tmp} (h : fn.results = #[.cell p 38, .tmp u]) (tmps : Array Value) (w : World) (g : Nat) (cs : Array Value)
    (hp : tmps.getD p undef = .pointer (some ⟨g, 0, none⟩)) (hg : w.heap[g]? = some (.cells cs 38 (0, 0))) (hs : cs.size = 49) :
    (results fn tmps).run Tryz.prog w = .ok (.tuple #[.agg cs, tmps.getD u undef]) w := by
  rw [results_cell_tmp h, hp]
  simp only [asAddr, Sem.run_pure, Result.andThen_ok, run_loadVar_row w g 38 38 cs (0, 0) _ hg Tryz.underlying38 rfl (info_size hs)]

def fixB (f : Nat) : Bool := (f : Int) == 3 || (f : Int) == 12 || (f : Int) == 15
def overB (f : Nat) (v m : Int) : Bool := bits BinOp.andNot IntKind.u64 (bits BinOp.or IntKind.u64 v m) (2 ^ fBits f - 1) != 0
def mixV (f : Nat) (cs : Array Value) (v m : Int) : Int := bits BinOp.or IntKind.u64 (bits BinOp.andNot IntKind.u64 (rdF f cs) m) (bits BinOp.and IntKind.u64 v m)

set_option linter.unusedSimpArgs false in
set_option maxHeartbeats 2000000 in
set_option maxRecDepth 20000 in
theorem set_fixed (f : Nat) (hf : 1 ≤ f) (hf2 : f ≤ 28) (cs : Array Value) (hst : St cs) (v m : Int) (h1 : fixB f = true) (w : World) :
    Calls Tryz.prog 199 #[.agg cs, .int .i64 f, .int .u64 v, .int .u64 m] w fun e w' => e = .returned (.tuple #[.agg zeroC, .int .i64 80]) ∧ Below w.heap.size w w' := by
  obtain ⟨hp0, hp5, hp11, hp20⟩ := packet_cells hst
  have HP : Hid _ := And.intro hp5 (And.intro hp11 hp20)
  have HP0 : Hid _ := hp0
  have HST : Hid _ := hst
  clear hst hp5 hp11 hp20 hp0
  unfold fixB at h1
  go_enter Tryz.func199, Tryz.ntmps199
  go_wp2_with fail
  refine (rowOf_any f hf hf2 _).mono ?_
  rintro e W1 ⟨R, S, rfl, hrow, hb1⟩
  obtain ⟨r, cap, rfl, hcall, hread⟩ := hrow.read
  obtain ⟨s, cap2, rfl, hcall2, hwrite⟩ := hrow.write
  have hS1 : W1.heap[w.heap.size]? = some (.cells cs 38 (0, 0)) := (hb1.block _ (by simp; omega)).trans (two_first _ _ _)
  have hZ1 : W1.heap[w.heap.size + 1]? = some (.cells zeroC 38 (0, 0)) := (hb1.block _ (by simp)).trans (two_last _ _ _)
  have hlt1 : w.heap.size + 1 < W1.heap.size := by have := hb1.size; simp at this; omega
  have HS1 : Hid _ := hS1
  have HZ1 : Hid _ := hZ1
  have HR : Hid _ := hread
  have HW : Hid _ := hwrite
  have HB1 : Hid (Below w.heap.size w W1) := (below2 w _ _).trans (hb1.mono (by simp; omega))
  clear hrow hb1 hS1 hZ1 hread hwrite
  unfold rowV
  go_wp2_with fail
  refine (isField_any (fName f) _ _ _ _ _).mono ?_
  rintro e W2 ⟨rfl, hb2⟩
  rw [fName_ne f hf hf2]
  have hS2 : W2.heap[w.heap.size]? = some (.cells cs 38 (0, 0)) := (hb2.block _ (by simp; omega)).trans ((heap_alloc_old _ _ (by omega)).trans HS1.out)
  have hZ2 : W2.heap[w.heap.size + 1]? = some (.cells zeroC 38 (0, 0)) := (hb2.block _ (by simp; omega)).trans ((heap_alloc_old _ _ (by omega)).trans HZ1.out)
  have hR2 : W2.heap[W1.heap.size]? = some (.cells #[.string (fName f), .int .i64 (fBits f), .int .i64 (fOf f), .func (Fn.func r) #[] cap, .func (Fn.func s) #[] cap2] 215 (0, 0)) := (hb2.block _ (by simp)).trans (heap_alloc_new _ _)
  have HB2 : Hid (Below W1.heap.size W1 W2) := (below1 W1 _).trans (hb2.mono (by simp))
  have hlt2 : W1.heap.size < W2.heap.size := lt_of_heap hR2
  have r1 := cell_row hR2 1
  have r2 := cell_row hR2 2
  simp only [List.getElem?_toArray, List.getElem?_cons_succ, List.getElem?_cons_zero] at r1 r2
  have HS2 : Hid _ := hS2
  have HZ2 : Hid _ := hZ2
  have HR2 : Hid _ := hR2
  clear hb2 hS2 hR2 hZ2 HS1 HZ1
  go_wp2_with fail
  refine (isFixed_any (f : Int) _).mono ?_
  rintro e _ ⟨rfl, rfl⟩
  rw [h1]
  go_wp2_with (first
    | refine wpList_store_row rfl 38 _ _ rfl (w.heap.size + 1) zeroC zeroC 38 rfl rfl HZ2.out (info_size zeroC_size) rfl zeroC_one ?_
    | fail)
  intro W9 z1 z2 z3 z4
  go_wp2
  refine bodyPost_ret (results_state (p := 8) (u := 9) rfl _ _ (w.heap.size + 1) zeroC rfl z1 zeroC_size) rfl ⟨rfl, ?_⟩
  exact HB1.out.trans ((HB2.out.mono HB1.out.size).trans (z4.mono (by omega)))

set_option linter.unusedSimpArgs false in
set_option maxHeartbeats 2000000 in
set_option maxRecDepth 20000 in
theorem set_over (f : Nat) (hf : 1 ≤ f) (hf2 : f ≤ 28) (cs : Array Value) (hst : St cs) (v m : Int) (h1 : fixB f = false) (h2 : overB f v m = true) (w : World) :
    Calls Tryz.prog 199 #[.agg cs, .int .i64 f, .int .u64 v, .int .u64 m] w fun e w' => e = .returned (.tuple #[.agg zeroC, .int .i64 80]) ∧ Below w.heap.size w w' := by
  obtain ⟨hp0, hp5, hp11, hp20⟩ := packet_cells hst
  have HP : Hid _ := And.intro hp5 (And.intro hp11 hp20)
  have HP0 : Hid _ := hp0
  have HST : Hid _ := hst
  clear hst hp5 hp11 hp20 hp0
  unfold fixB at h1
  unfold overB at h2
  go_enter Tryz.func199, Tryz.ntmps199
  go_wp2_with fail
  refine (rowOf_any f hf hf2 _).mono ?_
  rintro e W1 ⟨R, S, rfl, hrow, hb1⟩
  obtain ⟨r, cap, rfl, hcall, hread⟩ := hrow.read
  obtain ⟨s, cap2, rfl, hcall2, hwrite⟩ := hrow.write
  have hS1 : W1.heap[w.heap.size]? = some (.cells cs 38 (0, 0)) := (hb1.block _ (by simp; omega)).trans (two_first _ _ _)
  have hZ1 : W1.heap[w.heap.size + 1]? = some (.cells zeroC 38 (0, 0)) := (hb1.block _ (by simp)).trans (two_last _ _ _)
  have hlt1 : w.heap.size + 1 < W1.heap.size := by have := hb1.size; simp at this; omega
  have HS1 : Hid _ := hS1
  have HZ1 : Hid _ := hZ1
  have HR : Hid _ := hread
  have HW : Hid _ := hwrite
  have HB1 : Hid (Below w.heap.size w W1) := (below2 w _ _).trans (hb1.mono (by simp; omega))
  clear hrow hb1 hS1 hZ1 hread hwrite
  unfold rowV
  go_wp2_with fail
  refine (isField_any (fName f) _ _ _ _ _).mono ?_
  rintro e W2 ⟨rfl, hb2⟩
  rw [fName_ne f hf hf2]
  have hS2 : W2.heap[w.heap.size]? = some (.cells cs 38 (0, 0)) := (hb2.block _ (by simp; omega)).trans ((heap_alloc_old _ _ (by omega)).trans HS1.out)
  have hZ2 : W2.heap[w.heap.size + 1]? = some (.cells zeroC 38 (0, 0)) := (hb2.block _ (by simp; omega)).trans ((heap_alloc_old _ _ (by omega)).trans HZ1.out)
  have hR2 : W2.heap[W1.heap.size]? = some (.cells #[.string (fName f), .int .i64 (fBits f), .int .i64 (fOf f), .func (Fn.func r) #[] cap, .func (Fn.func s) #[] cap2] 215 (0, 0)) := (hb2.block _ (by simp)).trans (heap_alloc_new _ _)
  have HB2 : Hid (Below W1.heap.size W1 W2) := (below1 W1 _).trans (hb2.mono (by simp))
  have hlt2 : W1.heap.size < W2.heap.size := lt_of_heap hR2
  have r1 := cell_row hR2 1
  have r2 := cell_row hR2 2
  simp only [List.getElem?_toArray, List.getElem?_cons_succ, List.getElem?_cons_zero] at r1 r2
  have HS2 : Hid _ := hS2
  have HZ2 : Hid _ := hZ2
  have HR2 : Hid _ := hR2
  clear hb2 hS2 hR2 hZ2 HS1 HZ1
  go_wp2_with fail
  refine (isFixed_any (f : Int) _).mono ?_
  rintro e _ ⟨rfl, rfl⟩
  rw [h1]
  go_wp2_with fail
  refine (ones_any _ (fBits_le f) _).mono ?_
  rintro e _ ⟨rfl, rfl⟩
  go_wp2_with (first
    | refine wpList_store_row rfl 38 _ _ rfl (w.heap.size + 1) zeroC zeroC 38 rfl rfl HZ2.out (info_size zeroC_size) rfl zeroC_one ?_
    | fail)
  intro W9 z1 z2 z3 z4
  go_wp2
  refine bodyPost_ret (results_state (p := 8) (u := 9) rfl _ _ (w.heap.size + 1) zeroC rfl z1 zeroC_size) rfl ⟨rfl, ?_⟩
  exact HB1.out.trans ((HB2.out.mono HB1.out.size).trans (z4.mono (by omega)))

set_option linter.unusedSimpArgs false in
set_option maxHeartbeats 2000000 in
set_option maxRecDepth 20000 in
theorem set_pre (f : Nat) (hf : 1 ≤ f) (hf2 : f ≤ 28) (cs : Array Value) (hst : St cs) (v m : Int) (h1 : fixB f = false) (h2 : overB f v m = false) (h3 : hasF f cs = false) (w : World) :
    Calls Tryz.prog 199 #[.agg cs, .int .i64 f, .int .u64 v, .int .u64 m] w fun e w' => e = .returned (.tuple #[.agg zeroC, .int .i64 81]) ∧ Below w.heap.size w w' := by
  obtain ⟨hp0, hp5, hp11, hp20⟩ := packet_cells hst
  have HP : Hid _ := And.intro hp5 (And.intro hp11 hp20)
  have HP0 : Hid _ := hp0
  have HST : Hid _ := hst
  clear hst hp5 hp11 hp20 hp0
  unfold fixB at h1
  unfold overB at h2
  go_enter Tryz.func199, Tryz.ntmps199
  go_wp2_with fail
  refine (rowOf_any f hf hf2 _).mono ?_
  rintro e W1 ⟨R, S, rfl, hrow, hb1⟩
  obtain ⟨r, cap, rfl, hcall, hread⟩ := hrow.read
  obtain ⟨s, cap2, rfl, hcall2, hwrite⟩ := hrow.write
  have hS1 : W1.heap[w.heap.size]? = some (.cells cs 38 (0, 0)) := (hb1.block _ (by simp; omega)).trans (two_first _ _ _)
  have hZ1 : W1.heap[w.heap.size + 1]? = some (.cells zeroC 38 (0, 0)) := (hb1.block _ (by simp)).trans (two_last _ _ _)
  have hlt1 : w.heap.size + 1 < W1.heap.size := by have := hb1.size; simp at this; omega
  have HS1 : Hid _ := hS1
  have HZ1 : Hid _ := hZ1
  have HR : Hid _ := hread
  have HW : Hid _ := hwrite
  have HB1 : Hid (Below w.heap.size w W1) := (below2 w _ _).trans (hb1.mono (by simp; omega))
  clear hrow hb1 hS1 hZ1 hread hwrite
  unfold rowV
  go_wp2_with fail
  refine (isField_any (fName f) _ _ _ _ _).mono ?_
  rintro e W2 ⟨rfl, hb2⟩
  rw [fName_ne f hf hf2]
  have hS2 : W2.heap[w.heap.size]? = some (.cells cs 38 (0, 0)) := (hb2.block _ (by simp; omega)).trans ((heap_alloc_old _ _ (by omega)).trans HS1.out)
  have hZ2 : W2.heap[w.heap.size + 1]? = some (.cells zeroC 38 (0, 0)) := (hb2.block _ (by simp; omega)).trans ((heap_alloc_old _ _ (by omega)).trans HZ1.out)
  have hR2 : W2.heap[W1.heap.size]? = some (.cells #[.string (fName f), .int .i64 (fBits f), .int .i64 (fOf f), .func (Fn.func r) #[] cap, .func (Fn.func s) #[] cap2] 215 (0, 0)) := (hb2.block _ (by simp)).trans (heap_alloc_new _ _)
  have HB2 : Hid (Below W1.heap.size W1 W2) := (below1 W1 _).trans (hb2.mono (by simp))
  have hlt2 : W1.heap.size < W2.heap.size := lt_of_heap hR2
  have r1 := cell_row hR2 1
  have r2 := cell_row hR2 2
  simp only [List.getElem?_toArray, List.getElem?_cons_succ, List.getElem?_cons_zero] at r1 r2
  have HS2 : Hid _ := hS2
  have HZ2 : Hid _ := hZ2
  have HR2 : Hid _ := hR2
  clear hb2 hS2 hR2 hZ2 HS1 HZ1
  go_wp2_with fail
  refine (isFixed_any (f : Int) _).mono ?_
  rintro e _ ⟨rfl, rfl⟩
  rw [h1]
  go_wp2_with fail
  refine (ones_any _ (fBits_le f) _).mono ?_
  rintro e _ ⟨rfl, rfl⟩
  go_wp2_with (first
    | refine wpList_load_head rfl 33 _ rfl w.heap.size 36 rfl cs 38 _ HS2.out Tryz.underlying33 rfl HP0.out info44 ?_
    | fail)
  refine (isOf_any (fOf f) (fOf_le f) _ _ _ _ HP.out.1 HP.out.2.1 HP.out.2.2 _).mono ?_
  rintro e W3 ⟨rfl, hb3⟩
  have hS3 : W3.heap[w.heap.size]? = some (.cells cs 38 (0, 0)) := (hb3.block _ (by omega)).trans HS2.out
  have hZ3 : W3.heap[w.heap.size + 1]? = some (.cells zeroC 38 (0, 0)) := (hb3.block _ (by omega)).trans HZ2.out
  have hR3 : W3.heap[W1.heap.size]? = some (.cells #[.string (fName f), .int .i64 (fBits f), .int .i64 (fOf f), .func (Fn.func r) #[] cap, .func (Fn.func s) #[] cap2] 215 (0, 0)) := (hb3.block _ hlt2).trans HR2.out
  have HB3 : Hid (Below W1.heap.size W1 W3) := HB2.out.trans (hb3.mono HB2.out.size)
  have HZ3 : Hid _ := hZ3
  clear hb3 r1 r2 HB2 HS2 HR2 HZ2 hZ3
  rw [show ofB (fOf f) (boolAt cs 5) (boolAt cs 11) (numAt cs 20) = hasF f cs from rfl, h3]
  clear hS3 hR3
  go_wp2_with (first
    | refine wpList_store_row rfl 38 _ _ rfl (w.heap.size + 1) zeroC zeroC 38 rfl rfl HZ3.out (info_size zeroC_size) rfl zeroC_one ?_
    | fail)
  intro W9 z1 z2 z3 z4
  go_wp2
  refine bodyPost_ret (results_state (p := 8) (u := 9) rfl _ _ (w.heap.size + 1) zeroC rfl z1 zeroC_size) rfl ⟨rfl, ?_⟩
  exact HB1.out.trans ((HB3.out.mono HB1.out.size).trans (z4.mono (by omega)))

set_option linter.unusedSimpArgs false in
set_option maxHeartbeats 2000000 in
set_option maxRecDepth 20000 in
theorem set_yes (f : Nat) (hf : 1 ≤ f) (hf2 : f ≤ 28) (cs : Array Value) (hst : St cs) (v m : Int) (h1 : fixB f = false) (h2 : overB f v m = false) (h3 : hasF f cs = true) (hst2 : St (wrF f cs (mixV f cs v m))) (w : World) :
    Calls Tryz.prog 199 #[.agg cs, .int .i64 f, .int .u64 v, .int .u64 m] w fun e w' => e = .returned (.tuple #[.agg (wrF f cs (mixV f cs v m)), .int .i64 0]) ∧ Below w.heap.size w w' := by
  have HST2 : Hid _ := hst2
  clear hst2
  obtain ⟨hp0, hp5, hp11, hp20⟩ := packet_cells hst
  have HP : Hid _ := And.intro hp5 (And.intro hp11 hp20)
  have HP0 : Hid _ := hp0
  have HST : Hid _ := hst
  clear hst hp5 hp11 hp20 hp0
  unfold fixB at h1
  unfold overB at h2
  go_enter Tryz.func199, Tryz.ntmps199
  go_wp2_with fail
  refine (rowOf_any f hf hf2 _).mono ?_
  rintro e W1 ⟨R, S, rfl, hrow, hb1⟩
  obtain ⟨r, cap, rfl, hcall, hread⟩ := hrow.read
  obtain ⟨s, cap2, rfl, hcall2, hwrite⟩ := hrow.write
  have hS1 : W1.heap[w.heap.size]? = some (.cells cs 38 (0, 0)) := (hb1.block _ (by simp; omega)).trans (two_first _ _ _)
  have hZ1 : W1.heap[w.heap.size + 1]? = some (.cells zeroC 38 (0, 0)) := (hb1.block _ (by simp)).trans (two_last _ _ _)
  have hlt1 : w.heap.size + 1 < W1.heap.size := by have := hb1.size; simp at this; omega
  have HS1 : Hid _ := hS1
  have HZ1 : Hid _ := hZ1
  have HR : Hid _ := hread
  have HW : Hid _ := hwrite
  have HB1 : Hid (Below w.heap.size w W1) := (below2 w _ _).trans (hb1.mono (by simp; omega))
  clear hrow hb1 hS1 hZ1 hread hwrite
  unfold rowV
  go_wp2_with fail
  refine (isField_any (fName f) _ _ _ _ _).mono ?_
  rintro e W2 ⟨rfl, hb2⟩
  rw [fName_ne f hf hf2]
  have hS2 : W2.heap[w.heap.size]? = some (.cells cs 38 (0, 0)) := (hb2.block _ (by simp; omega)).trans ((heap_alloc_old _ _ (by omega)).trans HS1.out)
  have hZ2 : W2.heap[w.heap.size + 1]? = some (.cells zeroC 38 (0, 0)) := (hb2.block _ (by simp; omega)).trans ((heap_alloc_old _ _ (by omega)).trans HZ1.out)
  have hR2 : W2.heap[W1.heap.size]? = some (.cells #[.string (fName f), .int .i64 (fBits f), .int .i64 (fOf f), .func (Fn.func r) #[] cap, .func (Fn.func s) #[] cap2] 215 (0, 0)) := (hb2.block _ (by simp)).trans (heap_alloc_new _ _)
  have HB2 : Hid (Below W1.heap.size W1 W2) := (below1 W1 _).trans (hb2.mono (by simp))
  have hlt2 : W1.heap.size < W2.heap.size := lt_of_heap hR2
  have r1 := cell_row hR2 1
  have r2 := cell_row hR2 2
  simp only [List.getElem?_toArray, List.getElem?_cons_succ, List.getElem?_cons_zero] at r1 r2
  have HS2 : Hid _ := hS2
  have HZ2 : Hid _ := hZ2
  have HR2 : Hid _ := hR2
  clear hb2 hS2 hR2 hZ2 HS1 HZ1
  go_wp2_with fail
  refine (isFixed_any (f : Int) _).mono ?_
  rintro e _ ⟨rfl, rfl⟩
  rw [h1]
  go_wp2_with fail
  refine (ones_any _ (fBits_le f) _).mono ?_
  rintro e _ ⟨rfl, rfl⟩
  go_wp2_with (first
    | refine wpList_load_head rfl 33 _ rfl w.heap.size 36 rfl cs 38 _ HS2.out Tryz.underlying33 rfl HP0.out info44 ?_
    | fail)
  refine (isOf_any (fOf f) (fOf_le f) _ _ _ _ HP.out.1 HP.out.2.1 HP.out.2.2 _).mono ?_
  rintro e W3 ⟨rfl, hb3⟩
  have hS3 : W3.heap[w.heap.size]? = some (.cells cs 38 (0, 0)) := (hb3.block _ (by omega)).trans HS2.out
  have hZ3 : W3.heap[w.heap.size + 1]? = some (.cells zeroC 38 (0, 0)) := (hb3.block _ (by omega)).trans HZ2.out
  have hR3 : W3.heap[W1.heap.size]? = some (.cells #[.string (fName f), .int .i64 (fBits f), .int .i64 (fOf f), .func (Fn.func r) #[] cap, .func (Fn.func s) #[] cap2] 215 (0, 0)) := (hb3.block _ hlt2).trans HR2.out
  have HB3 : Hid (Below W1.heap.size W1 W3) := HB2.out.trans (hb3.mono HB2.out.size)
  have HZ3 : Hid _ := hZ3
  clear hb3 r1 r2 HB2 HS2 HR2 HZ2 hZ3
  rw [show ofB (fOf f) (boolAt cs 5) (boolAt cs 11) (numAt cs 20) = hasF f cs from rfl, h3]
  have e1 : W1.heap.size < W3.heap.size := lt_of_heap hR3
  have key : ∀ W, Below W3.heap.size W3 W → W.cell? ⟨W1.heap.size, 4, none⟩ = some (.func (Fn.func s) #[] cap2) ∧ W.cell? ⟨W1.heap.size, 3, none⟩ = some (.func (Fn.func r) #[] cap) ∧ W.heap[w.heap.size]? = some (.cells cs 38 (0, 0)) ∧ Below (w.heap.size + 1) W3 W := fun W hb => by
    have q1 := cell_row ((hb.block _ e1).trans hR3) 4
    have q3 := cell_row ((hb.block _ e1).trans hR3) 3
    simp only [List.getElem?_toArray, List.getElem?_cons_succ, List.getElem?_cons_zero] at q1 q3
    exact ⟨q1, q3, (hb.block _ (by omega)).trans hS3, hb.mono (by omega)⟩
  have KC : Hid _ := key
  have keyS : ∀ W W' : World, Below W3.heap.size W3 W → (∀ k, k ≠ w.heap.size + 1 → W'.heap[k]? = W.heap[k]?) → W'.heap.size = W.heap.size → Below (w.heap.size + 1) W W' → W'.cell? ⟨W1.heap.size, 4, none⟩ = some (.func (Fn.func s) #[] cap2) ∧ W'.cell? ⟨W1.heap.size, 3, none⟩ = some (.func (Fn.func r) #[] cap) ∧ W'.heap[w.heap.size]? = some (.cells cs 38 (0, 0)) ∧ Below (w.heap.size + 1) W3 W' := fun W W' hb hk hsz hbb => by
    have q1 := cell_row ((hk _ (by omega)).trans ((hb.block _ e1).trans hR3)) 4
    have q3 := cell_row ((hk _ (by omega)).trans ((hb.block _ e1).trans hR3)) 3
    simp only [List.getElem?_toArray, List.getElem?_cons_succ, List.getElem?_cons_zero] at q1 q3
    exact ⟨q1, q3, (hk _ (by omega)).trans ((hb.block _ (by omega)).trans hS3), (hb.mono (by omega)).trans hbb⟩
  have KS : Hid _ := keyS
  clear hS3 hR3 key keyS
  go_wp2_with fail
  refine wp_region_held_drew (S := (fun W => W.cell? ⟨W1.heap.size, 4, none⟩ = some (.func (Fn.func s) #[] cap2) ∧ W.cell? ⟨W1.heap.size, 3, none⟩ = some (.func (Fn.func r) #[] cap) ∧ W.heap[w.heap.size]? = some (.cells cs 38 (0, 0)) ∧ Below (w.heap.size + 1) W3 W)) (by kernel_rfl) ?_ (fun hHeld => ?_)
  · exact KC.out _ (Below.refl _ _).drew
  refine wpAnyH_take (i := 0) (v := ?_) rfl (by kernel_rfl) (by kernel_rfl) (by kernel_rfl) (fun _ _ _ h => h) (Or.inl ⟨by rfl, ?_⟩) (by assumption) ?_
  rotate_left
  · (intro w hSw; (try dsimp only at hSw); go_simp; try with_reducible rfl)
  try simp only [List.getElem_toArray, List.getElem_cons_zero, List.getElem_cons_succ, Act.put, List.setIfInBounds_toArray, List.set_cons_zero, List.set_cons_succ]
  refine wpAnyH_take (i := 1) (v := ?_) rfl (by kernel_rfl) (by kernel_rfl) (by kernel_rfl) (fun _ _ _ h => h) (Or.inl ⟨by rfl, ?_⟩) (by assumption) ?_
  rotate_left
  · (intro w hSw; (try dsimp only at hSw); go_simp; try with_reducible rfl)
  try simp only [List.getElem_toArray, List.getElem_cons_zero, List.getElem_cons_succ, Act.put, List.setIfInBounds_toArray, List.set_cons_zero, List.set_cons_succ]
  refine wpAnyH_take (i := 2) (v := .agg cs) rfl (by kernel_rfl) (by kernel_rfl) (by kernel_rfl) (fun _ _ _ h => h) (yields_load49 (by rfl) _ rfl w.heap.size rfl cs (fun _ h => h.2.2.1) HST.out.size) (by assumption) ?_
  try simp only [List.getElem_toArray, List.getElem_cons_zero, List.getElem_cons_succ, Act.put, List.setIfInBounds_toArray, List.set_cons_zero, List.set_cons_succ]
  refine wpAnyH_take (i := 3) (v := ?_) rfl (by kernel_rfl) (by kernel_rfl) (by kernel_rfl) (fun _ _ _ h => h) (Or.inl ⟨by rfl, ?_⟩) (by assumption) ?_
  rotate_left
  · (intro w hSw; (try dsimp only at hSw); go_simp; try with_reducible rfl)
  try simp only [List.getElem_toArray, List.getElem_cons_zero, List.getElem_cons_succ, Act.put, List.setIfInBounds_toArray, List.set_cons_zero, List.set_cons_succ]
  refine wpAnyH_take (i := 4) (v := ?_) rfl (by kernel_rfl) (by kernel_rfl) (by kernel_rfl) (fun _ _ _ h => h) (Or.inl ⟨by rfl, ?_⟩) (by assumption) ?_
  rotate_left
  · (intro w hSw; (try dsimp only at hSw); go_simp; try with_reducible rfl)
  try simp only [List.getElem_toArray, List.getElem_cons_zero, List.getElem_cons_succ, Act.put, List.setIfInBounds_toArray, List.set_cons_zero, List.set_cons_succ]
  refine wpAnyH_take (i := 5) (v := .agg cs) rfl (by kernel_rfl) (by kernel_rfl) (by kernel_rfl) (fun _ _ _ h => h) (yields_load49 (by rfl) _ rfl w.heap.size rfl cs (fun _ h => h.2.2.1) HST.out.size) (by assumption) ?_
  try simp only [List.getElem_toArray, List.getElem_cons_zero, List.getElem_cons_succ, Act.put, List.setIfInBounds_toArray, List.set_cons_zero, List.set_cons_succ]
  refine wpAnyH_take (i := 7) (v := ?_) rfl (by kernel_rfl) (by kernel_rfl) (by kernel_rfl) (fun _ _ _ h => h) (Or.inl ⟨by rfl, ?_⟩) (by assumption) ?_
  rotate_left
  · (intro w hSw; (try dsimp only at hSw); go_simp; try with_reducible rfl)
  try simp only [List.getElem_toArray, List.getElem_cons_zero, List.getElem_cons_succ, Act.put, List.setIfInBounds_toArray, List.set_cons_zero, List.set_cons_succ]
  refine wpAnyH_take (i := 9) (v := ?_) rfl (by kernel_rfl) (by kernel_rfl) (by kernel_rfl) (fun _ _ _ h => h) (Or.inl ⟨by rfl, ?_⟩) (by assumption) ?_
  rotate_left
  · (intro w hSw; (try dsimp only at hSw); go_simp; try with_reducible rfl)
  try simp only [List.getElem_toArray, List.getElem_cons_zero, List.getElem_cons_succ, Act.put, List.setIfInBounds_toArray, List.set_cons_zero, List.set_cons_succ]
  refine wpAnyH_take (i := 10) (v := ?_) rfl (by kernel_rfl) (by kernel_rfl) (by kernel_rfl) (fun _ _ _ h => h) (Or.inl ⟨by rfl, ?_⟩) (by assumption) ?_
  rotate_left
  · (intro w hSw; (try dsimp only at hSw); go_simp; try with_reducible rfl)
  try simp only [List.getElem_toArray, List.getElem_cons_zero, List.getElem_cons_succ, Act.put, List.setIfInBounds_toArray, List.set_cons_zero, List.set_cons_succ]
  refine wpAnyH_take (i := 11) (v := ?_) rfl (by kernel_rfl) (by kernel_rfl) (by kernel_rfl) (fun _ _ _ h => h) (Or.inl ⟨by rfl, ?_⟩) (by assumption) ?_
  rotate_left
  · (intro w hSw; (try dsimp only at hSw); go_simp; try with_reducible rfl)
  try simp only [List.getElem_toArray, List.getElem_cons_zero, List.getElem_cons_succ, Act.put, List.setIfInBounds_toArray, List.set_cons_zero, List.set_cons_succ]
  refine wpAnyH_ready (rs := [6]) (by kernel_rfl) (by simp) ?_
  refine AllReadyH.cons (o := _) rfl (fun K hK => ?_) AllReadyH.nil
  go_simp
  clear hHeld
  have hD : Below W3.heap.size W3 W3.drew := (Below.refl _ _).drew
  refine (HR.out _ cs (HB3.out.trans (hD.mono HB3.out.size)) HST.out).mono ?_
  rintro e W4 ⟨rfl, hb4⟩
  go_wp2_with fail
  have hD4 : Below W3.heap.size W3 W4 := hD.trans hb4
  refine hK.out _ _ (KC.out _ hD4) (fun hHeld => ?_)
  clear hK K hb4 hD
  try simp only [List.getElem_toArray, List.getElem_cons_zero, List.getElem_cons_succ, Act.put, List.setIfInBounds_toArray, List.set_cons_zero, List.set_cons_succ]
  refine wpAnyH_take (i := 8) (v := ?_) rfl (by kernel_rfl) (by kernel_rfl) (by kernel_rfl) (fun _ _ _ h => h) (Or.inl ⟨by rfl, ?_⟩) (by assumption) ?_
  rotate_left
  · (intro w hSw; (try dsimp only at hSw); go_simp; try with_reducible rfl)
  try simp only [List.getElem_toArray, List.getElem_cons_zero, List.getElem_cons_succ, Act.put, List.setIfInBounds_toArray, List.set_cons_zero, List.set_cons_succ]
  refine wpAnyH_take (i := 12) (v := ?_) rfl (by kernel_rfl) (by kernel_rfl) (by kernel_rfl) (fun _ _ _ h => h) (Or.inl ⟨by rfl, ?_⟩) (by assumption) ?_
  rotate_left
  · (intro w hSw; (try dsimp only at hSw); go_simp; try with_reducible rfl)
  try simp only [List.getElem_toArray, List.getElem_cons_zero, List.getElem_cons_succ, Act.put, List.setIfInBounds_toArray, List.set_cons_zero, List.set_cons_succ]
  refine wpAnyH_ready (rs := [13]) (by kernel_rfl) (by simp) ?_
  refine AllReadyH.cons (o := _) rfl (fun K hK => ?_) AllReadyH.nil
  go_simp
  clear hHeld
  refine (HW.out _ cs (mixV f cs v m) (HB3.out.trans (hD4.mono HB3.out.size)) HST.out).mono ?_
  rintro e W5 ⟨rfl, hb5⟩
  go_wp2_with fail
  have hD5 : Below W3.heap.size W3 W5 := hD4.trans (hb5.mono hD4.size)
  refine hK.out _ _ (KC.out _ hD5) (fun hHeld => ?_)
  clear hK K hb5 hD4
  try simp only [List.getElem_toArray, List.getElem_cons_zero, List.getElem_cons_succ, Act.put, List.setIfInBounds_toArray, List.set_cons_zero, List.set_cons_succ]
  refine wpAnyH_ready (rs := [14]) (by kernel_rfl) (by simp) ?_
  refine AllReadyH.cons (o := _) rfl (fun K hK => ?_) AllReadyH.nil
  clear hHeld
  refine wp_store_row 38 _ _ rfl (w.heap.size + 1) zeroC (wrF f cs (mixV f cs v m)) 38 rfl rfl ((hD5.block _ (by omega)).trans HZ3.out) (info_size HST2.out.size) (Eq.trans (b := 49) rfl HST2.out.size.symm) HST2.out.one ?_
  intro W6 z1 z2 z3 z4
  refine hK.out _ _ (KS.out _ _ hD5 z2 z3 z4) (fun hHeld => ?_)
  clear hK K
  try simp only [List.getElem_toArray, List.getElem_cons_zero, List.getElem_cons_succ, Act.put, List.setIfInBounds_toArray, List.set_cons_zero, List.set_cons_succ]
  refine wpAnyH_take (i := 15) (v := ?_) rfl (by kernel_rfl) (by kernel_rfl) (by kernel_rfl) (fun _ _ _ h => h) (Or.inl ⟨by rfl, ?_⟩) (by assumption) ?_
  rotate_left
  · (intro w hSw; (try dsimp only at hSw); go_simp; try with_reducible rfl)
  try simp only [List.getElem_toArray, List.getElem_cons_zero, List.getElem_cons_succ, Act.put, List.setIfInBounds_toArray, List.set_cons_zero, List.set_cons_succ]
  refine wpAnyH_done (by kernel_rfl) ?_ _
  go_wp2
  refine bodyPost_ret (results_state (p := 8) (u := 9) rfl _ _ (w.heap.size + 1) (wrF f cs (mixV f cs v m)) rfl z1 HST2.out.size) rfl ⟨rfl, ?_⟩
  exact HB1.out.trans ((HB3.out.mono HB1.out.size).trans (hHeld.2.2.2.mono (by omega)))
end Go.Proofs.YtnahhmcmahbnkaaGreatDoor
