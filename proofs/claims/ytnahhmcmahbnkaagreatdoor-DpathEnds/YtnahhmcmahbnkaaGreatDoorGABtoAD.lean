/- Small functions of package act. No condition. -/
import Derived.Test.YtnahhmcmahbnkaaGreatDoorGFHtoAA
namespace Go.Proofs.YtnahhmcmahbnkaaGreatDoor.Ac
open Go.RowKit
/-- An action by its cells. -/
abbrev actV (k f fr v m t p : Int) (acts ways : Value) (l0 l1 l2 l3 l4 l5 : Int) : Value := .agg #[.int .i64 k, .int .i64 f, .int .i64 fr, .int .u64 v, .int .u64 m, .int .i64 t, .int .i64 p, acts, ways, .int .u64 l0, .int .u32 l1, .int .u32 l2, .int .u32 l3, .int .u32 l4, .int .u32 l5]
theorem arow_lit (k : Nat) (hk : k < 15) (a b c : Value) (he : tabC.extract (k * 3) (k * 3 + 3) = #[a, b, c]) (w : World) : Calls Tryz.prog 96 #[.int .i64 k] w fun e w' => e = .returned (.agg #[a, b, c]) ∧ Below w.heap.size w w' := by
  rw [← he]; exact arow_in k hk w
theorem arow_0 (w : World) : Calls Tryz.prog 96 #[.int .i64 0] w fun e w' => e = .returned (.agg #[.nilFunc, .nilFunc, .nilFunc]) ∧ Below w.heap.size w w' := arow_lit 0 (by omega) _ _ _ (by kernel_rfl) w
theorem arow_3 (w : World) : Calls Tryz.prog 96 #[.int .i64 3] w fun e w' => e = .returned (.agg #[fnV 123, fnV 131, fnV 132]) ∧ Below w.heap.size w w' := arow_lit 3 (by omega) _ _ _ (by kernel_rfl) w
theorem arow_5 (w : World) : Calls Tryz.prog 96 #[.int .i64 5] w fun e w' => e = .returned (.agg #[fnV 135, fnV 131, .nilFunc]) ∧ Below w.heap.size w w' := arow_lit 5 (by omega) _ _ _ (by kernel_rfl) w
theorem arow_10 (w : World) : Calls Tryz.prog 96 #[.int .i64 10] w fun e w' => e = .returned (.agg #[fnV 137, fnV 138, fnV 139]) ∧ Below w.heap.size w w' := arow_lit 10 (by omega) _ _ _ (by kernel_rfl) w
theorem arow_11 (w : World) : Calls Tryz.prog 96 #[.int .i64 11] w fun e w' => e = .returned (.agg #[fnV 140, fnV 141, fnV 142]) ∧ Below w.heap.size w w' := arow_lit 11 (by omega) _ _ _ (by kernel_rfl) w
theorem neq_strip (f : Nat) (W : World) : (binOp .neq 194 (fnV f) .nilFunc).run Tryz.prog W = .ok (.bool true) W := by
  first | kernel_rfl | simp [binOp, go_sem]
theorem neq_strip0 (W : World) : (binOp .neq 194 .nilFunc .nilFunc).run Tryz.prog W = .ok (.bool false) W := by
  first | kernel_rfl | simp [binOp, go_sem]
theorem neq_step (f : Nat) (W : World) : (binOp .neq 156 (fnV f) .nilFunc).run Tryz.prog W = .ok (.bool true) W := by
  first | kernel_rfl | simp [binOp, go_sem]
theorem neq_step0 (W : World) : (binOp .neq 156 .nilFunc .nilFunc).run Tryz.prog W = .ok (.bool false) W := by
  first | kernel_rfl | simp [binOp, go_sem]
set_option maxRecDepth 20000 in
set_option maxHeartbeats 400000 in
theorem isKind_yes (f : Nat) (b c : Value) (w : World) : Calls Tryz.prog 154 #[.agg #[fnV f, b, c]] w fun e w' => e = .returned (.bool true) ∧ Below w.heap.size w w' := by
  have hne := neq_strip f
  go_enter Tryz.func154, Tryz.ntmps154
  go_wp2
  go_ret
  exact ⟨rfl, below1 _ _⟩
set_option maxRecDepth 20000 in
set_option maxHeartbeats 400000 in
theorem isKind_no (b c : Value) (w : World) : Calls Tryz.prog 154 #[.agg #[.nilFunc, b, c]] w fun e w' => e = .returned (.bool false) ∧ Below w.heap.size w w' := by
  have hne := neq_strip0
  go_enter Tryz.func154, Tryz.ntmps154
  go_wp2
  go_ret
  exact ⟨rfl, below1 _ _⟩
set_option maxHeartbeats 400000 in
theorem isAny_any (cs : Array Value) (w : World) : Calls Tryz.prog 131 #[.agg cs] w fun e w' => e = .returned (.bool true) ∧ Below w.heap.size w w' := by
  go_enter Tryz.func131, Tryz.ntmps131
  go_wp2
  go_ret
  exact ⟨rfl, below1 _ _⟩
set_option maxHeartbeats 400000 in
theorem isMac_any (k f fr v m t p : Int) (acts ways : Value) (l0 l1 l2 l3 l4 l5 : Int) (w : World) : Calls Tryz.prog 141 #[actV k f fr v m t p acts ways l0 l1 l2 l3 l4 l5] w fun e w' => e = .returned (.bool (decide (v ≤ 281474976710655))) ∧ Below w.heap.size w w' := by
  go_enter Tryz.func141, Tryz.ntmps141
  go_wp2
  go_ret
  exact ⟨rfl, below1 _ _⟩
set_option maxHeartbeats 400000 in
theorem strip_none (x : Value) (w : World) : Calls Tryz.prog 123 #[x] w fun e w' => e = .returned (.tuple #[]) ∧ w' = w := by
  go_enter Tryz.func123, Tryz.ntmps123
  go_wp2
  go_end0
  exact ⟨rfl, rfl⟩
set_option maxHeartbeats 400000 in
theorem strip_acts (b : Nat) (w : World) (x : Value) (h7 : w.cell? ⟨b, 7, none⟩ = some x) (hf : w.frozen? ⟨b, 7, none⟩ = false) : Calls Tryz.prog 135 #[.pointer (some ⟨b, 0, none⟩)] w fun e w' => e = .returned (.tuple #[]) ∧ w' = w.setCell ⟨b, 7, none⟩ (.slice none 0 0) := by
  go_enter Tryz.func135, Tryz.ntmps135
  go_wp2
  go_end0
  exact ⟨rfl, rfl⟩
set_option maxHeartbeats 400000 in
theorem strip_ways (b : Nat) (w : World) (x : Value) (h7 : w.cell? ⟨b, 8, none⟩ = some x) (hf : w.frozen? ⟨b, 8, none⟩ = false) : Calls Tryz.prog 137 #[.pointer (some ⟨b, 0, none⟩)] w fun e w' => e = .returned (.tuple #[]) ∧ w' = w.setCell ⟨b, 8, none⟩ (.slice none 0 0) := by
  go_enter Tryz.func137, Tryz.ntmps137
  go_wp2
  go_end0
  exact ⟨rfl, rfl⟩
set_option maxHeartbeats 400000 in
theorem strip_value (b : Nat) (w : World) (x : Value) (h7 : w.cell? ⟨b, 3, none⟩ = some x) (hf : w.frozen? ⟨b, 3, none⟩ = false) : Calls Tryz.prog 140 #[.pointer (some ⟨b, 0, none⟩)] w fun e w' => e = .returned (.tuple #[]) ∧ w' = w.setCell ⟨b, 3, none⟩ (.int .u64 0) := by
  go_enter Tryz.func140, Tryz.ntmps140
  go_wp2
  go_end0
  exact ⟨rfl, rfl⟩
set_option maxHeartbeats 1000000 in
theorem isBare_yes (k : Int) (a b : Option Addr) (c d : Nat) (w : World) : Calls Tryz.prog 155 #[actV k 0 0 0 0 0 0 (.slice a 0 c) (.slice b 0 d) 0 0 0 0 0 0] w fun e w' => e = .returned (.bool true) ∧ Below w.heap.size w w' := by
  go_enter Tryz.func155, Tryz.ntmps155
  go_wp2
  go_ret
  exact ⟨rfl, below1 _ _⟩
set_option maxHeartbeats 400000 in
theorem areRight_nil (a : Option Addr) (c : Nat) (d : Int) (w : World) : Calls Tryz.prog 70 #[.slice a 0 c, .int .i64 d] w fun e w' => e = .returned (.bool true) ∧ w' = w := by
  go_enter Tryz.func70, Tryz.ntmps70
  go_wp2
  go_loop [9] (fun i => i = .int .i64 0) (fun _ => 0)
  case atStart => rfl
  case round =>
    subst hrel
    go_wp2
    go_ret
    exact ⟨rfl, rfl⟩
end Go.Proofs.YtnahhmcmahbnkaaGreatDoor.Ac
/- isRight of package act, out of what its kind's functions answer. Conditions: as said. -/
namespace Go.Proofs.YtnahhmcmahbnkaaGreatDoor.Ac
open Go.RowKit
theorem bcell {W w1 : World} (hb : Below W.heap.size W w1) : (∀ b o, b < W.heap.size → w1.cell? ⟨b, o, none⟩ = W.cell? ⟨b, o, none⟩) ∧ (∀ b o, b < W.heap.size → w1.frozen? ⟨b, o, none⟩ = W.frozen? ⟨b, o, none⟩) :=
  ⟨fun b o h => hb.cell (p := ⟨b, o, none⟩) h, fun b o h => hb.frozen (p := ⟨b, o, none⟩) h⟩
theorem size15 : (Tryz.prog.info? 49).map (·.size) = some 15 := by kernel_rfl
theorem info15 {c : Array Value} (h : c.size = 15) : (Tryz.prog.info? 49).map (·.size) = some c.size := by rw [h]; exact size15
theorem wpList_load_want {P : Program} {ops : Array Oper} {rest : List Oper} {o : Oper} {a : Act} {w : World} {Q : Exit → Act → World → Prop} (hw : Region.wanted o (yielded ops a.tmps) = true) (ty : TypeId) (x : Operand) (ho : o.op = .load ty x)
    (g : Nat) (hx : a.eval x = .pointer (some ⟨g, 0, none⟩)) (t : TypeId) (cs : Array Value) (fr : Nat × Nat) (d : TypeDesc) (hg : w.heap[g]? = some (.cells cs t fr))
    (hu : P.underlying ty = some d) (hd : (match d with | .struct _ | .array _ _ => true | _ => false) = true) (hi : (P.info? ty).map (·.size) = some cs.size)
    (h : wpList P ops Q rest (a.put o.dst (.agg cs)) w) : wpList P ops Q (o :: rest) a w :=
  BigFrame.wpList_want hw fun _ hK => wp_load_row ty x ho g hx t cs fr d hg hu hd hi (hK _ _ h)
/-- What a kind's row does with an action. -/
structure KindOf (A A' : Array Value) (s r : Nat) (rb bb : Bool) : Prop where
  size : A.size = 15
  size' : A'.size = 15
  one : A.all (·.oneCell') = true
  callR : ∀ args W, (callFunc r args).run Tryz.prog W = .ok (.enter r args) W
  callS : ∀ args W, (callFunc s args).run Tryz.prog W = .ok (.enter s args) W
  right : ∀ W, Calls Tryz.prog r #[.agg A] W fun e W' => e = .returned (.bool rb) ∧ Below W.heap.size W W'
  strip : rb = true → ∀ W b, W.heap[b]? = some (.cells A 49 (0, 0)) → Calls Tryz.prog s #[.pointer (some ⟨b, 0, none⟩)] W fun e W' => e = .returned (.tuple #[]) ∧ W'.heap[b]? = some (.cells A' 49 (0, 0)) ∧ Below b W W'
  bare : rb = true → ∀ W, Calls Tryz.prog 155 #[.agg A'] W fun e W' => e = .returned (.bool bb) ∧ Below W.heap.size W W'
set_option maxRecDepth 20000 in
set_option maxHeartbeats 2000000 in
theorem isRight_gen (k : Nat) (hk : k < 15) (A A' : Array Value) (s r : Nat) (st : Value) (rb bb rr : Bool) (d : Int) (hd : d ≤ 4) (hd0 : 0 ≤ d) (a : Option Addr) (n c : Nat) (w : World)
    (hrow : tabC.extract (k * 3) (k * 3 + 3) = #[fnV s, fnV r, st]) (h0 : A[0]? = some (.int .i64 k)) (h7 : A[7]? = some (.slice a n c))
    (hK : KindOf A A' s r rb bb) (hA : rb = true → bb = true → ∀ W, Below w.heap.size w W → Calls Tryz.prog 70 #[.slice a n c, .int .i64 (d + 1)] W fun e W' => e = .returned (.bool rr) ∧ Below W.heap.size W W') :
    Calls Tryz.prog 101 #[.agg A, .int .i64 d] w fun e w' => e = .returned (.bool (rb && (bb && rr))) ∧ Below w.heap.size w w' := by
  have HI : Hid _ := info15 hK.size
  have HI' : Hid _ := info15 hK.size'
  have HK : Hid _ := hK
  have HA : Hid _ := hA
  have hcR := hK.callR
  have hcS := hK.callS
  have HROW : Hid _ := hrow
  clear hK hA hrow
  have hdf : decide (4 < d) = false := by simp; omega
  go_enter Tryz.func101, Tryz.ntmps101
  go_wp2_with fail
  refine (arow_lit k hk _ _ _ HROW.out _).mono ?_
  rintro e W1 ⟨rfl, hb1⟩
  have hS1 : W1.heap[w.heap.size]? = some (.cells A 49 (0, 0)) := (hb1.block _ (by simp)).trans (heap_alloc_new _ _)
  have HS1 : Hid _ := hS1
  have hz1 : w.heap.size < W1.heap.size := by have := hb1.size; simp at this; omega
  have HB1 : Hid (Below w.heap.size w W1) := (below1 w _).trans (hb1.mono (by simp))
  clear hb1 hS1
  have h1r : (#[fnV s, fnV r, st] : Array Value).all (·.oneCell') = true := by rw [← HROW.out]; exact tab_one k
  have H1R : Hid _ := h1r
  clear h1r
  go_wp2_with (first
    | refine wpList_store_new rfl 197 _ _ rfl _ #[fnV s, fnV r, st] W1.heap.size rfl rfl rfl size3 rfl H1R.out ?_
    | fail)
  refine (isKind_yes s _ _ _).mono ?_
  rintro e W2 ⟨rfl, hb2⟩
  have hS2 : W2.heap[w.heap.size]? = some (.cells A 49 (0, 0)) := (hb2.block _ (by simp; omega)).trans ((heap_alloc_old _ _ (by omega)).trans HS1.out)
  have hR2 : W2.heap[W1.heap.size]? = some (.cells #[fnV s, fnV r, st] 197 (0, 0)) := (hb2.block _ (by simp)).trans (heap_alloc_new _ _)
  have HB2 : Hid (Below w.heap.size w W2) := HB1.out.trans (((below1 W1 _).trans (hb2.mono (by simp))).mono HB1.out.size)
  have r1 := cell_row hR2 1
  simp only [List.getElem?_toArray, List.getElem?_cons_succ, List.getElem?_cons_zero] at r1
  have HS2 : Hid _ := hS2
  have HR2 : Hid _ := hR2
  clear hb2 hS2 hR2 HS1 HB1
  go_wp2_with (first
    | refine wpList_load_want (by rfl) 49 _ rfl w.heap.size rfl 49 A (0, 0) _ HS2.out Tryz.underlying49 rfl HI.out ?_
    | fail)
  refine (HK.out.right _).mono ?_
  rintro e W3 ⟨rfl, hb3⟩
  have hS3 : W3.heap[w.heap.size]? = some (.cells A 49 (0, 0)) := (hb3.block _ (lt_of_heap HS2.out)).trans HS2.out
  have hR3 : W3.heap[W1.heap.size]? = some (.cells #[fnV s, fnV r, st] 197 (0, 0)) := (hb3.block _ (lt_of_heap HR2.out)).trans HR2.out
  have HB3 : Hid (Below w.heap.size w W3) := HB2.out.trans (hb3.mono HB2.out.size)
  clear hb3 r1 HS2 HR2 HB2
  cases rb
  · go_wp2
    go_ret
    exact ⟨rfl, HB3.out⟩
  · have r0 := cell_row hR3 0
    simp only [List.getElem?_toArray, List.getElem?_cons_zero] at r0
    have hz3 : w.heap.size < W3.heap.size := lt_of_heap hS3
    have hz3' : W1.heap.size < W3.heap.size := lt_of_heap hR3
    have HS3 : Hid _ := hS3
    clear hS3 hR3
    go_wp2_with (first
      | refine wpList_load_row rfl 49 _ rfl w.heap.size rfl 49 A (0, 0) _ HS3.out Tryz.underlying49 rfl HI.out ?_
      | refine wpList_store_new rfl 49 _ _ rfl _ A W3.heap.size rfl rfl rfl HI.out (Eq.trans (b := 15) rfl HK.out.size.symm) HK.out.one ?_
      | fail)
    refine (HK.out.strip (by trivial) _ _ (heap_alloc_new _ _)).mono ?_
    rintro e W4 ⟨rfl, hB4, hb4⟩
    have hS4 : W4.heap[w.heap.size]? = some (.cells A 49 (0, 0)) := (hb4.block _ (by omega)).trans ((heap_alloc_old _ _ (by omega)).trans HS3.out)
    have HB4 : Hid (Below w.heap.size w W4) := HB3.out.trans (((below1 W3 _).trans hb4).mono HB3.out.size)
    have HS4 : Hid _ := hS4
    have HBB : Hid _ := hB4
    clear hb4 hB4 hS4 r0 HB3 HS3
    go_wp2_with (first
      | refine wpList_load_row rfl 49 _ rfl W3.heap.size rfl 49 A' (0, 0) _ HBB.out Tryz.underlying49 rfl HI'.out ?_
      | fail)
    refine (HK.out.bare (by trivial) _).mono ?_
    rintro e W5 ⟨rfl, hb5⟩
    have hS5 : W5.heap[w.heap.size]? = some (.cells A 49 (0, 0)) := (hb5.block _ (lt_of_heap HS4.out)).trans HS4.out
    have HB5 : Hid (Below w.heap.size w W5) := HB4.out.trans (hb5.mono HB4.out.size)
    have s7 := (cell_row hS5 7).trans h7
    clear hb5 hS5 HB4 HS4 HBB
    cases bb
    · go_wp2
      go_ret
      exact ⟨rfl, HB5.out⟩
    · go_wp2_with fail
      refine (HA.out (by trivial) (by trivial) _ HB5.out).mono ?_
      rintro e W6 ⟨rfl, hb6⟩
      have HB6 : Hid (Below w.heap.size w W6) := HB5.out.trans (hb6.mono HB5.out.size)
      clear hb6 s7
      go_wp2
      go_ret
      exact ⟨rfl, HB6.out⟩
end Go.Proofs.YtnahhmcmahbnkaaGreatDoor.Ac
/- Check, Pure and Step of package act, out of what a kind's functions answer; hop. Conditions: as said. -/
namespace Go.Proofs.YtnahhmcmahbnkaaGreatDoor.Ac
open Go.RowKit
theorem three_last (w : World) (A B C : Obj) : (((w.alloc A).alloc B).alloc C).heap[w.heap.size + 1 + 1]? = some C := by
  have := heap_alloc_new ((w.alloc A).alloc B) C
  simpa using this
set_option maxRecDepth 20000 in
set_option maxHeartbeats 1000000 in
theorem check_gen (A : Array Value) (hs : A.size = 15) (b : Bool) (w : World) (h : ∀ W, Below w.heap.size w W → Calls Tryz.prog 101 #[.agg A, .int .i64 0] W fun e W' => e = .returned (.bool b) ∧ Below W.heap.size W W') :
    Calls Tryz.prog 95 #[.agg A] w fun e w' => e = .returned (.int .i64 (if b then 0 else 110)) ∧ Below w.heap.size w w' := by
  have HI : Hid _ := info15 hs
  have HH : Hid _ := h
  clear h hs
  go_enter Tryz.func95, Tryz.ntmps95
  go_wp2_with (first
    | refine wpList_load_row rfl 49 _ rfl w.heap.size rfl 49 A (0, 0) _ (heap_alloc_new _ _) Tryz.underlying49 rfl HI.out ?_
    | fail)
  refine (HH.out _ (below1 _ _)).mono ?_
  rintro e W1 ⟨rfl, hb1⟩
  have HB1 : Hid (Below w.heap.size w W1) := (below1 w _).trans (hb1.mono (by simp))
  clear hb1
  cases b
  all_goals
    go_wp2
    go_ret
    exact ⟨rfl, HB1.out⟩
theorem yields_loadR {ops : Array Oper} {S : World → Prop} {op : Oper} {a : Act} (hw : Region.wanted op (yielded ops a.tmps) = true) (ty : TypeId) (x : Operand) (ho : op.op = .load ty x)
    (b : Nat) (hx : a.eval x = .pointer (some ⟨b, 0, none⟩)) (t : TypeId) (cs : Array Value) (d : TypeDesc) (hS : ∀ w, S w → w.heap[b]? = some (.cells cs t (0, 0)))
    (hu : Tryz.prog.underlying ty = some d) (hd : d.isRow = true) (hi : (Tryz.prog.info? ty).map (·.size) = some cs.size) : YieldsIf Tryz.prog ops S op (.agg cs) a := by
  have := yieldsIf_load_mid (P := Tryz.prog) (ops := ops) (S := S) (op := op) (a := a) hw ty x ho b 0 hx cs.toList d (fun w hw' => by
    have h := World.rangeAt_of_block (hS w hw') 0 cs.size
    simpa using h) hu hd (by simpa using hi)
  simpa using this
theorem field_step (a b c : Value) (W : World) : (Instr.field 197 (.agg #[a, b, c]) 2).run Tryz.prog W = .ok c W := by
  simp [Instr.field, go_sem, asAgg]
set_option maxRecDepth 20000 in
set_option maxHeartbeats 1000000 in
theorem pure_gen (k : Nat) (hk : k < 15) (a b : Value) (g : Nat) (hrow : tabC.extract (k * 3) (k * 3 + 3) = #[a, b, fnV g]) (w : World) :
    Calls Tryz.prog 94 #[.int .i64 k] w fun e w' => e = .returned (.bool true) ∧ Below w.heap.size w w' := by
  have hne := neq_step g
  have hfl := field_step
  have HROW : Hid _ := hrow
  clear hrow
  go_enter Tryz.func94, Tryz.ntmps94
  go_wp2_with fail
  refine (arow_lit k hk _ _ _ HROW.out _).mono ?_
  rintro e W1 ⟨rfl, hb1⟩
  have HB : Hid _ := hb1
  clear hb1
  go_wp2
  go_ret
  exact ⟨rfl, HB.out⟩
set_option linter.unusedSimpArgs false in
set_option maxRecDepth 20000 in
set_option maxHeartbeats 2000000 in
theorem step_gen (k : Nat) (hk : k < 15) (A cs R : Array Value) (E : Int) (a b : Value) (g : Nat) (hrow : tabC.extract (k * 3) (k * 3 + 3) = #[a, b, fnV g]) (h0 : A[0]? = some (.int .i64 k)) (hA : A.size = 15) (hcs : cs.size = 49) (hR : R.size = 49) (hR1 : R.all (·.oneCell') = true) (w : World)
    (hcall : ∀ args W, (callFunc g args).run Tryz.prog W = .ok (.enter g args) W)
    (hcheck : ∀ W, Below w.heap.size w W → Calls Tryz.prog 95 #[.agg A] W fun e W' => e = .returned (.int .i64 0) ∧ Below W.heap.size W W')
    (hstep : ∀ W, Below w.heap.size w W → Calls Tryz.prog g #[.agg cs, .agg A] W fun e W' => e = .returned (.tuple #[.agg R, .int .i64 E]) ∧ Below W.heap.size W W') :
    Calls Tryz.prog 62 #[.agg cs, .agg A] w fun e w' => e = .returned (.tuple #[.agg R, .int .i64 E]) ∧ Below w.heap.size w w' := by
  have HIA : Hid _ := info15 hA
  have HIC : Hid _ := info_size hcs
  have HIR : Hid _ := info_size hR
  have HROW : Hid _ := hrow
  have HC : Hid _ := hcheck
  have HST : Hid _ := hstep
  have HR1 : Hid _ := hR1
  have HR : Hid _ := hR
  have HCS : Hid _ := hcs
  have hfl := field_step
  clear hrow hcheck hstep hR1 hR hcs hA
  go_enter Tryz.func62, Tryz.ntmps62
  go_wp2_with fail
  refine (pure_gen k hk _ _ _ HROW.out _).mono ?_
  rintro e W1 ⟨rfl, hb1⟩
  have hS1 : W1.heap[w.heap.size]? = some (.cells cs 38 (0, 0)) := (hb1.block _ (by simp; omega)).trans ((heap_alloc_old _ _ (by simp; omega)).trans (two_first _ _ _))
  have hA1 : W1.heap[w.heap.size + 1]? = some (.cells A 49 (0, 0)) := (hb1.block _ (by simp)).trans ((heap_alloc_old _ _ (by simp)).trans (two_last _ _ _))
  have hZ1 : W1.heap[w.heap.size + 1 + 1]? = some (.cells zeroC 38 (0, 0)) := (hb1.block _ (by simp)).trans (three_last _ _ _ _)
  have HB1 : Hid (Below w.heap.size w W1) := (below3 w _ _ _).trans (hb1.mono (by simp; omega))
  have HS1 : Hid _ := hS1
  have HA1 : Hid _ := hA1
  have HZ1 : Hid _ := hZ1
  clear hb1 hS1 hA1 hZ1
  go_wp2_with (first
    | refine wpList_load_want (by rfl) 49 _ rfl (w.heap.size + 1) rfl 49 A (0, 0) _ HA1.out Tryz.underlying49 rfl HIA.out ?_
    | fail)
  refine (HC.out _ HB1.out).mono ?_
  rintro e W2 ⟨rfl, hb2⟩
  have hS2 : W2.heap[w.heap.size]? = some (.cells cs 38 (0, 0)) := (hb2.block _ (lt_of_heap HS1.out)).trans HS1.out
  have hA2 : W2.heap[w.heap.size + 1]? = some (.cells A 49 (0, 0)) := (hb2.block _ (lt_of_heap HA1.out)).trans HA1.out
  have hZ2 : W2.heap[w.heap.size + 1 + 1]? = some (.cells zeroC 38 (0, 0)) := (hb2.block _ (lt_of_heap HZ1.out)).trans HZ1.out
  have HB2 : Hid (Below w.heap.size w W2) := HB1.out.trans (hb2.mono HB1.out.size)
  have key : ∀ W, Below W2.heap.size W2 W → W.cell? ⟨w.heap.size + 1, 0, none⟩ = some (.int .i64 k) ∧ W.heap[w.heap.size]? = some (.cells cs 38 (0, 0)) ∧ W.heap[w.heap.size + 1]? = some (.cells A 49 (0, 0)) ∧ W.heap[w.heap.size + 1 + 1]? = some (.cells zeroC 38 (0, 0)) ∧ Below w.heap.size w W := fun W hb => by
    have qA := (hb.block _ (lt_of_heap hA2)).trans hA2
    exact ⟨(cell_row qA 0).trans h0, (hb.block _ (lt_of_heap hS2)).trans hS2, qA, (hb.block _ (lt_of_heap hZ2)).trans hZ2, HB2.out.trans (hb.mono HB2.out.size)⟩
  have KC : Hid _ := key
  clear hb2 hS2 hA2 hZ2 HS1 HA1 HZ1 HB1 key
  go_wp2_with fail
  refine wp_region_held_drew (S := (fun W => W.cell? ⟨w.heap.size + 1, 0, none⟩ = some (.int .i64 k) ∧ W.heap[w.heap.size]? = some (.cells cs 38 (0, 0)) ∧ W.heap[w.heap.size + 1]? = some (.cells A 49 (0, 0)) ∧ Below w.heap.size w W)) (by kernel_rfl) ?_ (fun hHeld => ?_)
  · have q := KC.out _ (Below.refl _ _).drew
    exact ⟨q.1, q.2.1, q.2.2.1, q.2.2.2.2⟩
  refine wpAnyH_take (i := 0) (v := ?_) rfl (by kernel_rfl) (by kernel_rfl) (by kernel_rfl) (fun _ _ _ h => h) (Or.inl ⟨by rfl, ?_⟩) (by assumption) ?_
  rotate_left
  · (intro w hSw; (try dsimp only at hSw); go_simp; try with_reducible rfl)
  try simp only [List.getElem_toArray, List.getElem_cons_zero, List.getElem_cons_succ, Act.put, List.setIfInBounds_toArray, List.set_cons_zero, List.set_cons_succ]
  refine wpAnyH_take (i := 1) (v := ?_) rfl (by kernel_rfl) (by kernel_rfl) (by kernel_rfl) (fun _ _ _ h => h) (Or.inl ⟨by rfl, ?_⟩) (by assumption) ?_
  rotate_left
  · (intro w hSw; (try dsimp only at hSw); go_simp; try with_reducible rfl)
  try simp only [List.getElem_toArray, List.getElem_cons_zero, List.getElem_cons_succ, Act.put, List.setIfInBounds_toArray, List.set_cons_zero, List.set_cons_succ]
  refine wpAnyH_take (i := 4) (v := .agg cs) rfl (by kernel_rfl) (by kernel_rfl) (by kernel_rfl) (fun _ _ _ h => h) (yields_loadR (by rfl) 38 _ rfl w.heap.size rfl 38 cs _ (fun _ h => h.2.1) Tryz.underlying38 rfl HIC.out) (by assumption) ?_
  try simp only [List.getElem_toArray, List.getElem_cons_zero, List.getElem_cons_succ, Act.put, List.setIfInBounds_toArray, List.set_cons_zero, List.set_cons_succ]
  refine wpAnyH_take (i := 5) (v := .agg A) rfl (by kernel_rfl) (by kernel_rfl) (by kernel_rfl) (fun _ _ _ h => h) (yields_loadR (by rfl) 49 _ rfl (w.heap.size + 1) rfl 49 A _ (fun _ h => h.2.2.1) Tryz.underlying49 rfl HIA.out) (by assumption) ?_
  try simp only [List.getElem_toArray, List.getElem_cons_zero, List.getElem_cons_succ, Act.put, List.setIfInBounds_toArray, List.set_cons_zero, List.set_cons_succ]
  refine wpAnyH_ready (rs := [2]) (by kernel_rfl) (by simp) ?_
  refine AllReadyH.cons (o := _) rfl (fun K hK => ?_) AllReadyH.nil
  go_simp
  clear hHeld
  have hD : Below W2.heap.size W2 W2.drew := (Below.refl _ _).drew
  refine (arow_lit k hk _ _ _ HROW.out _).mono ?_
  rintro e W3 ⟨rfl, hb3⟩
  go_wp2_with fail
  have hD3 : Below W2.heap.size W2 W3 := hD.trans hb3
  have k3 := KC.out _ hD3
  refine hK.out _ _ ⟨k3.1, k3.2.1, k3.2.2.1, k3.2.2.2.2⟩ (fun hHeld => ?_)
  clear hK K hb3 hD
  try simp only [List.getElem_toArray, List.getElem_cons_zero, List.getElem_cons_succ, Act.put, List.setIfInBounds_toArray, List.set_cons_zero, List.set_cons_succ]
  refine wpAnyH_take (i := 3) (v := ?_) rfl (by kernel_rfl) (by kernel_rfl) (by kernel_rfl) (fun _ _ _ h => h) (Or.inl ⟨by rfl, ?_⟩) (by assumption) ?_
  rotate_left
  · (intro w hSw; (try dsimp only at hSw); go_simp; try with_reducible rfl)
  try simp only [List.getElem_toArray, List.getElem_cons_zero, List.getElem_cons_succ, Act.put, List.setIfInBounds_toArray, List.set_cons_zero, List.set_cons_succ]
  refine wpAnyH_ready (rs := [6]) (by kernel_rfl) (by simp) ?_
  refine AllReadyH.cons (o := _) rfl (fun K hK => ?_) AllReadyH.nil
  go_simp
  clear hHeld
  refine (HST.out _ k3.2.2.2.2).mono ?_
  rintro e W4 ⟨rfl, hb4⟩
  go_wp2_with fail
  have hD4 : Below W2.heap.size W2 W4 := hD3.trans (hb4.mono hD3.size)
  have k4 := KC.out _ hD4
  refine hK.out _ _ ⟨k4.1, k4.2.1, k4.2.2.1, k4.2.2.2.2⟩ (fun hHeld => ?_)
  clear hK K hb4 k3
  try simp only [List.getElem_toArray, List.getElem_cons_zero, List.getElem_cons_succ, Act.put, List.setIfInBounds_toArray, List.set_cons_zero, List.set_cons_succ]
  refine wpAnyH_take (i := 7) (v := ?_) rfl (by kernel_rfl) (by kernel_rfl) (by kernel_rfl) (fun _ _ _ h => h) (Or.inl ⟨by rfl, ?_⟩) (by assumption) ?_
  rotate_left
  · (intro w hSw; (try dsimp only at hSw); go_simp; try with_reducible rfl)
  try simp only [List.getElem_toArray, List.getElem_cons_zero, List.getElem_cons_succ, Act.put, List.setIfInBounds_toArray, List.set_cons_zero, List.set_cons_succ]
  refine wpAnyH_take (i := 8) (v := ?_) rfl (by kernel_rfl) (by kernel_rfl) (by kernel_rfl) (fun _ _ _ h => h) (Or.inl ⟨by rfl, ?_⟩) (by assumption) ?_
  rotate_left
  · (intro w hSw; (try dsimp only at hSw); go_simp; try with_reducible rfl)
  try simp only [List.getElem_toArray, List.getElem_cons_zero, List.getElem_cons_succ, Act.put, List.setIfInBounds_toArray, List.set_cons_zero, List.set_cons_succ]
  refine wpAnyH_ready (rs := [9]) (by kernel_rfl) (by simp) ?_
  refine AllReadyH.cons (o := _) rfl (fun K hK => ?_) AllReadyH.nil
  clear hHeld
  refine wp_store_row 38 _ _ rfl (w.heap.size + 1 + 1) zeroC R 38 rfl rfl k4.2.2.2.1 HIR.out (Eq.trans (b := 49) rfl HR.out.symm) HR1.out ?_
  intro W6 z1 z2 z3 z4
  have k6 : W6.cell? ⟨w.heap.size + 1, 0, none⟩ = some (.int .i64 k) ∧ W6.heap[w.heap.size]? = some (.cells cs 38 (0, 0)) ∧ W6.heap[w.heap.size + 1]? = some (.cells A 49 (0, 0)) ∧ Below w.heap.size w W6 := by
    have qA := (z2 (w.heap.size + 1) (by omega)).trans k4.2.2.1
    exact ⟨(cell_row qA 0).trans h0, (z2 _ (by omega)).trans k4.2.1, qA, k4.2.2.2.2.trans (z4.mono (by omega))⟩
  refine hK.out _ _ k6 (fun hHeld => ?_)
  clear hK K
  try simp only [List.getElem_toArray, List.getElem_cons_zero, List.getElem_cons_succ, Act.put, List.setIfInBounds_toArray, List.set_cons_zero, List.set_cons_succ]
  refine wpAnyH_take (i := 10) (v := ?_) rfl (by kernel_rfl) (by kernel_rfl) (by kernel_rfl) (fun _ _ _ h => h) (Or.inl ⟨by rfl, ?_⟩) (by assumption) ?_
  rotate_left
  · (intro w hSw; (try dsimp only at hSw); go_simp; try with_reducible rfl)
  try simp only [List.getElem_toArray, List.getElem_cons_zero, List.getElem_cons_succ, Act.put, List.setIfInBounds_toArray, List.set_cons_zero, List.set_cons_succ]
  refine wpAnyH_done (by kernel_rfl) ?_ _
  go_wp2
  refine bodyPost_ret (results_state (p := 4) (u := 5) rfl _ _ (w.heap.size + 1 + 1) R rfl z1 HR.out) rfl ⟨rfl, k6.2.2.2⟩
end Go.Proofs.YtnahhmcmahbnkaaGreatDoor.Ac
