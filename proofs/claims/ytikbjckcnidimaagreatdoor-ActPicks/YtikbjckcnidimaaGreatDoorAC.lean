/- isRight of package act, out of what its kind's functions answer. Conditions: as said. -/
import Derived.Test.YtikbjckcnidimaaGreatDoorAB
namespace Go.Proofs.YtikbjckcnidimaaGreatDoor
open Go.RowKit
theorem bcell {W w1 : World} (hb : Below W.heap.size W w1) : (∀ b o, b < W.heap.size → w1.cell? ⟨b, o, none⟩ = W.cell? ⟨b, o, none⟩) ∧ (∀ b o, b < W.heap.size → w1.frozen? ⟨b, o, none⟩ = W.frozen? ⟨b, o, none⟩) :=
  ⟨fun b o h => hb.cell (p := ⟨b, o, none⟩) h, fun b o h => hb.frozen (p := ⟨b, o, none⟩) h⟩
theorem size15 : (Tryz.prog.info? 29).map (·.size) = some 15 := by kernel_rfl
theorem info15 {c : Array Value} (h : c.size = 15) : (Tryz.prog.info? 29).map (·.size) = some c.size := by rw [h]; exact size15
theorem wpList_load_want {P : Program} {ops : Array Oper} {rest : List Oper} {o : Oper} {a : Act} {w : World} {Q : Exit → Act → World → Prop} (hw : Region.wanted o (yielded ops a.tmps) = true) (ty : TypeId) (x : Operand) (ho : o.op = .load ty x)
    (g : Nat) (hx : a.eval x = .pointer (some ⟨g, 0, none⟩)) (t : TypeId) (cs : Array Value) (fr : Nat × Nat) (d : TypeDesc) (hg : w.heap[g]? = some (.cells cs t fr))
    (hu : P.underlying ty = some d) (hd : (match d with | .struct _ | .array _ _ => true | _ => false) = true) (hi : (P.info? ty).map (·.size) = some cs.size)
    (h : wpList P ops Q rest (a.put o.dst (.agg cs)) w) : wpList P ops Q (o :: rest) a w :=
  BigFrame.wpList_want hw fun _ hK => wp_load_row ty x ho g hx t cs fr d hg hu hd hi (hK _ _ h)
/-- What a kind's row does with an action. -/
structure KindOf (A A' : Array Value) (s r : Nat) (rb bb : Bool) : Prop where
  size : A.size = 15
  size' : A'.size = 15
  one : A.all (·.oneCell') = true
  callR : ∀ args W, (callFunc r args).run Tryz.prog W = .ok (.enter r args) W
  callS : ∀ args W, (callFunc s args).run Tryz.prog W = .ok (.enter s args) W
  right : ∀ W, Calls Tryz.prog r #[.agg A] W fun e W' => e = .returned (.bool rb) ∧ Below W.heap.size W W'
  strip : rb = true → ∀ W b, W.heap[b]? = some (.cells A 29 (0, 0)) → Calls Tryz.prog s #[.pointer (some ⟨b, 0, none⟩)] W fun e W' => e = .returned (.tuple #[]) ∧ W'.heap[b]? = some (.cells A' 29 (0, 0)) ∧ Below b W W'
  bare : rb = true → ∀ W, Calls Tryz.prog 44 #[.agg A'] W fun e W' => e = .returned (.bool bb) ∧ Below W.heap.size W W'
set_option maxRecDepth 20000 in
set_option maxHeartbeats 2000000 in
theorem isRight_gen (k : Nat) (hk : k < 15) (A A' : Array Value) (s r : Nat) (st : Value) (rb bb rr : Bool) (d : Int) (hd : d ≤ 4) (hd0 : 0 ≤ d) (a : Option Addr) (n c : Nat) (w : World)
    (hrow : tabC.extract (k * 3) (k * 3 + 3) = #[fnV s, fnV r, st]) (h0 : A[0]? = some (.int .i64 k)) (h7 : A[7]? = some (.slice a n c))
    (hK : KindOf A A' s r rb bb) (hA : rb = true → bb = true → ∀ W, Below w.heap.size w W → Calls Tryz.prog 22 #[.slice a n c, .int .i64 (d + 1)] W fun e W' => e = .returned (.bool rr) ∧ Below W.heap.size W W') :
    Calls Tryz.prog 20 #[.agg A, .int .i64 d] w fun e w' => e = .returned (.bool (rb && (bb && rr))) ∧ Below w.heap.size w w' := by
  have HI : Hid _ := info15 hK.size
  have HI' : Hid _ := info15 hK.size'
  have HK : Hid _ := hK
  have HA : Hid _ := hA
  have hcR := hK.callR
  have hcS := hK.callS
  have HROW : Hid _ := hrow
  clear hK hA hrow
  have hdf : decide (4 < d) = false := by simp; omega
  go_enter Tryz.func20, Tryz.ntmps20
  go_wp2_with fail
  refine (arow_lit k hk _ _ _ HROW.out _).mono ?_
  rintro e W1 ⟨rfl, hb1⟩
  have hS1 : W1.heap[w.heap.size]? = some (.cells A 29 (0, 0)) := (hb1.block _ (by simp)).trans (heap_alloc_new _ _)
  have HS1 : Hid _ := hS1
  have hz1 : w.heap.size < W1.heap.size := by have := hb1.size; simp at this; omega
  have HB1 : Hid (Below w.heap.size w W1) := (below1 w _).trans (hb1.mono (by simp))
  clear hb1 hS1
  have h1r : (#[fnV s, fnV r, st] : Array Value).all (·.oneCell') = true := by rw [← HROW.out]; exact tab_one k
  have H1R : Hid _ := h1r
  clear h1r
  go_wp2_with (first
    | refine wpList_store_new rfl 72 _ _ rfl _ #[fnV s, fnV r, st] W1.heap.size rfl rfl rfl size3 rfl H1R.out ?_
    | fail)
  refine (isKind_yes s _ _ _).mono ?_
  rintro e W2 ⟨rfl, hb2⟩
  have hS2 : W2.heap[w.heap.size]? = some (.cells A 29 (0, 0)) := (hb2.block _ (by simp; omega)).trans ((heap_alloc_old _ _ (by omega)).trans HS1.out)
  have hR2 : W2.heap[W1.heap.size]? = some (.cells #[fnV s, fnV r, st] 72 (0, 0)) := (hb2.block _ (by simp)).trans (heap_alloc_new _ _)
  have HB2 : Hid (Below w.heap.size w W2) := HB1.out.trans (((below1 W1 _).trans (hb2.mono (by simp))).mono HB1.out.size)
  have r1 := cell_row hR2 1
  simp only [List.getElem?_toArray, List.getElem?_cons_succ, List.getElem?_cons_zero] at r1
  have HS2 : Hid _ := hS2
  have HR2 : Hid _ := hR2
  clear hb2 hS2 hR2 HS1 HB1
  go_wp2_with (first
    | refine wpList_load_want (by rfl) 29 _ rfl w.heap.size rfl 29 A (0, 0) _ HS2.out Tryz.underlying29 rfl HI.out ?_
    | fail)
  refine (HK.out.right _).mono ?_
  rintro e W3 ⟨rfl, hb3⟩
  have hS3 : W3.heap[w.heap.size]? = some (.cells A 29 (0, 0)) := (hb3.block _ (lt_of_heap HS2.out)).trans HS2.out
  have hR3 : W3.heap[W1.heap.size]? = some (.cells #[fnV s, fnV r, st] 72 (0, 0)) := (hb3.block _ (lt_of_heap HR2.out)).trans HR2.out
  have HB3 : Hid (Below w.heap.size w W3) := HB2.out.trans (hb3.mono HB2.out.size)
  clear hb3 r1 HS2 HR2 HB2
  cases rb
  · go_wp2
    go_ret
    exact ⟨rfl, HB3.out⟩
  · have r0 := cell_row hR3 0
    simp only [List.getElem?_toArray, List.getElem?_cons_zero] at r0
    have hz3 : w.heap.size < W3.heap.size := lt_of_heap hS3
    have hz3' : W1.heap.size < W3.heap.size := lt_of_heap hR3
    have HS3 : Hid _ := hS3
    clear hS3 hR3
    go_wp2_with (first
      | refine wpList_load_row rfl 29 _ rfl w.heap.size rfl 29 A (0, 0) _ HS3.out Tryz.underlying29 rfl HI.out ?_
      | refine wpList_store_new rfl 29 _ _ rfl _ A W3.heap.size rfl rfl rfl HI.out (Eq.trans (b := 15) rfl HK.out.size.symm) HK.out.one ?_
      | fail)
    refine (HK.out.strip (by trivial) _ _ (heap_alloc_new _ _)).mono ?_
    rintro e W4 ⟨rfl, hB4, hb4⟩
    have hS4 : W4.heap[w.heap.size]? = some (.cells A 29 (0, 0)) := (hb4.block _ (by omega)).trans ((heap_alloc_old _ _ (by omega)).trans HS3.out)
    have HB4 : Hid (Below w.heap.size w W4) := HB3.out.trans (((below1 W3 _).trans hb4).mono HB3.out.size)
    have HS4 : Hid _ := hS4
    have HBB : Hid _ := hB4
    clear hb4 hB4 hS4 r0 HB3 HS3
    go_wp2_with (first
      | refine wpList_load_row rfl 29 _ rfl W3.heap.size rfl 29 A' (0, 0) _ HBB.out Tryz.underlying29 rfl HI'.out ?_
      | fail)
    refine (HK.out.bare (by trivial) _).mono ?_
    rintro e W5 ⟨rfl, hb5⟩
    have hS5 : W5.heap[w.heap.size]? = some (.cells A 29 (0, 0)) := (hb5.block _ (lt_of_heap HS4.out)).trans HS4.out
    have HB5 : Hid (Below w.heap.size w W5) := HB4.out.trans (hb5.mono HB4.out.size)
    have s7 := (cell_row hS5 7).trans h7
    clear hb5 hS5 HB4 HS4 HBB
    cases bb
    · go_wp2
      go_ret
      exact ⟨rfl, HB5.out⟩
    · go_wp2_with fail
      refine (HA.out (by trivial) (by trivial) _ HB5.out).mono ?_
      rintro e W6 ⟨rfl, hb6⟩
      have HB6 : Hid (Below w.heap.size w W6) := HB5.out.trans (hb6.mono HB5.out.size)
      clear hb6 s7
      go_wp2
      go_ret
      exact ⟨rfl, HB6.out⟩
end Go.Proofs.YtikbjckcnidimaaGreatDoor
