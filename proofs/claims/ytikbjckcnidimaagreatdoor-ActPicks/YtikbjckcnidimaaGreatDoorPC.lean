/- isPickRight; isRight and Step of ActPick. Conditions: as said. -/
import Derived.Test.YtikbjckcnidimaaGreatDoorPB
import Derived.Test.YtikbjckcnidimaaGreatDoorAE
namespace Go.Proofs.YtikbjckcnidimaaGreatDoor
open Go.RowKit
/-- What a kind's row does with an action, in the worlds behind one. -/
structure KindAt (w : World) (A A' : Array Value) (s r : Nat) (rb bb : Bool) : Prop where
  size : A.size = 15
  size' : A'.size = 15
  one : A.all (·.oneCell') = true
  callR : ∀ args W, (callFunc r args).run Tryz.prog W = .ok (.enter r args) W
  callS : ∀ args W, (callFunc s args).run Tryz.prog W = .ok (.enter s args) W
  right : ∀ W, Below w.heap.size w W → Calls Tryz.prog r #[.agg A] W fun e W' => e = .returned (.bool rb) ∧ Below W.heap.size W W'
  strip : rb = true → ∀ W b, W.heap[b]? = some (.cells A 29 (0, 0)) → Calls Tryz.prog s #[.pointer (some ⟨b, 0, none⟩)] W fun e W' => e = .returned (.tuple #[]) ∧ W'.heap[b]? = some (.cells A' 29 (0, 0)) ∧ Below b W W'
  bare : rb = true → ∀ W, Calls Tryz.prog 44 #[.agg A'] W fun e W' => e = .returned (.bool bb) ∧ Below W.heap.size W W'
set_option maxRecDepth 20000 in
set_option maxHeartbeats 2000000 in
theorem isRight_at (k : Nat) (hk : k < 15) (A A' : Array Value) (s r : Nat) (st : Value) (rb bb rr : Bool) (d : Int) (hd : d ≤ 4) (hd0 : 0 ≤ d) (a : Option Addr) (n c : Nat) (w : World)
    (hrow : tabC.extract (k * 3) (k * 3 + 3) = #[fnV s, fnV r, st]) (h0 : A[0]? = some (.int .i64 k)) (h7 : A[7]? = some (.slice a n c))
    (hK : KindAt w A A' s r rb bb) (hA : rb = true → bb = true → ∀ W, Below w.heap.size w W → Calls Tryz.prog 22 #[.slice a n c, .int .i64 (d + 1)] W fun e W' => e = .returned (.bool rr) ∧ Below W.heap.size W W') :
    Calls Tryz.prog 20 #[.agg A, .int .i64 d] w fun e w' => e = .returned (.bool (rb && (bb && rr))) ∧ Below w.heap.size w w' := by
  have HI : Hid _ := info15 hK.size
  have HI' : Hid _ := info15 hK.size'
  have HK : Hid _ := hK
  have HA : Hid _ := hA
  have hcR := hK.callR
  have hcS := hK.callS
  have HROW : Hid _ := hrow
  clear hK hA hrow
  have hdf : decide (4 < d) = false := by simp; omega
  go_enter Tryz.func20, Tryz.ntmps20
  go_wp2_with fail
  refine (arow_lit k hk _ _ _ HROW.out _).mono ?_
  rintro e W1 ⟨rfl, hb1⟩
  have hS1 : W1.heap[w.heap.size]? = some (.cells A 29 (0, 0)) := (hb1.block _ (by simp)).trans (heap_alloc_new _ _)
  have HS1 : Hid _ := hS1
  have hz1 : w.heap.size < W1.heap.size := by have := hb1.size; simp at this; omega
  have HB1 : Hid (Below w.heap.size w W1) := (below1 w _).trans (hb1.mono (by simp))
  clear hb1 hS1
  have h1r : (#[fnV s, fnV r, st] : Array Value).all (·.oneCell') = true := by rw [← HROW.out]; exact tab_one k
  have H1R : Hid _ := h1r
  clear h1r
  go_wp2_with (first
    | refine wpList_store_new rfl 72 _ _ rfl _ #[fnV s, fnV r, st] W1.heap.size rfl rfl rfl size3 rfl H1R.out ?_
    | fail)
  refine (isKind_yes s _ _ _).mono ?_
  rintro e W2 ⟨rfl, hb2⟩
  have hS2 : W2.heap[w.heap.size]? = some (.cells A 29 (0, 0)) := (hb2.block _ (by simp; omega)).trans ((heap_alloc_old _ _ (by omega)).trans HS1.out)
  have hR2 : W2.heap[W1.heap.size]? = some (.cells #[fnV s, fnV r, st] 72 (0, 0)) := (hb2.block _ (by simp)).trans (heap_alloc_new _ _)
  have HB2 : Hid (Below w.heap.size w W2) := HB1.out.trans (((below1 W1 _).trans (hb2.mono (by simp))).mono HB1.out.size)
  have r1 := cell_row hR2 1
  simp only [List.getElem?_toArray, List.getElem?_cons_succ, List.getElem?_cons_zero] at r1
  have HS2 : Hid _ := hS2
  have HR2 : Hid _ := hR2
  clear hb2 hS2 hR2 HS1 HB1
  go_wp2_with (first
    | refine wpList_load_want (by rfl) 29 _ rfl w.heap.size rfl 29 A (0, 0) _ HS2.out Tryz.underlying29 rfl HI.out ?_
    | fail)
  refine (HK.out.right _ HB2.out).mono ?_
  rintro e W3 ⟨rfl, hb3⟩
  have hS3 : W3.heap[w.heap.size]? = some (.cells A 29 (0, 0)) := (hb3.block _ (lt_of_heap HS2.out)).trans HS2.out
  have hR3 : W3.heap[W1.heap.size]? = some (.cells #[fnV s, fnV r, st] 72 (0, 0)) := (hb3.block _ (lt_of_heap HR2.out)).trans HR2.out
  have HB3 : Hid (Below w.heap.size w W3) := HB2.out.trans (hb3.mono HB2.out.size)
  clear hb3 r1 HS2 HR2 HB2
  cases rb
  · go_wp2
    go_ret
    exact ⟨rfl, HB3.out⟩
  · have r0 := cell_row hR3 0
    simp only [List.getElem?_toArray, List.getElem?_cons_zero] at r0
    have hz3 : w.heap.size < W3.heap.size := lt_of_heap hS3
    have hz3' : W1.heap.size < W3.heap.size := lt_of_heap hR3
    have HS3 : Hid _ := hS3
    clear hS3 hR3
    go_wp2_with (first
      | refine wpList_load_row rfl 29 _ rfl w.heap.size rfl 29 A (0, 0) _ HS3.out Tryz.underlying29 rfl HI.out ?_
      | refine wpList_store_new rfl 29 _ _ rfl _ A W3.heap.size rfl rfl rfl HI.out (Eq.trans (b := 15) rfl HK.out.size.symm) HK.out.one ?_
      | fail)
    refine (HK.out.strip (by trivial) _ _ (heap_alloc_new _ _)).mono ?_
    rintro e W4 ⟨rfl, hB4, hb4⟩
    have hS4 : W4.heap[w.heap.size]? = some (.cells A 29 (0, 0)) := (hb4.block _ (by omega)).trans ((heap_alloc_old _ _ (by omega)).trans HS3.out)
    have HB4 : Hid (Below w.heap.size w W4) := HB3.out.trans (((below1 W3 _).trans hb4).mono HB3.out.size)
    have HS4 : Hid _ := hS4
    have HBB : Hid _ := hB4
    clear hb4 hB4 hS4 r0 HB3 HS3
    go_wp2_with (first
      | refine wpList_load_row rfl 29 _ rfl W3.heap.size rfl 29 A' (0, 0) _ HBB.out Tryz.underlying29 rfl HI'.out ?_
      | fail)
    refine (HK.out.bare (by trivial) _).mono ?_
    rintro e W5 ⟨rfl, hb5⟩
    have hS5 : W5.heap[w.heap.size]? = some (.cells A 29 (0, 0)) := (hb5.block _ (lt_of_heap HS4.out)).trans HS4.out
    have HB5 : Hid (Below w.heap.size w W5) := HB4.out.trans (hb5.mono HB4.out.size)
    have s7 := (cell_row hS5 7).trans h7
    clear hb5 hS5 HB4 HS4 HBB
    cases bb
    · go_wp2
      go_ret
      exact ⟨rfl, HB5.out⟩
    · go_wp2_with fail
      refine (HA.out (by trivial) (by trivial) _ HB5.out).mono ?_
      rintro e W6 ⟨rfl, hb6⟩
      have HB6 : Hid (Below w.heap.size w W6) := HB5.out.trans (hb6.mono HB5.out.size)
      clear hb6 s7
      go_wp2
      go_ret
      exact ⟨rfl, HB6.out⟩
/-- An action that picks. -/
def pickA (v : Value) : Array Value := #[.int .i64 10, .int .i64 0, .int .i64 0, .int .u64 0, .int .u64 0, .int .i64 0, .int .i64 0, .slice none 0 0, v, .int .u64 0, .int .u32 0, .int .u32 0, .int .u32 0, .int .u32 0, .int .u32 0]
theorem pickA_one (a : Option Addr) (n c : Nat) : (pickA (.slice a n c)).all (·.oneCell') = true := by kernel_rfl
def fitB (t : Int × Int) : Bool := t.2 / 65536 == 0
/-- May these ways be? -/
def pickOk (ws : List (Int × Int)) : Bool := ws.all fitB && (decide (0 < ws.length) && decide (ws.length ≤ 64))
theorem all_take {ws : List (Int × Int)} {k : Nat} (hk : k < ws.length) (h : (ws.take k).all fitB = true) : (ws.take (k + 1)).all fitB = fitB (ws[k]'hk) := by
  rw [List.take_succ_eq_append_getElem hk, List.all_append, h]; simp
theorem all_no {ws : List (Int × Int)} {k : Nat} (hk : k < ws.length) (h : fitB (ws[k]'hk) = false) : ws.all fitB = false := by
  rw [List.all_eq_false]; exact ⟨_, List.getElem_mem hk, by simp [h]⟩
set_option maxRecDepth 20000 in
set_option maxHeartbeats 1000000 in
theorem isPick_nil (a : Option Addr) (c : Nat) (w : World) : Calls Tryz.prog 65 #[.agg (pickA (.slice a 0 c))] w fun e w' => e = .returned (.bool false) ∧ Below w.heap.size w w' := by
  unfold pickA
  go_enter Tryz.func65, Tryz.ntmps65
  go_wp2
  go_loopw [8] (fun i wr => i = .int .i64 0 ∧ wr = w.alloc (.cells (pickA (.slice a 0 c)) 29)) (fun _ _ => 0)
  case atStart => exact ⟨rfl, rfl⟩
  case round =>
    obtain ⟨rfl, rfl⟩ := hrel
    unfold pickA
    go_wp2
    go_ret
    exact ⟨rfl, below1 _ _⟩
set_option maxRecDepth 20000 in
set_option maxHeartbeats 2000000 in
theorem isPick_some (b off n c : Nat) (hn : 1 ≤ n) (ws : List (Int × Int)) (w : World) (hW : WS w (some ⟨b, off, none⟩) n ws) : Calls Tryz.prog 65 #[.agg (pickA (.slice (some ⟨b, off, none⟩) n c))] w fun e w' => e = .returned (.bool (pickOk ws)) ∧ Below w.heap.size w w' := by
  have HW : Hid _ := hW
  have hlen := hW.len
  have hroom := hW.room
  clear hW
  obtain ⟨A, hA⟩ : ∃ A, pickA (.slice (some ⟨b, off, none⟩) n c) = A := ⟨_, rfl⟩
  have hA8 : A[8]? = some (.slice (some ⟨b, off, none⟩) n c) := by rw [← hA]; rfl
  rw [hA]
  clear hA
  go_enter Tryz.func65, Tryz.ntmps65
  go_wp2
  go_loopw [8] (fun i wr => ∃ k : Nat, k ≤ n ∧ i = .int .i64 k ∧ Hid ((ws.take k).all fitB = true ∧ wr.heap[w.heap.size]? = some (.cells A 29 (0, 0)) ∧ Below w.heap.size w wr)) (fun i _ => n - (intOf i).toNat)
  case atStart => exact ⟨0, by omega, rfl, rfl, heap_alloc_new _ _, below1 _ _⟩
  case round =>
    obtain ⟨k, hk, rfl, hrel⟩ := hrel
    have HB : Hid _ := hrel.out
    clear hrel
    have c8 := (cell_row HB.out.2.1 8).trans hA8
    by_cases hlt : k < n
    · have hkI : (k : Int) < n := by omega
      have hk0 : (0 : Int) ≤ k := by omega
      have hkl : k < ws.length := by omega
      obtain ⟨⟨t1, t2⟩, ht⟩ : ∃ t, ws[k] = t := ⟨_, rfl⟩
      obtain ⟨b', off', e, hc⟩ := (HW.out.below HB.out.2.2).cells.resolve_left (by omega)
      cases e
      obtain ⟨c0, c1, b0, b1⟩ := hc k (t1, t2) (by rw [List.getElem?_eq_getElem hkl, ht])
      have hfe : fitB ws[k] = (t2 / 65536 == 0) := by rw [ht]; rfl
      have HFE : Hid _ := hfe
      have hltb : b < wr.heap.size := cell_lt c0
      clear hc hfe ht
      go_wp2_with fail
      refine (fits_any t2 _).mono ?_
      rintro e W1 ⟨rfl, rfl⟩
      have hbb : Below w.heap.size w (wr.alloc (.cells #[.int .u32 t1, .int .i64 t2] 61)) := HB.out.2.2.trans ((below1 wr _).mono HB.out.2.2.size)
      have HBB : Hid _ := hbb
      have HA1 : Hid _ := (heap_alloc_old wr (.cells #[.int .u32 t1, .int .i64 t2] 61) (lt_of_heap HB.out.2.1)).trans HB.out.2.1
      clear hbb c0 c1 c8
      cases hf : (t2 / 65536 == 0)
      · have HNO : Hid (pickOk ws = false) := by show _ = _; rw [pickOk, all_no hkl (by rw [HFE.out, hf])]; rfl
        go_wp2
        go_ret
        exact ⟨by rw [HNO.out]; rfl, HBB.out⟩
      · have HYES : Hid _ := (all_take hkl HB.out.1).trans (by rw [HFE.out, hf])
        go_wp2
        go_roundw
        case rel => exact ⟨k + 1, by omega, by go_num, HYES.out, HA1.out, HBB.out⟩
        case measure => simp [intOf]; omega
    · obtain rfl : k = n := by omega
      have hnI : (0 : Int) < k := by omega
      have hall := HB.out.1
      rw [List.take_of_length_le (by omega)] at hall
      by_cases h64 : k ≤ 64
      · have h64I : (k : Int) ≤ 64 := by omega
        have HOK : Hid (pickOk ws = true) := by show _ = _; rw [pickOk, hall, hlen]; simp; omega
        clear hall
        go_wp2
        go_ret
        exact ⟨by rw [HOK.out]; rfl, HB.out.2.2⟩
      · have h64I : 64 < (k : Int) := by omega
        have HOK : Hid (pickOk ws = false) := by show _ = _; rw [pickOk, hall, hlen]; simp; omega
        clear hall
        go_wp2
        go_ret
        exact ⟨by rw [HOK.out]; first | rfl | exact congrArg (fun x => Ending.returned (.bool x)) (by simp; omega), HB.out.2.2⟩
theorem isPick_any {v : Value} {ws : List (Int × Int)} {w : World} (h : WVal w v ws) : Calls Tryz.prog 65 #[.agg (pickA v)] w fun e w' => e = .returned (.bool (pickOk ws)) ∧ Below w.heap.size w w' := by
  obtain ⟨a, n, c, rfl, hc, hW⟩ := h
  by_cases hn : n = 0
  · subst hn
    have e0 : ws = [] := List.length_eq_zero_iff.1 hW.len
    subst e0
    exact isPick_nil a c w
  · rcases hW.cells with h0 | ⟨b, off, rfl, _⟩
    · omega
    · exact isPick_some b off n c (by omega) ws w hW
theorem WVal.below {w w' : World} {v : Value} {ws : List (Int × Int)} (h : WVal w v ws) (hb : Below w.heap.size w w') : WVal w' v ws := by
  obtain ⟨a, n, c, rfl, hc, hW⟩ := h
  exact ⟨a, n, c, rfl, hc, hW.below hb⟩
theorem kind10 {v : Value} {ws : List (Int × Int)} {w : World} (h : WVal w v ws) : KindAt w (pickA v) (leafA 10) 64 65 (pickOk ws) true where
  size := rfl
  size' := rfl
  one := by obtain ⟨a, n, c, rfl, _, _⟩ := h; exact pickA_one a n c
  callR := fun args W => by simp [go_sem]
  callS := fun args W => by simp [go_sem]
  right := fun _ hW => isPick_any (h.below hW)
  strip := fun _ W b h => (strip_ways b W _ (cell_row h 8) (frozen_of_row W b 8 _ _ h)).mono fun e W' ⟨he, hw⟩ => ⟨he, by rw [hw]; exact row_setCell h 8 _, by rw [hw]; exact (Below.refl b W).setCell (Nat.le_refl _) _⟩
  bare := fun _ W => isBare_yes 10 none none 0 0 W
theorem right_pick {v : Value} {ws : List (Int × Int)} {w : World} (h : WVal w v ws) : Calls Tryz.prog 20 #[.agg (pickA v), .int .i64 0] w fun e w' => e = .returned (.bool (pickOk ws)) ∧ Below w.heap.size w w' := by
  have := isRight_at 10 (by omega) (pickA v) (leafA 10) 64 65 (fnV 66) (pickOk ws) true true 0 (by omega) (by omega) none 0 0 w (by kernel_rfl) rfl rfl (kind10 h) (fun _ _ W _ => (areRight_nil none 0 (0 + 1) W).mono fun e W' ⟨he, hw⟩ => ⟨he, by rw [hw]; exact Below.refl _ _⟩)
  simpa using this
theorem check_pick {v : Value} {ws : List (Int × Int)} {w : World} (h : WVal w v ws) : Calls Tryz.prog 10 #[.agg (pickA v)] w fun e w' => e = .returned (.int .i64 (if pickOk ws then 0 else 110)) ∧ Below w.heap.size w w' :=
  check_gen (pickA v) rfl (pickOk ws) w (fun _ hW => right_pick (h.below hW))
end Go.Proofs.YtikbjckcnidimaaGreatDoor
