/- Step of ActPick. Conditions: the State's cells are of their kinds; the ways can be read. -/
import Derived.Test.YtikbjckcnidimaaGreatDoorPD
import Derived.Test.YtikbjckcnidimaaGreatDoorFZ
namespace Go.Proofs.YtikbjckcnidimaaGreatDoor
open Go.RowKit
set_option maxRecDepth 20000 in
set_option maxHeartbeats 1000000 in
theorem step_refuse (k : Nat) (hk : k < 15) (A cs : Array Value) (a b : Value) (g : Nat) (hrow : tabC.extract (k * 3) (k * 3 + 3) = #[a, b, fnV g]) (h0 : A[0]? = some (.int .i64 k)) (hA : A.size = 15) (w : World)
    (hcheck : ∀ W, Below w.heap.size w W → Calls Tryz.prog 10 #[.agg A] W fun e W' => e = .returned (.int .i64 110) ∧ Below W.heap.size W W') :
    Calls Tryz.prog 16 #[.agg cs, .agg A] w fun e w' => e = .returned (.tuple #[.agg zeroC, .int .i64 110]) ∧ Below w.heap.size w w' := by
  have HIA : Hid _ := info15 hA
  have HROW : Hid _ := hrow
  have HC : Hid _ := hcheck
  have HA3 : Hid _ := (heap_alloc_old ((w.alloc (.cells cs 50)).alloc (.cells A 29)) (.cells zeroC 50) (by simp)).trans (two_last w (.cells cs 50) (.cells A 29))
  have HZ3 : Hid _ := three_last w (.cells cs 50) (.cells A 29) (.cells zeroC 50)
  clear hrow hcheck hA
  go_enter Tryz.func16, Tryz.ntmps16
  go_wp2_with fail
  refine (pure_gen k hk _ _ _ HROW.out _).mono ?_
  rintro e W1 ⟨rfl, hb1⟩
  have HA1 : Hid (W1.heap[w.heap.size + 1]? = some (.cells A 29 (0, 0))) := (hb1.block _ (by simp)).trans HA3.out
  have HZ1 : Hid (W1.heap[w.heap.size + 1 + 1]? = some (.cells zeroC 50 (0, 0))) := (hb1.block _ (by simp)).trans HZ3.out
  have HB1 : Hid (Below w.heap.size w W1) := (below3 w _ _ _).trans (hb1.mono (by simp; omega))
  clear hb1 HA3 HZ3
  go_wp2_with (first
    | refine wpList_load_want (by rfl) 29 _ rfl (w.heap.size + 1) rfl 29 A (0, 0) _ HA1.out Tryz.underlying29 rfl HIA.out ?_
    | fail)
  refine (HC.out _ HB1.out).mono ?_
  rintro e W2 ⟨rfl, hb2⟩
  have HZ2 : Hid _ := (hb2.block _ (lt_of_heap HZ1.out)).trans HZ1.out
  have HB2 : Hid (Below w.heap.size w W2) := HB1.out.trans (hb2.mono HB1.out.size)
  clear hb2
  go_wp2_with (first
    | refine wpList_build_as rfl 50 _ rfl zeroC (by kernel_rfl) ?_
    | refine wpList_store_row rfl 50 _ _ rfl (w.heap.size + 1 + 1) zeroC zeroC 50 rfl rfl HZ2.out size49 rfl zeroC_one ?_
    | fail)
  intro W9 z1 z2 z3 z4
  go_wp2
  exact bodyPost_ret (results_state (p := 4) (u := 5) rfl _ _ (w.heap.size + 1 + 1) zeroC rfl z1 zeroC_size) rfl ⟨rfl, HB2.out.trans (z4.mono (by omega))⟩
/-- Which way, and what ActPick answers. -/
def pickJ (cs : Array Value) (ws : List (Int × Int)) : Nat := (flowC cs).toNat % ws.length
def pickW (cs : Array Value) (ws : List (Int × Int)) : Int × Int := ws.getD (pickJ cs ws) (0, 0)
def pickE (cs : Array Value) (ws : List (Int × Int)) : Int := if pickOk ws then (if hasF 19 cs then 0 else 81) else 110
def pickR (cs : Array Value) (ws : List (Int × Int)) : Array Value := if pickE cs ws = 0 then wayC cs (pickW cs ws).1 (pickW cs ws).2 else zeroC
theorem pickW_get {cs : Array Value} {ws : List (Int × Int)} (h : 0 < ws.length) : ws[pickJ cs ws]? = some (pickW cs ws) := by
  have hj : pickJ cs ws < ws.length := Nat.mod_lt _ h
  unfold pickW
  rw [List.getD_eq_getElem?_getD, List.getElem?_eq_getElem hj]; rfl
theorem pickOk_len {ws : List (Int × Int)} (h : pickOk ws = true) : 0 < ws.length ∧ ws.length ≤ 64 := by
  simp only [pickOk, Bool.and_eq_true, decide_eq_true_eq] at h
  exact h.2
theorem pickW_bd {cs : Array Value} {w : World} {a : Option Addr} {n : Nat} {ws : List (Int × Int)} (h : WS w a n ws) (hn : 0 < n) : (0 ≤ (pickW cs ws).1 ∧ (pickW cs ws).1 ≤ 4294967295) ∧ -9223372036854775808 ≤ (pickW cs ws).2 ∧ (pickW cs ws).2 ≤ 9223372036854775807 := by
  obtain ⟨b, off, _, hc⟩ := h.cells.resolve_left (by omega)
  exact (hc _ _ (pickW_get (by rw [h.len]; exact hn))).2.2
theorem step_pick {cs : Array Value} (hst : St cs) {v : Value} {ws : List (Int × Int)} {w : World} (h : WVal w v ws) : Calls Tryz.prog 16 #[.agg cs, .agg (pickA v)] w fun e w' => e = .returned (.tuple #[.agg (pickR cs ws), .int .i64 (pickE cs ws)]) ∧ Below w.heap.size w w' := by
  cases hp : pickOk ws
  · have e1 : pickE cs ws = 110 := by simp [pickE, hp]
    have e2 : pickR cs ws = zeroC := by simp [pickR, e1]
    rw [e1, e2]
    exact step_refuse 10 (by omega) (pickA v) cs (fnV 64) (fnV 65) 66 (by kernel_rfl) rfl rfl w (fun W hW => by
      have := check_pick (h.below hW)
      rw [hp] at this
      exact this)
  · have hck : ∀ W, Below w.heap.size w W → Calls Tryz.prog 10 #[.agg (pickA v)] W fun e W' => e = .returned (.int .i64 0) ∧ Below W.heap.size W W' := fun W hW => by
      have := check_pick (h.below hW)
      rw [hp] at this
      exact this
    cases hh : hasF 19 cs
    · have e1 : pickE cs ws = 81 := by simp [pickE, hp, hh]
      have e2 : pickR cs ws = zeroC := by simp [pickR, e1]
      rw [e1, e2]
      exact step_gen 10 (by omega) (pickA v) cs zeroC 81 (fnV 64) (fnV 65) 66 (by kernel_rfl) rfl rfl hst.size zeroC_size zeroC_one w (fun args W => by simp [go_sem]) hck (fun W _ => pick_no _ cs hst hh W)
    · have e1 : pickE cs ws = 0 := by simp [pickE, hp, hh]
      have e2 : pickR cs ws = wayC cs (pickW cs ws).1 (pickW cs ws).2 := by simp [pickR, e1]
      rw [e1, e2]
      obtain ⟨l1, l2⟩ := pickOk_len hp
      obtain ⟨a, n, c, rfl, hnc, hW⟩ := h
      have hl := hW.len
      have bd := pickW_bd (cs := cs) hW (by omega)
      have hs2 := way_st hst (pickW cs ws).1 (pickW cs ws).2 bd.1 bd.2
      obtain ⟨b, off, rfl, _⟩ := hW.cells.resolve_left (by omega)
      exact step_gen 10 (by omega) (pickA (.slice (some ⟨b, off, none⟩) n c)) cs _ 0 (fnV 64) (fnV 65) 66 (by kernel_rfl) rfl rfl hst.size hs2.size hs2.one w (fun args W => by simp [go_sem]) hck (fun W hWW => pick_yes cs hst hh b off n c ws (by omega) (by omega) (pickJ cs ws) (pickW cs ws).1 (pickW cs ws).2 (by rw [← hl]; rfl) (pickW_get l1) W (hW.below hWW))
end Go.Proofs.YtikbjckcnidimaaGreatDoor
