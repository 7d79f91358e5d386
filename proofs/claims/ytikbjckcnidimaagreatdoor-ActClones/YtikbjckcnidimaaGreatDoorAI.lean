/- The law ActHops, but for its frame. Conditions: the State's cells are of their kinds. -/
import Derived.Test.YtikbjckcnidimaaGreatDoorAH
import Derived.Test.YtikbjckcnidimaaGreatDoorFY
namespace Go.Proofs.YtikbjckcnidimaaGreatDoor
open Go.RowKit
/-- A State with another time to live. -/
def ttlC (cs : Array Value) (t : Int) : Array Value := cs.setIfInBounds 15 (.int .i64 t)
theorem ttl_st {cs : Array Value} (h : St cs) (t : Int) (h1 : -9223372036854775808 ≤ t) (h2 : t ≤ 9223372036854775807) : St (ttlC cs t) :=
  st_put h 15 (.int .i64 t) (by decide) rfl (fun h => absurd h (by decide)) (fun _ => ⟨t, rfl, h1, h2⟩) (fun h => absurd h (by decide)) (fun h => absurd h (by decide)) (fun h => absurd h (by decide))
theorem ttl_15 {cs : Array Value} (h : St cs) (t : Int) : (ttlC cs t)[15]? = some (.int .i64 t) := Array.getElem?_setIfInBounds_self_of_lt (by rw [h.size]; decide)
theorem ttl_11 (cs : Array Value) (t : Int) : (ttlC cs t)[11]? = cs[11]? := Array.getElem?_setIfInBounds_ne (by decide)
theorem ttl_ttl (cs : Array Value) (t u : Int) : (ttlC cs t).setIfInBounds 15 (.int .i64 u) = ttlC cs u := by
  unfold ttlC
  apply Array.ext_getElem?
  intro i
  by_cases e : 15 = i
  · subst e; simp [Array.getElem?_setIfInBounds]
  · rw [Array.getElem?_setIfInBounds_ne e, Array.getElem?_setIfInBounds_ne e, Array.getElem?_setIfInBounds_ne e]
theorem ttl_self {cs : Array Value} {t : Int} (h : cs[15]? = some (.int .i64 t)) : ttlC cs t = cs := by
  unfold ttlC
  apply Array.ext_getElem?
  intro i
  by_cases e : 15 = i
  · subst e; rw [Array.getElem?_setIfInBounds_self_of_lt (Array.getElem?_eq_some_iff.1 h).1, h]
  · rw [Array.getElem?_setIfInBounds_ne e]
theorem wpList_build_want {P : Program} {ops : Array Oper} {rest : List Oper} {op : Oper} {a : Act} {w : World} {Q : Exit → Act → World → Prop} (hw : Region.wanted op (yielded ops a.tmps) = true) (t : TypeId) (parts : Array (Nat × Operand)) (ho : op.op = .build t parts)
    (cells : Array Value) (hc : P.built t (parts.map fun (i, x) => (i, a.eval x)).toList = some cells)
    (h : wpList P ops Q rest (a.put op.dst (.agg cells)) w) : wpList P ops Q (op :: rest) a w := by
  refine BigFrame.wpList_want hw fun K hK => ?_
  unfold Oper.wp execOp
  simp only [ho, Sem.run_bind, run_build w t _ cells hc, Result.andThen_ok]
  exact hK _ _ h
set_option maxRecDepth 20000 in
set_option maxHeartbeats 4000000 in
theorem hops_any (cs : Array Value) (hst : St cs) (w : World) : Calls Tryz.prog 7 #[.agg cs] w fun e w' => e = .returned (.bool true) ∧ Below w.heap.size w w' := by
  obtain ⟨b, hb⟩ := hst.bool 11 (by decide)
  obtain ⟨t, ht, t1, t2⟩ := hst.i64 15 (by decide)
  have HST : Hid _ := hst
  have HI : Hid _ := info_size hst.size
  clear hst
  go_enter Tryz.func7, Tryz.ntmps7
  go_wp2_with fail
  refine (lives_any _).mono ?_
  rintro e W1 ⟨rfl, hb1⟩
  have HS1 : Hid (W1.heap[w.heap.size]? = some (.cells cs 50 (0, 0))) := (hb1.block _ (by simp)).trans (heap_alloc_new _ _)
  have HB1 : Hid (Below w.heap.size w W1) := (below1 w _).trans (hb1.mono (by simp))
  have hz1 : w.heap.size < W1.heap.size := lt_of_heap HS1.out
  clear hb1
  go_wp2_with (first
    | refine wpList_load_row rfl 50 _ rfl w.heap.size rfl 50 cs (0, 0) _ HS1.out Tryz.underlying50 rfl HI.out ?_
    | refine wpList_store_new rfl 50 _ _ rfl _ cs W1.heap.size rfl rfl rfl HI.out (Eq.trans (b := 49) rfl HST.out.size.symm) HST.out.one ?_
    | fail)
  go_loopw [4] (fun i wr => ∃ k : Nat, k ≤ 300 ∧ i = .int .i64 k ∧ Hid (wr.heap[w.heap.size]? = some (.cells cs 50 (0, 0)) ∧ wr.heap[W1.heap.size]? = some (.cells (ttlC cs (t - k)) 50 (0, 0)) ∧ Below w.heap.size w wr) ∧ (k = 0 ∨ (b = true ∧ 1 ≤ t - k))) (fun i _ => 300 - (intOf i).toNat)
  case atStart =>
    refine ⟨0, by omega, rfl, ⟨(heap_alloc_old _ _ hz1).trans HS1.out, ?_, HB1.out.trans ((below1 W1 _).mono HB1.out.size)⟩, .inl rfl⟩
    rw [show t - ((0 : Nat) : Int) = t by omega, ttl_self ht]; exact heap_alloc_new _ _
  case round =>
    obtain ⟨k, hk, rfl, hrel, hinv⟩ := hrel
    have hu1 : -9223372036854775808 ≤ t - k := by omega
    have hu2 : t - k ≤ 9223372036854775807 := by omega
    obtain ⟨u, hu⟩ : ∃ u : Int, t - k = u := ⟨_, rfl⟩
    rw [hu] at hrel hinv hu1 hu2
    have hXs := ttl_st HST.out u hu1 hu2
    have hX11 := (ttl_11 cs u).trans hb
    have hX15 := ttl_15 HST.out u
    have hXX : ∀ v : Int, (ttlC cs v).setIfInBounds 15 (.int .i64 u) = ttlC cs u := fun v => ttl_ttl cs v u
    have hXY : (ttlC cs u).setIfInBounds 15 (.int .i64 (u - 1)) = ttlC cs (u - 1) := ttl_ttl cs u (u - 1)
    have hY15 := ttl_15 HST.out (u - 1)
    have HU : Hid _ := hu
    obtain ⟨X, hX⟩ : ∃ X, ttlC cs u = X := ⟨_, rfl⟩
    obtain ⟨Y, hY⟩ : ∃ Y, ttlC cs (u - 1) = Y := ⟨_, rfl⟩
    have hYs : 2 ≤ u → St Y := fun h => by rw [← hY]; exact ttl_st HST.out (u - 1) (by omega) (by omega)
    rw [hX] at hrel hXs hX11 hX15 hXY
    rw [hY] at hXY hY15
    have hYX := hXX (u - 1)
    rw [hX, hY] at hYX
    have HXI : Hid _ := info_size hXs.size
    have HXS : Hid _ := hXs
    have HYS : Hid _ := hYs
    have HXY : Hid _ := hXY
    have HYE : Hid _ := hY
    have HR : Hid _ := hrel.out
    clear hrel hu hX hY hXs hXX hXY hYs
    by_cases hlt : k < 300
    · have hkI : (k : Int) < 300 := by omega
      have eb := boolAt_of hX11
      have et := numAt_of hX15
      cases b
      · have e1 : hopE X = 81 := by simp [hopE, eb]
        have e2 : hopR X = zeroC := by simp [hopR, e1]
        have HE1 : Hid _ := e1
        have HE2 : Hid _ := e2
        have hc0 : ∀ W : World, W.heap[w.heap.size]? = some (.cells cs 50 (0, 0)) → W.cell? ⟨w.heap.size, 11, none⟩ = some (.bool false) := fun W h => (cell_row h 11).trans hb
        have HC0 : Hid _ := hc0
        obtain ⟨Z, hZ⟩ : ∃ Z, Z = zeroC := ⟨_, rfl⟩
        have hzs : St Z := by rw [hZ]; exact zeroSt
        have HZ : Hid _ := hZ
        have HZS : Hid _ := hzs
        have heq := fun W => eq_state hzs W
        clear e1 e2 eb et hX11 hX15 hY15 hYX hinv hc0 hZ hzs
        go_wp2_with (first
          | refine wpList_load_row rfl 50 _ rfl W1.heap.size rfl 50 X (0, 0) _ HR.out.2.1 Tryz.underlying50 rfl HXI.out ?_
          | fail)
        refine (step_hop X HXS.out _).mono ?_
        rw [HE1.out, HE2.out, ← HZ.out]
        rintro e W3 ⟨rfl, hb3⟩
        have h30 : W3.heap[w.heap.size]? = some (.cells cs 50 (0, 0)) := (hb3.block _ (lt_of_heap HR.out.1)).trans HR.out.1
        have hz3 : w.heap.size < W3.heap.size := lt_of_heap h30
        have c11 := HC0.out W3 h30
        have HB3 : Hid (Below w.heap.size w W3) := HR.out.2.2.trans (hb3.mono HR.out.2.2.size)
        have HZN : Hid _ := heap_alloc_new W3 (.cells Z 50)
        have hbz : Tryz.prog.built 50 [] = some Z := by rw [HZ.out]; kernel_rfl
        have HBZ : Hid _ := hbz
        clear hb3 h30 hbz
        go_wp2_with (first
          | refine wpList_store_new rfl 50 _ _ rfl _ Z W3.heap.size rfl rfl rfl (info_size HZS.out.size) (Eq.trans (b := 49) rfl HZS.out.size.symm) HZS.out.one ?_
          | refine wpList_load_want (by rfl) 50 _ rfl W3.heap.size rfl 50 Z (0, 0) _ HZN.out Tryz.underlying50 rfl (info_size HZS.out.size) ?_
          | (refine wpList_build_want (by rfl) 50 _ rfl zeroC (by kernel_rfl) ?_; rw [← HZ.out])
          | fail)
        go_ret
        exact ⟨rfl, HB3.out.trans ((below1 W3 _).mono HB3.out.size)⟩
      · by_cases hl : u < 2
        · have e1 : hopE X = 111 := by simp [hopE, eb, et, hl]
          have e2 : hopR X = zeroC := by simp [hopR, e1]
          have HE1 : Hid _ := e1
          have HE2 : Hid _ := e2
          have hc0 : ∀ W : World, W.heap[w.heap.size]? = some (.cells cs 50 (0, 0)) → W.cell? ⟨w.heap.size, 11, none⟩ = some (.bool true) := fun W h => (cell_row h 11).trans hb
          have hc1 : ∀ W : World, W.heap[W1.heap.size]? = some (.cells X 50 (0, 0)) → W.cell? ⟨W1.heap.size, 15, none⟩ = some (.int .i64 u) := fun W h => (cell_row h 15).trans hX15
          have HC0 : Hid _ := hc0
          have HC1 : Hid _ := hc1
          obtain ⟨Z, hZ⟩ : ∃ Z, Z = zeroC := ⟨_, rfl⟩
          have hzs : St Z := by rw [hZ]; exact zeroSt
          have HZ : Hid _ := hZ
          have HZS : Hid _ := hzs
          have heq := fun W => eq_state hzs W
          clear e1 e2 eb et hX11 hX15 hY15 hYX hinv hc0 hc1 hZ hzs
          go_wp2_with (first
            | refine wpList_load_row rfl 50 _ rfl W1.heap.size rfl 50 X (0, 0) _ HR.out.2.1 Tryz.underlying50 rfl HXI.out ?_
            | fail)
          refine (step_hop X HXS.out _).mono ?_
          rw [HE1.out, HE2.out, ← HZ.out]
          rintro e W3 ⟨rfl, hb3⟩
          have h30 : W3.heap[w.heap.size]? = some (.cells cs 50 (0, 0)) := (hb3.block _ (lt_of_heap HR.out.1)).trans HR.out.1
          have h31 : W3.heap[W1.heap.size]? = some (.cells X 50 (0, 0)) := (hb3.block _ (lt_of_heap HR.out.2.1)).trans HR.out.2.1
          have hz3 : w.heap.size < W3.heap.size := lt_of_heap h30
          have hz31 : W1.heap.size < W3.heap.size := lt_of_heap h31
          have c11 := HC0.out W3 h30
          have c15 := HC1.out W3 h31
          have HB3 : Hid (Below w.heap.size w W3) := HR.out.2.2.trans (hb3.mono HR.out.2.2.size)
          have HZN : Hid _ := heap_alloc_new W3 (.cells Z 50)
          clear hb3 h30 h31
          go_wp2_with (first
            | refine wpList_store_new rfl 50 _ _ rfl _ Z W3.heap.size rfl rfl rfl (info_size HZS.out.size) (Eq.trans (b := 49) rfl HZS.out.size.symm) HZS.out.one ?_
            | refine wpList_load_want (by rfl) 50 _ rfl W3.heap.size rfl 50 Z (0, 0) _ HZN.out Tryz.underlying50 rfl (info_size HZS.out.size) ?_
            | (refine wpList_build_want (by rfl) 50 _ rfl zeroC (by kernel_rfl) ?_; rw [← HZ.out])
            | fail)
          go_ret
          exact ⟨rfl, HB3.out.trans ((below1 W3 _).mono HB3.out.size)⟩
        · have hl2 : 2 ≤ u := by omega
          have e1 : hopE X = 0 := by simp [hopE, eb, et, hl]
          have e2 : hopR X = Y := by simp [hopR, e1, et]; exact HXY.out
          have HE1 : Hid _ := e1
          have HE2 : Hid _ := e2
          have hc0 : ∀ W : World, W.heap[w.heap.size]? = some (.cells cs 50 (0, 0)) → W.cell? ⟨w.heap.size, 11, none⟩ = some (.bool true) := fun W h => (cell_row h 11).trans hb
          have hc1 : ∀ W : World, W.heap[W1.heap.size]? = some (.cells X 50 (0, 0)) → W.cell? ⟨W1.heap.size, 15, none⟩ = some (.int .i64 u) := fun W h => (cell_row h 15).trans hX15
          have HC0 : Hid _ := hc0
          have HC1 : Hid _ := hc1
          have HY : Hid _ := HYS.out hl2
          have hneq := fun W => neq_state HXS.out W
          clear e1 e2 eb et hX11 hX15 hinv hc0 hc1
          go_wp2_with (first
            | refine wpList_load_row rfl 50 _ rfl W1.heap.size rfl 50 X (0, 0) _ HR.out.2.1 Tryz.underlying50 rfl HXI.out ?_
            | fail)
          refine (step_hop X HXS.out _).mono ?_
          rw [HE1.out, HE2.out]
          rintro e W3 ⟨rfl, hb3⟩
          have h30 : W3.heap[w.heap.size]? = some (.cells cs 50 (0, 0)) := (hb3.block _ (lt_of_heap HR.out.1)).trans HR.out.1
          have h31 : W3.heap[W1.heap.size]? = some (.cells X 50 (0, 0)) := (hb3.block _ (lt_of_heap HR.out.2.1)).trans HR.out.2.1
          have hz3 : w.heap.size < W3.heap.size := lt_of_heap h30
          have hz31 : W1.heap.size < W3.heap.size := lt_of_heap h31
          have c11 := HC0.out W3 h30
          have c15 := HC1.out W3 h31
          have f15 := frozen_of_row W3 _ 15 _ _ h31
          have H30 : Hid _ := h30
          have H31 : Hid _ := h31
          have HB3 : Hid (Below w.heap.size w W3) := HR.out.2.2.trans (hb3.mono HR.out.2.2.size)
          have HXN : Hid _ := heap_alloc_new W3 (.cells X 50)
          have HX1 : Hid _ := (heap_alloc_old W3 (.cells X 50) hz31).trans h31
          clear hb3 h30 h31
          go_wp2_with (first
            | refine wpList_store_new rfl 50 _ _ rfl _ Y W3.heap.size rfl rfl rfl (info_size HY.out.size) (Eq.trans (b := 49) rfl HY.out.size.symm) HY.out.one ?_
            | refine wpList_load_row rfl 50 _ rfl W3.heap.size rfl 50 X (0, 0) _ HXN.out Tryz.underlying50 rfl HXI.out ?_
            | refine wpList_load_row rfl 50 _ rfl W1.heap.size rfl 50 X (0, 0) _ HX1.out Tryz.underlying50 rfl HXI.out ?_
            | fail)
          go_roundw
          case rel =>
            have es : (W3.setCell ⟨W1.heap.size, 15, none⟩ (.int .i64 (u - 1))).heap.size = W3.heap.size := by simp [World.setCell]
            refine ⟨k + 1, by omega, by go_num, ⟨?_, ?_, ?_⟩, .inr ⟨by trivial, by have := HU.out; omega⟩⟩
            · exact (heap_alloc_old _ _ (by omega)).trans ((Below.heap_setCell _ _ _ _ (by show w.heap.size ≠ W1.heap.size; omega)).trans H30.out)
            · refine (heap_alloc_old _ _ (by omega)).trans ((row_setCell H31.out 15 _).trans ?_)
              rw [HXY.out, ← HYE.out, show t - ((k + 1 : Nat) : Int) = u - 1 by have := HU.out; omega]
            · exact (HB3.out.setCell (show w.heap.size ≤ W1.heap.size by omega) _).alloc (by rw [es]; omega) _
          case measure => simp [intOf]; omega
    · obtain rfl : k = 300 := by omega
      have h0 := (cell_row HR.out.1 15).trans ht
      have h255 : 255 < t := by have := HU.out; omega
      go_wp2
      go_ret
      exact ⟨rfl, HR.out.2.2⟩
end Go.Proofs.YtikbjckcnidimaaGreatDoor
