/- lives of the laws of act answers true. No condition. -/
import Derived.Test.YtikbjckcnidimaaGreatDoorAG
namespace Go.Proofs.YtikbjckcnidimaaGreatDoor
open Go.RowKit
theorem kind11 : KindOf arpA (leafA 11) 67 68 true true where
  size := rfl
  size' := rfl
  one := by kernel_rfl
  callR := fun args W => by simp [go_sem]
  callS := fun args W => by simp [go_sem]
  right := fun W => isMac_any 11 0 0 9 0 0 0 (.slice none 0 0) (.slice none 0 0) 0 0 0 0 0 0 W
  strip := fun _ W b h => (strip_value b W _ (cell_row h 3) (frozen_of_row W b 3 _ _ h)).mono fun e W' ⟨he, hw⟩ => ⟨he, by rw [hw]; exact row_setCell h 3 _, by rw [hw]; exact (Below.refl b W).setCell (Nat.le_refl _) _⟩
  bare := fun _ W => isBare_yes 11 none none 0 0 W
theorem right_arp (w : World) : Calls Tryz.prog 20 #[.agg arpA, .int .i64 0] w fun e w' => e = .returned (.bool true) ∧ Below w.heap.size w w' :=
  isRight_gen 11 (by omega) arpA (leafA 11) 67 68 (fnV 69) true true true 0 (by omega) (by omega) none 0 0 w (by kernel_rfl) rfl rfl kind11 (fun _ _ W _ => (areRight_nil none 0 (0 + 1) W).mono fun e W' ⟨he, hw⟩ => ⟨he, by rw [hw]; exact Below.refl _ _⟩)
theorem step_arp (w : World) : Calls Tryz.prog 16 #[.agg askC, .agg arpA] w fun e w' => e = .returned (.tuple #[.agg gotC, .int .i64 0]) ∧ Below w.heap.size w w' :=
  step_gen 11 (by omega) arpA askC gotC 0 (fnV 67) (fnV 68) 69 (by kernel_rfl) rfl rfl rfl rfl (by kernel_rfl) w (fun args W => by simp [go_sem]) (fun W _ => check_gen arpA rfl true W (fun W' _ => right_arp W')) (fun W _ => arp_ask W)
theorem step_ask (w : World) : Calls Tryz.prog 16 #[.agg askC, .agg (leafA 3)] w fun e w' => e = .returned (.tuple #[.agg zeroC, .int .i64 81]) ∧ Below w.heap.size w w' :=
  step_gen 3 (by omega) (leafA 3) askC zeroC 81 (fnV 50) (fnV 58) 59 (by kernel_rfl) rfl rfl rfl zeroC_size zeroC_one w (fun args W => by simp [go_sem]) (fun W _ => check_hop W) (fun W _ => hop_no _ askC rfl W)
set_option maxRecDepth 20000 in
set_option maxHeartbeats 1000000 in
theorem right_none (A : Array Value) (k : Nat) (hk : k < 15) (h0 : A[0]? = some (.int .i64 k)) (hrow : tabC.extract (k * 3) (k * 3 + 3) = #[.nilFunc, .nilFunc, .nilFunc]) (d : Int) (hd : d ≤ 4) (w : World) :
    Calls Tryz.prog 20 #[.agg A, .int .i64 d] w fun e w' => e = .returned (.bool false) ∧ Below w.heap.size w w' := by
  have HROW : Hid _ := hrow
  have hdf : decide (4 < d) = false := by simp; omega
  clear hrow
  go_enter Tryz.func20, Tryz.ntmps20
  go_wp2_with fail
  refine (arow_lit k hk _ _ _ HROW.out _).mono ?_
  rintro e W1 ⟨rfl, hb1⟩
  have HB1 : Hid (Below w.heap.size w W1) := (below1 w _).trans (hb1.mono (by simp))
  clear hb1
  go_wp2_with fail
  refine (isKind_no _ _ _).mono ?_
  rintro e W2 ⟨rfl, hb2⟩
  have HB2 : Hid (Below w.heap.size w W2) := HB1.out.trans (((below1 W1 _).trans (hb2.mono (by simp))).mono HB1.out.size)
  clear hb2
  go_wp2
  go_ret
  exact ⟨rfl, HB2.out⟩
theorem check_none (w : World) : Calls Tryz.prog 10 #[.agg (leafA 0)] w fun e w' => e = .returned (.int .i64 110) ∧ Below w.heap.size w w' :=
  check_gen (leafA 0) rfl false w (fun W _ => right_none (leafA 0) 0 (by omega) rfl (by kernel_rfl) 0 (by omega) W)
theorem wpList_load_atw {P : Program} {ops : Array Oper} {rest : List Oper} {op : Oper} {a : Act} {w : World} {Q : Exit → Act → World → Prop} (hw : Region.wanted op (yielded ops a.tmps) = true) (ty : TypeId) (x : Operand) (ho : op.op = .load ty x)
    (g o n : Nat) (hx : a.eval x = .pointer (some ⟨g, o, none⟩)) (cs L : Array Value) (t : TypeId) (d : TypeDesc) (hg : w.heap[g]? = some (.cells cs t (0, 0)))
    (hu : P.underlying ty = some d) (hd : d.isRow = true) (hL : cs.extract o (o + n) = L) (hn : L.size = n) (hi : (P.info? ty).map (·.size) = some n)
    (h : wpList P ops Q rest (a.put op.dst (.agg L)) w) : wpList P ops Q (op :: rest) a w := by
  subst hL
  have hr := World.rangeAt_of_block hg o n
  refine BigFrame.wpList_want hw fun K hK => ?_
  refine wp_load_mid ty x ho g o hx (cs.extract o (o + n)).toList d hr hu hd (by rw [Array.length_toList, hn]; exact hi) ?_
  rw [Array.toArray_toList]
  exact hK _ _ h
set_option maxRecDepth 20000 in
set_option maxHeartbeats 1000000 in
theorem lives_any (w : World) : Calls Tryz.prog 9 #[] w fun e w' => e = .returned (.bool true) ∧ Below w.heap.size w w' := by
  obtain ⟨C, hC⟩ : ∃ C, C = askC := ⟨_, rfl⟩
  obtain ⟨G, hG⟩ : ∃ G, G = gotC := ⟨_, rfl⟩
  have HC : Hid _ := hC
  have HG : Hid _ := hG
  have hc49 : C.size = 49 := by rw [hC]; rfl
  have HC49 : Hid _ := hc49
  have hg49 : G.size = 49 := by rw [hG]; rfl
  have HG49 : Hid _ := hg49
  have HCI : Hid _ := info_size HC49.out
  have HGI : Hid _ := info_size HG49.out
  have hc1 : C.all (·.oneCell') = true := by rw [hC]; kernel_rfl
  have HC1 : Hid _ := hc1
  have hg1 : G.all (·.oneCell') = true := by rw [hG]; kernel_rfl
  have HG1 : Hid _ := hg1
  have hcb : Tryz.prog.built 50 [(0, .agg askP)] = some C := by rw [hC]; kernel_rfl
  have HCB : Hid _ := hcb
  have hge : G.extract 6 (6 + 5) = #[.int .i64 2, .int .u64 9, .int .u32 7, .int .u64 5, .int .u32 6] := by rw [hG]; kernel_rfl
  have HGE : Hid _ := hge
  have hg0 : G[0]? = some (.int .u64 5) := by rw [hG]; rfl
  have HG0 : Hid _ := hg0
  clear hC hG hc49 hg49 hc1 hg1 hcb hge hg0
  have HSN : Hid _ := heap_alloc_new w (.cells C 50)
  go_enter Tryz.func9, Tryz.ntmps9
  go_wp2_with (first
    | refine wpList_build_as rfl 45 _ rfl askP (by kernel_rfl) ?_
    | (refine wpList_build_as rfl 50 _ rfl askC (by kernel_rfl) ?_; rw [← HC.out])
    | refine wpList_store_new rfl 50 _ _ rfl _ C w.heap.size rfl rfl rfl HCI.out (Eq.trans (b := 49) rfl HC49.out.symm) HC1.out ?_
    | refine wpList_load_row rfl 50 _ rfl w.heap.size rfl 50 C (0, 0) _ HSN.out Tryz.underlying50 rfl HCI.out ?_
    | fail)
  rw [HC.out]
  refine (step_arp _).mono ?_
  rw [← HC.out, ← HG.out]
  rintro e W1 ⟨rfl, hb1⟩
  have HS1 : Hid (W1.heap[w.heap.size]? = some (.cells C 50 (0, 0))) := (hb1.block _ (by simp)).trans HSN.out
  have HB1 : Hid (Below w.heap.size w W1) := (below1 w _).trans (hb1.mono (by simp))
  clear hb1
  have hz1 : w.heap.size < W1.heap.size := lt_of_heap HS1.out
  have HS1' : Hid _ := (heap_alloc_old W1 (.cells G 50) hz1).trans HS1.out
  go_wp2_with (first
    | refine wpList_store_new rfl 50 _ _ rfl _ G W1.heap.size rfl rfl rfl HGI.out (Eq.trans (b := 49) rfl HG49.out.symm) HG1.out ?_
    | refine wpList_load_row rfl 50 _ rfl w.heap.size rfl 50 C (0, 0) _ HS1'.out Tryz.underlying50 rfl HCI.out ?_
    | fail)
  rw [HC.out]
  refine (step_ask _).mono ?_
  rw [← HC.out]
  rintro e W2 ⟨rfl, hb2⟩
  have hG2 : W2.heap[W1.heap.size]? = some (.cells G 50 (0, 0)) := (hb2.block _ (by simp)).trans (heap_alloc_new _ _)
  have HB2 : Hid (Below w.heap.size w W2) := HB1.out.trans (((below1 W1 _).trans (hb2.mono (by simp))).mono HB1.out.size)
  have hz2 : W1.heap.size < W2.heap.size := lt_of_heap hG2
  obtain ⟨Z, hZ⟩ : ∃ Z, Z = zeroC := ⟨_, rfl⟩
  have HZ : Hid _ := hZ
  have hzs : Z.size = 49 := by rw [hZ]; rfl
  have HZ49 : Hid _ := hzs
  have HZI : Hid _ := info_size hzs
  have hzo : Z.all (·.oneCell') = true := by rw [hZ]; exact zeroC_one
  have HZ1 : Hid _ := hzo
  have HG2' : Hid _ := (heap_alloc_old W2 (.cells Z 50) hz2).trans hG2
  have c0 := (cell_row hG2 0).trans HG0.out
  rw [← hZ]
  clear hb2 hG2 hZ hzs hzo HS1 HS1'
  go_wp2_with (first
    | refine wpList_store_new rfl 50 _ _ rfl _ Z W2.heap.size rfl rfl rfl HZI.out (Eq.trans (b := 49) rfl HZ49.out.symm) HZ1.out ?_
    | refine wpList_load_atw (by rfl) 39 _ rfl W1.heap.size 6 5 rfl G #[.int .i64 2, .int .u64 9, .int .u32 7, .int .u64 5, .int .u32 6] 50 _ HG2'.out Tryz.underlying39 rfl HGE.out rfl size5 ?_
    | fail)
  refine (check_none _).mono ?_
  rintro e W3 ⟨rfl, hb3⟩
  have HB3 : Hid (Below w.heap.size w W3) := HB2.out.trans (((below1 W2 _).trans (hb3.mono (by simp))).mono HB2.out.size)
  clear hb3
  go_wp2
  go_ret
  exact ⟨rfl, HB3.out⟩
end Go.Proofs.YtikbjckcnidimaaGreatDoor
