/- CtExpires: Look of a packet without a tuple. Conditions: as said. -/
import Derived.Test.YtjjehncnjcepkaaCV
namespace Go.Proofs.Ytjjehncnjcepkaa
open Go.RowKit
theorem zero_built9 : Try.prog.built 46 [] = some zeroC := by kernel_rfl
set_option linter.unusedSimpArgs false in
set_option maxRecDepth 20000 in
set_option maxHeartbeats 4000000 in
theorem look_noT (tb zb : Nat) (room clock z : Int) (hz0 : 0 ≤ z) (hz1 : z ≤ 65535) (q : Value) (cs ps : Array Value) (hps : cs.extract 0 (0 + 36) = ps) {ip : Bool} {fr pr src dst k ty co re sp dp : Int} (hp : Pk ps ip fr pr src dst k ty co re sp dp) (hT : hasT ip fr k ty co = false)
    (w : World) (h : w.heap[tb]? = some (.cells (tabV room clock zb q) 65 (0, 0))) :
    Calls Try.prog 8 #[.pointer (some ⟨tb, 0, none⟩), .int .i64 z, .agg cs] w fun e w' => e = .returned (.tuple #[.agg zeroC, .int .i64 81]) ∧ Below w.heap.size w w' := by
  have HOF : Hid (∀ W, Calls Try.prog 20 #[.agg ps] W fun e w' => e = .returned (.tuple #[.agg (tupC 0 0 0 0 0), .bool false]) ∧ Below W.heap.size W w') := by
    show ∀ W, _
    intro W; exact of_no hp hT W
  obtain ⟨tc, htc⟩ : ∃ tc, tupC 0 0 0 0 0 = tc := ⟨_, rfl⟩
  rw [htc] at HOF
  have htz : tc.size = 5 := by rw [← htc]; rfl
  have hto : tc.all (·.oneCell') = true := by rw [← htc]; exact tup_one _ _ _ _ _
  have HTZ : Hid _ := htz
  have HTO : Hid _ := hto
  have HIT : Hid _ := (show (Try.prog.info? 44).map (·.size) = some tc.size by rw [htz]; exact size5)
  have HPS : Hid _ := hps
  have HP36 : Hid _ := hp.size
  have HTB : Hid _ := h
  have hz9 : zoneE z = 0 := by unfold zoneE; rw [if_neg (by omega), if_neg (by omega)]
  have HZE : Hid _ := hz9
  have hlt : tb < w.heap.size := lt_of_heap h
  have zb9 := zero_built9
  have ZO : Hid _ := zeroC_one
  have ZS : Hid _ := zeroC_size
  have HS2 : Hid _ := two_first w (.cells cs 46) (.cells zeroC 46)
  have HZ2 : Hid _ := two_last w (.cells cs 46) (.cells zeroC 46)
  obtain ⟨Z, hZ⟩ : ∃ Z, zeroC = Z := ⟨_, rfl⟩
  rw [hZ] at zb9 ZO ZS ⊢
  have ZB : Hid _ := zb9
  clear htc htz hto hps hp hT h hz9 hZ zb9
  go_enter Try.func8, Try.ntmps8
  go_wp2_with fail
  refine (check_any tb zb room clock z q _ ((below2 w _ _).block _ hlt |>.trans HTB.out)).mono ?_
  rw [HZE.out]
  rintro e W0 ⟨rfl, hw0⟩
  rw [hw0]
  clear hw0
  go_wp2_with (first
    | refine wpList_load_as rfl 41 _ rfl w.heap.size 0 36 rfl cs ps 46 _ HS2.out Try.underlying41 rfl HPS.out HP36.out size36 ?_
    | fail)
  refine (HOF.out _).mono ?_
  rintro e W1 ⟨rfl, hb1⟩
  have HZ1 : Hid (W1.heap[w.heap.size + 1]? = some (.cells zeroC 46 (0, 0))) := (hb1.block _ (by simp)).trans HZ2.out
  have hlt1 : w.heap.size + 1 < W1.heap.size := lt_of_heap HZ1.out
  have HB1 : Hid (Below w.heap.size w W1) := (below2 w _ _).trans (hb1.mono (by simp; omega))
  have HZ3 : Hid _ := (heap_alloc_old W1 (.cells tc 44) hlt1).trans HZ1.out
  have HB3 : Hid _ := HB1.out.trans ((below1 W1 (.cells tc 44)).mono HB1.out.size)
  clear hb1
  go_wp2_with (first
    | refine wpList_store_new rfl 44 _ _ rfl _ tc W1.heap.size rfl rfl rfl HIT.out (Eq.trans (b := 5) rfl HTZ.out.symm) HTO.out ?_
    | refine wpList_build_as rfl 46 _ rfl Z (by rw [List.map_toArray]; exact ZB.out) ?_
    | refine wpList_store_row rfl 46 _ _ rfl (w.heap.size + 1) zeroC Z 46 rfl rfl HZ3.out (info_size ZS.out) (Eq.trans (b := 49) rfl ZS.out.symm) ZO.out ?_
    | fail)
  intro W8 y1 y2 y3 y4
  go_wp2
  exact bodyPost_ret (results_state (p := 6) (u := 7) rfl _ _ (w.heap.size + 1) _ rfl y1 ZS.out) rfl ⟨rfl, HB3.out.trans (y4.mono (by omega))⟩
end Go.Proofs.Ytjjehncnjcepkaa
