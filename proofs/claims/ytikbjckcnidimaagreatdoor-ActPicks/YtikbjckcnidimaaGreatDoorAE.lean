/- ActHop: its Check, its Step. Conditions: the State's cells are of their kinds. -/
import Derived.Test.YtikbjckcnidimaaGreatDoorAD
import Derived.Test.YtikbjckcnidimaaGreatDoorFZ
namespace Go.Proofs.YtikbjckcnidimaaGreatDoor
open Go.RowKit
/-- An action with nothing but its kind. -/
def leafA (k : Int) : Array Value := #[.int .i64 k, .int .i64 0, .int .i64 0, .int .u64 0, .int .u64 0, .int .i64 0, .int .i64 0, .slice none 0 0, .slice none 0 0, .int .u64 0, .int .u32 0, .int .u32 0, .int .u32 0, .int .u32 0, .int .u32 0]
theorem kind3 : KindOf (leafA 3) (leafA 3) 50 58 true true where
  size := rfl
  size' := rfl
  one := by kernel_rfl
  callR := fun args W => by simp [go_sem]
  callS := fun args W => by simp [go_sem]
  right := fun W => isAny_any _ W
  strip := fun _ W b h => (strip_none _ W).mono fun e W' ⟨he, hw⟩ => ⟨he, by rw [hw]; exact h, by rw [hw]; exact Below.refl _ _⟩
  bare := fun _ W => isBare_yes 3 none none 0 0 W
theorem right_hop (d : Int) (hd : d ≤ 4) (hd0 : 0 ≤ d) (w : World) : Calls Tryz.prog 20 #[.agg (leafA 3), .int .i64 d] w fun e w' => e = .returned (.bool true) ∧ Below w.heap.size w w' :=
  isRight_gen 3 (by omega) (leafA 3) (leafA 3) 50 58 (fnV 59) true true true d hd hd0 none 0 0 w (by kernel_rfl) rfl rfl kind3 (fun _ _ W _ => (areRight_nil none 0 (d + 1) W).mono fun e W' ⟨he, hw⟩ => ⟨he, by rw [hw]; exact Below.refl _ _⟩)
theorem check_hop (w : World) : Calls Tryz.prog 10 #[.agg (leafA 3)] w fun e w' => e = .returned (.int .i64 0) ∧ Below w.heap.size w w' :=
  check_gen (leafA 3) rfl true w (fun W _ => right_hop 0 (by omega) (by omega) W)
theorem build_zero (W : World) : (Instr.build 50 #[]).run Tryz.prog W = .ok (.agg zeroC) W := run_build W 50 #[] zeroC (by kernel_rfl)
set_option maxRecDepth 20000 in
set_option maxHeartbeats 1000000 in
theorem hop_no (A cs : Array Value) (h11 : cs[11]? = some (.bool false)) (w : World) : Calls Tryz.prog 59 #[.agg cs, .agg A] w fun e w' => e = .returned (.tuple #[.agg zeroC, .int .i64 81]) ∧ Below w.heap.size w w' := by
  go_enter Tryz.func59, Tryz.ntmps59
  go_wp2_with (first
    | refine wpList_build_as rfl 50 _ rfl zeroC (by kernel_rfl) ?_
    | refine wpList_store_new rfl 50 _ _ rfl _ zeroC (w.heap.size + 1 + 1) (by simp) rfl rfl size49 rfl zeroC_one ?_
    | fail)
  exact bodyPost_ret (results_state (p := 4) (u := 5) rfl _ _ (w.heap.size + 1 + 1) zeroC rfl (three_last _ _ _ _) zeroC_size) rfl ⟨rfl, below3 _ _ _ _⟩
set_option maxRecDepth 20000 in
set_option maxHeartbeats 1000000 in
theorem hop_ttl (A cs : Array Value) (t : Int) (h11 : cs[11]? = some (.bool true)) (h15 : cs[15]? = some (.int .i64 t)) (ht : t < 2) (w : World) : Calls Tryz.prog 59 #[.agg cs, .agg A] w fun e w' => e = .returned (.tuple #[.agg zeroC, .int .i64 111]) ∧ Below w.heap.size w w' := by
  go_enter Tryz.func59, Tryz.ntmps59
  go_wp2_with (first
    | refine wpList_build_as rfl 50 _ rfl zeroC (by kernel_rfl) ?_
    | refine wpList_store_new rfl 50 _ _ rfl _ zeroC (w.heap.size + 1 + 1) (by simp) rfl rfl size49 rfl zeroC_one ?_
    | fail)
  exact bodyPost_ret (results_state (p := 4) (u := 5) rfl _ _ (w.heap.size + 1 + 1) zeroC rfl (three_last _ _ _ _) zeroC_size) rfl ⟨rfl, below3 _ _ _ _⟩
set_option maxRecDepth 20000 in
set_option maxHeartbeats 1000000 in
theorem hop_yes (A cs : Array Value) (hst : St cs) (t : Int) (h11 : cs[11]? = some (.bool true)) (h15 : cs[15]? = some (.int .i64 t)) (ht : 2 ≤ t) (ht2 : t ≤ 9223372036854775807) (w : World) : Calls Tryz.prog 59 #[.agg cs, .agg A] w fun e w' => e = .returned (.tuple #[.agg (cs.setIfInBounds 15 (.int .i64 (t - 1))), .int .i64 0]) ∧ Below w.heap.size w w' := by
  have hs' : (cs.setIfInBounds 15 (.int .i64 (t - 1))).size = 49 := by simpa using hst.size
  have HS : Hid _ := hs'
  have HI : Hid _ := info_size hs'
  have H1 : Hid _ := set_one (i := 15) (v := .int .i64 (t - 1)) hst.one rfl
  clear hst hs'
  go_enter Tryz.func59, Tryz.ntmps59
  go_wp2_with (first
    | refine wpList_load_row rfl 50 _ rfl w.heap.size rfl 50 (cs.setIfInBounds 15 (.int .i64 (t - 1))) (0, 0) _ (three_first _ _ _ _) Tryz.underlying50 rfl HI.out ?_
    | refine wpList_store_new rfl 50 _ _ rfl _ (cs.setIfInBounds 15 (.int .i64 (t - 1))) (w.heap.size + 1 + 1) (by simp) rfl rfl HI.out (Eq.trans (b := 49) rfl HS.out.symm) H1.out ?_
    | fail)
  exact bodyPost_ret (results_state (p := 4) (u := 5) rfl _ _ (w.heap.size + 1 + 1) _ rfl (three_last _ _ _ _) HS.out) rfl ⟨rfl, below3 _ _ _ _⟩
/-- What ActHop answers. -/
def hopE (cs : Array Value) : Int := if boolAt cs 11 then (if numAt cs 15 < 2 then 111 else 0) else 81
def hopR (cs : Array Value) : Array Value := if hopE cs = 0 then cs.setIfInBounds 15 (.int .i64 (numAt cs 15 - 1)) else zeroC
theorem hopR_size {cs : Array Value} (h : St cs) : (hopR cs).size = 49 := by
  unfold hopR; split
  · simpa using h.size
  · rfl
theorem hopR_one {cs : Array Value} (h : St cs) : (hopR cs).all (·.oneCell') = true := by
  unfold hopR; split
  · exact set_one h.one rfl
  · exact zeroC_one
theorem hop_any (A cs : Array Value) (h : St cs) (w : World) : Calls Tryz.prog 59 #[.agg cs, .agg A] w fun e w' => e = .returned (.tuple #[.agg (hopR cs), .int .i64 (hopE cs)]) ∧ Below w.heap.size w w' := by
  obtain ⟨b, hb⟩ := h.bool 11 (by decide)
  obtain ⟨t, ht, t1, t2⟩ := h.i64 15 (by decide)
  have eb := boolAt_of hb
  have et := numAt_of ht
  cases b
  · have e1 : hopE cs = 81 := by simp [hopE, eb]
    have e2 : hopR cs = zeroC := by simp [hopR, e1]
    rw [e1, e2]; exact hop_no A cs hb w
  · by_cases hl : t < 2
    · have e1 : hopE cs = 111 := by simp [hopE, eb, et, hl]
      have e2 : hopR cs = zeroC := by simp [hopR, e1]
      rw [e1, e2]; exact hop_ttl A cs t hb ht hl w
    · have e1 : hopE cs = 0 := by simp [hopE, eb, et, hl]
      have e2 : hopR cs = cs.setIfInBounds 15 (.int .i64 (t - 1)) := by simp [hopR, e1, et]
      rw [e1, e2]; exact hop_yes A cs h t hb ht (by omega) t2 w
theorem step_hop (cs : Array Value) (h : St cs) (w : World) : Calls Tryz.prog 16 #[.agg cs, .agg (leafA 3)] w fun e w' => e = .returned (.tuple #[.agg (hopR cs), .int .i64 (hopE cs)]) ∧ Below w.heap.size w w' :=
  step_gen 3 (by omega) (leafA 3) cs (hopR cs) (hopE cs) (fnV 50) (fnV 58) 59 (by kernel_rfl) rfl rfl h.size (hopR_size h) (hopR_one h) w (fun args W => by simp [go_sem]) (fun W _ => check_hop W) (fun W _ => hop_any _ cs h W)
end Go.Proofs.YtikbjckcnidimaaGreatDoor
