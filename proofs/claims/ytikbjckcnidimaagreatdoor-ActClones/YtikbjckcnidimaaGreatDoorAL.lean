/- CheckAll of one Clone of hops; the law ActClones, but for its frame. No condition. -/
import Derived.Test.YtikbjckcnidimaaGreatDoorAK
import Derived.Test.YtikbjckcnidimaaGreatDoorAI
namespace Go.Proofs.YtikbjckcnidimaaGreatDoor
open Go.RowKit
theorem allB_true (n : Nat) : allB (fun _ => true) n = true := by simp [allB]
theorem sumF_zero : ∀ n, sumF (fun _ => 0) n = 0
  | 0 => rfl
  | n + 1 => by simp only [sumF, sumF_zero n]
theorem right_hops (g m c : Nat) (C : Array Value) (d : Int) (hd0 : 0 ≤ d) (hd : d ≤ 4) (hm : m ≤ 5000) (w : World) (hC : w.heap[g]? = some (.cells C 29 (0, 0))) (h : Hops C m m) :
    Calls Tryz.prog 22 #[.slice (some ⟨g, 0, none⟩) m c, .int .i64 d] w fun e w' => e = .returned (.bool true) ∧ Below w.heap.size w w' := by
  have := areRight_list g m c C (fun _ => true) d w hC (by rw [h.size]; exact Nat.le_refl _) h.one (by omega) (fun i hi W _ => by rw [h.extract hi]; exact right_hop d hd hd0 W)
  rw [allB_true] at this; exact this
theorem right_all (g1 g2 m c : Nat) (C : Array Value) (hm : m ≤ 5000) (w : World) (h1 : w.heap[g1]? = some (.cells (cloneA (.slice (some ⟨g2, 0, none⟩) m c)) 29 (0, 0))) (hC : w.heap[g2]? = some (.cells C 29 (0, 0))) (h : Hops C m m) :
    Calls Tryz.prog 22 #[.slice (some ⟨g1, 0, none⟩) 1 1, .int .i64 0] w fun e w' => e = .returned (.bool true) ∧ Below w.heap.size w w' := by
  have := areRight_list g1 1 1 _ (fun _ => true) 0 w h1 (by show 1 * 15 ≤ 15; omega) (cloneA_one _ _ _) (by omega) (fun i hi W hW => by
    obtain rfl : i = 0 := by omega
    rw [extract_all rfl]
    refine right_clone _ m c 0 (by omega) (by omega) true W (fun W2 hW2 => ?_)
    have hb := hW.trans (hW2.mono hW.size)
    exact right_hops g2 m c C (0 + 1) (by omega) (by omega) hm W2 ((hb.block _ (lt_of_heap hC)).trans hC) h)
  rw [allB_true] at this; exact this
theorem count_hops (g m c : Nat) (C : Array Value) (hm : m ≤ 5000) (w : World) (hC : w.heap[g]? = some (.cells C 29 (0, 0))) (h : Hops C m m) :
    Calls Tryz.prog 23 #[.slice (some ⟨g, 0, none⟩) m c] w fun e w' => e = .returned (.int .i64 (m : Int)) ∧ Below w.heap.size w w' := by
  have := count_list g m c C (fun _ => 0) (fun _ => .slice none 0 0) w hC (by rw [h.size]; exact Nat.le_refl _) h.one (by rw [sumF_zero]; omega) (fun i hi => h.hop i hi 7 (by omega)) (fun i hi W _ => (count_nil none 0 W).mono fun e W' ⟨he, hw⟩ => ⟨he, by rw [hw]; exact Below.refl _ _⟩)
  rw [sumF_zero] at this; exact this
theorem count_all (g1 g2 m c : Nat) (C : Array Value) (hm : m ≤ 5000) (w : World) (h1 : w.heap[g1]? = some (.cells (cloneA (.slice (some ⟨g2, 0, none⟩) m c)) 29 (0, 0))) (hC : w.heap[g2]? = some (.cells C 29 (0, 0))) (h : Hops C m m) :
    Calls Tryz.prog 23 #[.slice (some ⟨g1, 0, none⟩) 1 1] w fun e w' => e = .returned (.int .i64 ((1 + m : Nat) : Int)) ∧ Below w.heap.size w w' := by
  have := count_list g1 1 1 _ (fun _ => m) (fun _ => .slice (some ⟨g2, 0, none⟩) m c) w h1 (by show 1 * 15 ≤ 15; omega) (cloneA_one _ _ _) (by simp only [sumF]; omega) (fun i hi => by
    obtain rfl : i = 0 := by omega
    rfl) (fun i hi W hW => count_hops g2 m c C hm W ((hW.block _ (lt_of_heap hC)).trans hC) h)
  simp only [sumF, Nat.zero_add] at this; exact this
/-- What CheckAll answers of so many hops in a Clone. -/
def limE (m : Nat) : Int := if m + 1 ≤ 4096 then 0 else 3
set_option maxHeartbeats 1000000 in
theorem checkAll_hops (g1 g2 m c : Nat) (C : Array Value) (hm : m ≤ 5000) (w : World) (h1 : w.heap[g1]? = some (.cells (cloneA (.slice (some ⟨g2, 0, none⟩) m c)) 29 (0, 0))) (hC : w.heap[g2]? = some (.cells C 29 (0, 0))) (h : Hops C m m) :
    Calls Tryz.prog 12 #[.slice (some ⟨g1, 0, none⟩) 1 1] w fun e w' => e = .returned (.int .i64 (limE m)) ∧ Below w.heap.size w w' := by
  have H1 : Hid _ := h1
  have HC : Hid _ := hC
  have HH : Hid _ := h
  clear h1 hC h
  go_enter Tryz.func12, Tryz.ntmps12
  go_wp2_with fail
  refine (right_all g1 g2 m c C hm _ H1.out HC.out HH.out).mono ?_
  rintro e W1 ⟨rfl, hb1⟩
  have H11 : Hid _ := (hb1.block _ (lt_of_heap H1.out)).trans H1.out
  have HC1 : Hid _ := (hb1.block _ (lt_of_heap HC.out)).trans HC.out
  have HB1 : Hid _ := hb1
  clear hb1
  go_wp2_with fail
  refine (count_all g1 g2 m c C hm _ H11.out HC1.out HH.out).mono ?_
  rintro e W2 ⟨rfl, hb2⟩
  have HB2 : Hid (Below w.heap.size w W2) := HB1.out.trans (hb2.mono HB1.out.size)
  clear hb2
  obtain ⟨q, hq⟩ : ∃ q : Int, ((1 + m : Nat) : Int) = q := ⟨_, rfl⟩
  rw [hq]
  by_cases hl : m + 1 ≤ 4096
  · have hlI : q ≤ 4096 := by omega
    have HL : Hid (limE m = 0) := by show _ = _; rw [limE, if_pos hl]
    clear hl hq
    go_wp2
    go_ret
    exact ⟨by rw [HL.out]; rfl, HB2.out⟩
  · have hlI : 4096 < q := by omega
    have HL : Hid (limE m = 3) := by show _ = _; rw [limE, if_neg hl]
    clear hl hq
    go_wp2
    go_ret
    exact ⟨by rw [HL.out]; rfl, HB2.out⟩
theorem make_acts (w : World) (c : Nat) (hc : c ≤ 5000) : (Instr.makeSlice 23 (.int .i64 (c : Int)) (.int .i64 (c : Int))).run Tryz.prog w = .ok (.slice (some ⟨w.heap.size, 0, none⟩) c c) (w.alloc (.cells (madeCells (leafA 0) (c * 15)) 29)) := by
  obtain ⟨i0, hi, hz0, hz1, hz2⟩ := info_parts (show (Tryz.prog.info? 29).map (fun i => (i.zero, i.size, i.bytes)) = some (some (.agg (leafA 0)), 15, 136) by kernel_rfl)
  have := run_make (P := Tryz.prog) w 23 29 i0 (.agg (leafA 0)) Tryz.underlying23 hi hz0 .i64 .i64 (c : Int) (c : Int) (by omega) (by omega) (by rw [hz2]; omega) (by omega)
  rw [hz1] at this
  simpa [Value.cells] using this
end Go.Proofs.YtikbjckcnidimaaGreatDoor
