/- lives of the laws of field answers true. No condition. -/
import Derived.Test.YthodjgaaojmihaaDoorFI
namespace Go.Proofs.YthodjgaaojmihaaDoor.Fl
open Go.RowKit

theorem zeroSt : St zeroC := by
  refine ⟨rfl, zeroC_one, fun i hi => ?_, fun i hi => ?_, fun i hi => ?_, fun i hi => ?_, fun i hi => ?_⟩
  · simp only [List.mem_cons, List.not_mem_nil, or_false] at hi
    refine ⟨0, ?_, by omega, by omega⟩
    rcases hi with rfl | rfl | rfl | rfl <;> rfl
  · simp only [List.mem_cons, List.not_mem_nil, or_false] at hi
    refine ⟨0, ?_, by omega, by omega⟩
    rcases hi with rfl | rfl | rfl | rfl | rfl | rfl | rfl | rfl | rfl | rfl | rfl | rfl | rfl | rfl | rfl | rfl | rfl | rfl | rfl | rfl | rfl | rfl | rfl <;> rfl
  · simp only [List.mem_cons, List.not_mem_nil, or_false] at hi
    refine ⟨0, ?_, by omega, by omega⟩
    rcases hi with rfl | rfl | rfl | rfl | rfl | rfl | rfl | rfl | rfl | rfl | rfl | rfl | rfl <;> rfl
  · simp only [List.mem_cons, List.not_mem_nil, or_false] at hi
    refine ⟨false, ?_⟩
    rcases hi with rfl | rfl | rfl | rfl <;> rfl
  · simp only [List.mem_cons, List.not_mem_nil, or_false] at hi
    refine ⟨⟨#[]⟩, ?_⟩
    rcases hi with rfl | rfl | rfl | rfl | rfl <;> rfl
def arpC : Array Value := zeroC.setIfInBounds 5 (.bool true)
theorem arpSt : St arpC := st_put zeroSt 5 (.bool true) (by decide) rfl (fun h => absurd h (by decide)) (fun h => absurd h (by decide)) (fun h => absurd h (by decide)) (fun _ => ⟨true, rfl⟩) (fun h => absurd h (by decide))
def livesC : Array Value := wrF 4 zeroC (mixV 4 zeroC 65543 131071)
theorem livesSt : St livesC := st_wr zeroSt 4 (by omega) (by omega) _ (mix_in _ _ _ _)
theorem lives2 : livesC[2]? = some (.bool true) := by kernel_rfl
theorem lives3 : livesC[3]? = some (.int .i64 7) := by kernel_rfl
theorem find_ttl : findF ⟨#[105, 112, 46, 116, 116, 108]⟩ 1 28 = 13 := by decide +kernel
set_option maxHeartbeats 1000000 in
set_option maxRecDepth 20000 in
theorem lives_any (w : World) : Calls Tryd.prog 5 #[] w fun e w' => e = .returned (.bool true) ∧ Below w.heap.size w w' := by
  have hi := info_size livesSt.size
  have HI : Hid _ := hi
  clear hi
  go_enter Tryd.func5, Tryd.ntmps5
  go_wp2_with fail
  refine (set_yes 4 (by omega) (by omega) zeroC zeroSt 65543 131071 rfl (by decide +kernel) rfl livesSt _).mono ?_
  rintro e W1 ⟨rfl, hb1⟩
  rw [show wrF 4 zeroC (mixV 4 zeroC 65543 131071) = livesC from rfl]
  have HB1 : Hid _ := hb1
  clear hb1
  go_wp2_with (first
    | refine wpList_store_new rfl 43 _ _ rfl zeroC livesC W1.heap.size rfl rfl rfl HI.out rfl livesSt.one ?_
    | fail)
  refine (find_any ⟨#[105, 112, 46, 116, 116, 108]⟩ _).mono ?_
  rw [find_ttl]
  rintro e W2 ⟨rfl, hb2⟩
  have hs2 : W2.heap[W1.heap.size]? = some (.cells livesC 43 (0, 0)) := (hb2.block _ (by simp)).trans (heap_alloc_new _ _)
  have HB2 : Hid (Below W1.heap.size W1 W2) := (below1 W1 _).trans (hb2.mono (by simp))
  have HS2 : Hid _ := hs2
  clear hb2 hs2
  go_wp2_with fail
  refine (set_pre 13 (by omega) (by omega) arpC arpSt 3 255 rfl (by decide +kernel) rfl _).mono ?_
  rintro e W3 ⟨rfl, hb3⟩
  have hs3 : W3.heap[W1.heap.size]? = some (.cells livesC 43 (0, 0)) := (hb3.block _ (lt_of_heap HS2.out)).trans HS2.out
  have HB3 : Hid (Below W1.heap.size W1 W3) := HB2.out.trans (hb3.mono HB2.out.size)
  have c2 := (cell_row hs3 2).trans lives2
  have c3 := (cell_row hs3 3).trans lives3
  have HS3 : Hid _ := hs3
  clear hb3 hs3 HB2 HS2
  have hlt3 : W1.heap.size < W3.heap.size := lt_of_heap HS3.out
  go_wp2_with (first
    | refine wpList_store_new rfl 43 _ _ rfl zeroC zeroC W3.heap.size rfl rfl rfl (info_size zeroC_size) rfl zeroC_one ?_
    | fail)
  refine (bits_any 1 (by omega) (by omega) _).mono ?_
  rintro e W4 ⟨rfl, hb4⟩
  have HB4 : Hid (Below W1.heap.size W1 W4) := HB3.out.trans (((below1 W3 _).trans (hb4.mono (by simp))).mono HB3.out.size)
  clear hb4 c2 c3
  go_wp2
  go_ret
  exact ⟨rfl, HB1.out.trans (HB4.out.mono HB1.out.size)⟩
end Go.Proofs.YthodjgaaojmihaaDoor.Fl
