/- A zone with a list of connections; add of one more, and to a full one. Conditions: as said. -/
import Derived.Test.YtjjehncnjcepkaaEG
import Derived.Test.YtjjehncnjcepkaaCL
import Derived.Lib.Hide
namespace Go.Proofs.Ytjjehncnjcepkaa
open Go.RowKit
theorem TZ.zone {w : World} {B tb zb : Nat} {room : Int} {q : Value} {E : List Nat} {z : Int} {O : Nat → Tup} {g1 g2 zs cz : Nat} (h : TZ w B tb zb room q E z O g1 g2 zs cz) : (Instr.lookup 61 (.map (some zb)) (iv z) false).run Try.prog w = .ok (.agg #[.map (some g1), .map (some g2)]) w := by
  have := look_any intK Try.underlying61 (.agg #[.map none, .map none]) zero_zone h.zm z
  simpa [findG] using this
theorem TZ.count {w : World} {B tb zb : Nat} {room : Int} {q : Value} {E : List Nat} {z : Int} {O : Nat → Tup} {g1 g2 zs cz : Nat} (h : TZ w B tb zb room q E z O g1 g2 zs cz) :
    Calls Try.prog 10 #[.pointer (some ⟨tb, 0, none⟩), .int .i64 z] w fun e w' => e = .returned (.int .i64 E.length) ∧ w' = w :=
  count_any tb zb room 0 z q (some g1) (some g2) E.length w h.qs.t h.zone (by have := len_some h.m1; rwa [rows9_len] at this)
set_option linter.unusedVariables false in
set_option linter.unusedSimpArgs false in
set_option maxRecDepth 20000 in
set_option maxHeartbeats 2000000 in
theorem add_old {w : World} {B tb zb : Nat} {room : Int} {q : Value} {E : List Nat} {z : Int} {O : Nat → Tup} {g1 g2 zs cz : Nat} (h0 : TZ w B tb zb room q E z O g1 g2 zs cz) (o : Tup) (hn : E.length < 100000) (hr : (E.length : Int) < room) (f1 : at9 O E o = none) (f2 : at9 (fun e => turn (O e)) E (turn o) = none) (hB : B ≤ w.heap.size) :
    Calls Try.prog 28 #[.pointer (some ⟨tb, 0, none⟩), .agg (connC z o (turn o) false 30)] w fun e w' => e = .returned (.int .i64 0) ∧ More w w' B tb zb room E z O g1 g2 zs cz o := by
  obtain ⟨cn, hcn⟩ : ∃ cn, connC z o (turn o) false 30 = cn := ⟨_, rfl⟩
  have hc0 : cn[0]? = some (.int .i64 z) := by rw [← hcn]; rfl
  have hc13 : cn.size = 13 := by rw [← hcn]; rfl
  have HC13 : Hid _ := hc13
  have HC0 : Hid _ := hc0
  have HHO : Hid (∀ W, Below w.heap.size w W → Calls Try.prog 42 #[.pointer (some ⟨tb, 0, none⟩), .agg cn] W fun e w' => e = .returned (.tuple #[]) ∧ More W w' B tb zb room E z O g1 g2 zs cz o) := by
    show ∀ W, _
    intro W hb
    rw [← hcn]
    exact hold_old (h0.of hb.block) o hn f1 f2 (by have := hb.size; omega)
  rw [hcn]
  have hlt := lt_of_heap h0.qs.t
  have H : Hid _ := h0.qs.t
  have H0 : Hid _ := h0
  have A0 : Hid _ := heap_alloc_new w (.cells cn 51)
  have c0 : (w.alloc (.cells cn 51)).drew.cell? ⟨tb, 0, none⟩ = some (.int .i64 room) := cell_row (show (w.alloc (.cells cn 51)).drew.heap[tb]? = some (.cells (tabV room 0 zb q) 65 (0, 0)) from (heap_alloc_old _ _ hlt).trans H.out) 0
  have C0 : Hid _ := c0
  have HV0 : Hid (TZ (w.alloc (.cells cn 51)).drew B tb zb room q E z O g1 g2 zs cz) := h0.of (fun g hg => heap_alloc_old _ _ hg)
  have hr9 : ¬ room ≤ (E.length : Int) := by omega
  clear f1 f2
  clear hcn hc0 hc13 h0 c0
  go_enter Try.func28, Try.ntmps28
  go_wp2_with fail
  refine wp_region_held_drew (S := (fun W => W.cell? ⟨w.heap.size, 0, none⟩ = some (.int .i64 z) ∧ W.cell? ⟨tb, 0, none⟩ = some (.int .i64 room))) (by kernel_rfl) ?_ (fun hHeld => ?_)
  · exact ⟨(cell_row A0.out 0).trans HC0.out, C0.out⟩
  refine wpAnyH_take (i := 0) (v := ?_) rfl (by kernel_rfl) (by kernel_rfl) (by kernel_rfl) (fun _ _ _ h => h) (Or.inl ⟨by rfl, ?_⟩) (by assumption) ?_
  rotate_left
  · (intro w hSw; (try dsimp only at hSw); go_simp; try with_reducible rfl)
  try simp only [List.getElem_toArray, List.getElem_cons_zero, List.getElem_cons_succ, Act.put, List.setIfInBounds_toArray, List.set_cons_zero, List.set_cons_succ]
  refine wpAnyH_take (i := 1) (v := ?_) rfl (by kernel_rfl) (by kernel_rfl) (by kernel_rfl) (fun _ _ _ h => h) (Or.inl ⟨by rfl, ?_⟩) (by assumption) ?_
  rotate_left
  · (intro w hSw; (try dsimp only at hSw); go_simp; try with_reducible rfl)
  try simp only [List.getElem_toArray, List.getElem_cons_zero, List.getElem_cons_succ, Act.put, List.setIfInBounds_toArray, List.set_cons_zero, List.set_cons_succ]
  refine wpAnyH_take (i := 2) (v := ?_) rfl (by kernel_rfl) (by kernel_rfl) (by kernel_rfl) (fun _ _ _ h => h) (Or.inl ⟨by rfl, ?_⟩) (by assumption) ?_
  rotate_left
  · (intro w hSw; (try dsimp only at hSw); go_simp; try with_reducible rfl)
  try simp only [List.getElem_toArray, List.getElem_cons_zero, List.getElem_cons_succ, Act.put, List.setIfInBounds_toArray, List.set_cons_zero, List.set_cons_succ]
  refine wpAnyH_take (i := 4) (v := ?_) rfl (by kernel_rfl) (by kernel_rfl) (by kernel_rfl) (fun _ _ _ h => h) (Or.inl ⟨by rfl, ?_⟩) (by assumption) ?_
  rotate_left
  · (intro w hSw; (try dsimp only at hSw); go_simp; try with_reducible rfl)
  try simp only [List.getElem_toArray, List.getElem_cons_zero, List.getElem_cons_succ, Act.put, List.setIfInBounds_toArray, List.set_cons_zero, List.set_cons_succ]
  refine wpAnyH_take (i := 5) (v := ?_) rfl (by kernel_rfl) (by kernel_rfl) (by kernel_rfl) (fun _ _ _ h => h) (Or.inl ⟨by rfl, ?_⟩) (by assumption) ?_
  rotate_left
  · (intro w hSw; (try dsimp only at hSw); go_simp; try with_reducible rfl)
  try simp only [List.getElem_toArray, List.getElem_cons_zero, List.getElem_cons_succ, Act.put, List.setIfInBounds_toArray, List.set_cons_zero, List.set_cons_succ]
  refine wpAnyH_take (i := 6) (v := ?_) rfl (by kernel_rfl) (by kernel_rfl) (by kernel_rfl) (fun _ _ _ h => h) (Or.inl ⟨by rfl, ?_⟩) (by assumption) ?_
  rotate_left
  · (intro w hSw; (try dsimp only at hSw); go_simp; try with_reducible rfl)
  try simp only [List.getElem_toArray, List.getElem_cons_zero, List.getElem_cons_succ, Act.put, List.setIfInBounds_toArray, List.set_cons_zero, List.set_cons_succ]
  refine wpAnyH_take (i := 7) (v := ?_) rfl (by kernel_rfl) (by kernel_rfl) (by kernel_rfl) (fun _ _ _ h => h) (Or.inl ⟨by rfl, ?_⟩) (by assumption) ?_
  rotate_left
  · (intro w hSw; (try dsimp only at hSw); go_simp; try with_reducible rfl)
  try simp only [List.getElem_toArray, List.getElem_cons_zero, List.getElem_cons_succ, Act.put, List.setIfInBounds_toArray, List.set_cons_zero, List.set_cons_succ]
  refine wpAnyH_ready (rs := [3]) (by kernel_rfl) (by simp) ?_
  refine AllReadyH.cons (o := _) rfl (fun K hK => ?_) AllReadyH.nil
  go_simp
  refine (HV0.out.count).mono ?_
  rintro e W1 ⟨rfl, hw1⟩
  rw [hw1]
  clear hw1
  go_wp2_with fail
  refine hK.out _ _ ⟨(cell_row A0.out 0).trans HC0.out, C0.out⟩ (fun hHeld2 => ?_)
  clear hK K hHeld
  have hHeld := hHeld2
  clear hHeld2
  try simp only [List.getElem_toArray, List.getElem_cons_zero, List.getElem_cons_succ, Act.put, List.setIfInBounds_toArray, List.set_cons_zero, List.set_cons_succ]
  refine wpAnyH_take (i := 8) (v := ?_) rfl (by kernel_rfl) (by kernel_rfl) (by kernel_rfl) (fun _ _ _ h => h) (Or.inl ⟨by rfl, ?_⟩) (by assumption) ?_
  rotate_left
  · (intro w hSw; (try dsimp only at hSw); go_simp; try with_reducible rfl)
  try simp only [List.getElem_toArray, List.getElem_cons_zero, List.getElem_cons_succ, Act.put, List.setIfInBounds_toArray, List.set_cons_zero, List.set_cons_succ]
  refine wpAnyH_done (by kernel_rfl) ?_ _
  clear hHeld
  have A0' : Hid ((w.alloc (.cells cn 51)).drew.heap[w.heap.size]? = some (.cells cn 51 (0, 0))) := A0.out
  have BB : Hid (Below w.heap.size w (w.alloc (.cells cn 51)).drew) := (below1 _ _).drew
  generalize (w.alloc (.cells cn 51)).drew = V at *
  go_wp2_with (first
    | refine wpList_load_row rfl 51 _ rfl w.heap.size rfl 51 cn (0, 0) _ A0'.out Try.underlying51 rfl (by rw [HC13.out]; exact size13) ?_
    | fail)
  refine (HHO.out _ BB.out).mono ?_
  rintro e W2 ⟨rfl, h2⟩
  have H2 : Hid _ := h2
  clear h2
  go_wp2
  go_ret
  exact ⟨rfl, More.from H2.out (BB.out.mono hB)⟩
set_option linter.unusedVariables false in
set_option linter.unusedSimpArgs false in
set_option maxRecDepth 20000 in
set_option maxHeartbeats 2000000 in
theorem add_full {w : World} {B tb zb : Nat} {room : Int} {q : Value} {E : List Nat} {z : Int} {O : Nat → Tup} {g1 g2 zs cz : Nat} (h0 : TZ w B tb zb room q E z O g1 g2 zs cz) (o : Tup) (hr : room ≤ (E.length : Int)) (hB : B ≤ w.heap.size) :
    Calls Try.prog 28 #[.pointer (some ⟨tb, 0, none⟩), .agg (connC z o (turn o) false 30)] w fun e w' => e = .returned (.int .i64 120) ∧ Below w.heap.size w w' := by
  obtain ⟨cn, hcn⟩ : ∃ cn, connC z o (turn o) false 30 = cn := ⟨_, rfl⟩
  have hc0 : cn[0]? = some (.int .i64 z) := by rw [← hcn]; rfl
  have hc13 : cn.size = 13 := by rw [← hcn]; rfl
  have HC13 : Hid _ := hc13
  have HC0 : Hid _ := hc0
  rw [hcn]
  have hlt := lt_of_heap h0.qs.t
  have H : Hid _ := h0.qs.t
  have H0 : Hid _ := h0
  have A0 : Hid _ := heap_alloc_new w (.cells cn 51)
  have c0 : (w.alloc (.cells cn 51)).drew.cell? ⟨tb, 0, none⟩ = some (.int .i64 room) := cell_row (show (w.alloc (.cells cn 51)).drew.heap[tb]? = some (.cells (tabV room 0 zb q) 65 (0, 0)) from (heap_alloc_old _ _ hlt).trans H.out) 0
  have C0 : Hid _ := c0
  have HV0 : Hid (TZ (w.alloc (.cells cn 51)).drew B tb zb room q E z O g1 g2 zs cz) := h0.of (fun g hg => heap_alloc_old _ _ hg)
  clear hcn hc0 hc13 h0 c0
  go_enter Try.func28, Try.ntmps28
  go_wp2_with fail
  refine wp_region_held_drew (S := (fun W => W.cell? ⟨w.heap.size, 0, none⟩ = some (.int .i64 z) ∧ W.cell? ⟨tb, 0, none⟩ = some (.int .i64 room))) (by kernel_rfl) ?_ (fun hHeld => ?_)
  · exact ⟨(cell_row A0.out 0).trans HC0.out, C0.out⟩
  refine wpAnyH_take (i := 0) (v := ?_) rfl (by kernel_rfl) (by kernel_rfl) (by kernel_rfl) (fun _ _ _ h => h) (Or.inl ⟨by rfl, ?_⟩) (by assumption) ?_
  rotate_left
  · (intro w hSw; (try dsimp only at hSw); go_simp; try with_reducible rfl)
  try simp only [List.getElem_toArray, List.getElem_cons_zero, List.getElem_cons_succ, Act.put, List.setIfInBounds_toArray, List.set_cons_zero, List.set_cons_succ]
  refine wpAnyH_take (i := 1) (v := ?_) rfl (by kernel_rfl) (by kernel_rfl) (by kernel_rfl) (fun _ _ _ h => h) (Or.inl ⟨by rfl, ?_⟩) (by assumption) ?_
  rotate_left
  · (intro w hSw; (try dsimp only at hSw); go_simp; try with_reducible rfl)
  try simp only [List.getElem_toArray, List.getElem_cons_zero, List.getElem_cons_succ, Act.put, List.setIfInBounds_toArray, List.set_cons_zero, List.set_cons_succ]
  refine wpAnyH_take (i := 2) (v := ?_) rfl (by kernel_rfl) (by kernel_rfl) (by kernel_rfl) (fun _ _ _ h => h) (Or.inl ⟨by rfl, ?_⟩) (by assumption) ?_
  rotate_left
  · (intro w hSw; (try dsimp only at hSw); go_simp; try with_reducible rfl)
  try simp only [List.getElem_toArray, List.getElem_cons_zero, List.getElem_cons_succ, Act.put, List.setIfInBounds_toArray, List.set_cons_zero, List.set_cons_succ]
  refine wpAnyH_take (i := 4) (v := ?_) rfl (by kernel_rfl) (by kernel_rfl) (by kernel_rfl) (fun _ _ _ h => h) (Or.inl ⟨by rfl, ?_⟩) (by assumption) ?_
  rotate_left
  · (intro w hSw; (try dsimp only at hSw); go_simp; try with_reducible rfl)
  try simp only [List.getElem_toArray, List.getElem_cons_zero, List.getElem_cons_succ, Act.put, List.setIfInBounds_toArray, List.set_cons_zero, List.set_cons_succ]
  refine wpAnyH_take (i := 5) (v := ?_) rfl (by kernel_rfl) (by kernel_rfl) (by kernel_rfl) (fun _ _ _ h => h) (Or.inl ⟨by rfl, ?_⟩) (by assumption) ?_
  rotate_left
  · (intro w hSw; (try dsimp only at hSw); go_simp; try with_reducible rfl)
  try simp only [List.getElem_toArray, List.getElem_cons_zero, List.getElem_cons_succ, Act.put, List.setIfInBounds_toArray, List.set_cons_zero, List.set_cons_succ]
  refine wpAnyH_take (i := 6) (v := ?_) rfl (by kernel_rfl) (by kernel_rfl) (by kernel_rfl) (fun _ _ _ h => h) (Or.inl ⟨by rfl, ?_⟩) (by assumption) ?_
  rotate_left
  · (intro w hSw; (try dsimp only at hSw); go_simp; try with_reducible rfl)
  try simp only [List.getElem_toArray, List.getElem_cons_zero, List.getElem_cons_succ, Act.put, List.setIfInBounds_toArray, List.set_cons_zero, List.set_cons_succ]
  refine wpAnyH_take (i := 7) (v := ?_) rfl (by kernel_rfl) (by kernel_rfl) (by kernel_rfl) (fun _ _ _ h => h) (Or.inl ⟨by rfl, ?_⟩) (by assumption) ?_
  rotate_left
  · (intro w hSw; (try dsimp only at hSw); go_simp; try with_reducible rfl)
  try simp only [List.getElem_toArray, List.getElem_cons_zero, List.getElem_cons_succ, Act.put, List.setIfInBounds_toArray, List.set_cons_zero, List.set_cons_succ]
  refine wpAnyH_ready (rs := [3]) (by kernel_rfl) (by simp) ?_
  refine AllReadyH.cons (o := _) rfl (fun K hK => ?_) AllReadyH.nil
  go_simp
  refine (HV0.out.count).mono ?_
  rintro e W1 ⟨rfl, hw1⟩
  rw [hw1]
  clear hw1
  go_wp2_with fail
  refine hK.out _ _ ⟨(cell_row A0.out 0).trans HC0.out, C0.out⟩ (fun hHeld2 => ?_)
  clear hK K hHeld
  have hHeld := hHeld2
  clear hHeld2
  try simp only [List.getElem_toArray, List.getElem_cons_zero, List.getElem_cons_succ, Act.put, List.setIfInBounds_toArray, List.set_cons_zero, List.set_cons_succ]
  refine wpAnyH_take (i := 8) (v := ?_) rfl (by kernel_rfl) (by kernel_rfl) (by kernel_rfl) (fun _ _ _ h => h) (Or.inl ⟨by rfl, ?_⟩) (by assumption) ?_
  rotate_left
  · (intro w hSw; (try dsimp only at hSw); go_simp; try with_reducible rfl)
  try simp only [List.getElem_toArray, List.getElem_cons_zero, List.getElem_cons_succ, Act.put, List.setIfInBounds_toArray, List.set_cons_zero, List.set_cons_succ]
  refine wpAnyH_done (by kernel_rfl) ?_ _
  clear hHeld
  have A0' : Hid ((w.alloc (.cells cn 51)).drew.heap[w.heap.size]? = some (.cells cn 51 (0, 0))) := A0.out
  have BB : Hid (Below w.heap.size w (w.alloc (.cells cn 51)).drew) := (below1 _ _).drew
  generalize (w.alloc (.cells cn 51)).drew = V at *
  go_wp2
  go_ret
  exact ⟨rfl, BB.out⟩
end Go.Proofs.Ytjjehncnjcepkaa
