/- Count, add. Conditions: as said. -/
import Derived.Test.YtjjehncnjcepkaaCK
namespace Go.Proofs.Ytjjehncnjcepkaa
open Go.RowKit
theorem len_none (W : World) : (Builtin.len_ #[58] 3 #[.map none]).run Try.prog W = .ok (.int .i64 0) W := by
  first | kernel_rfl | simp [Builtin.len_, go_sem]
theorem len_some {W : World} {r c : Nat} {l : List (Tup × Value × Nat)} (h : W.heap[r]? = some (.map (entG tv l).toArray c)) : (Builtin.len_ #[58] 3 #[.map (some r)]).run Try.prog W = .ok (.int .i64 l.length) W := by
  simp [Builtin.len_, run_underlying Try.underlying58, MapKept.run_getObj_map h, entG, goInt]
theorem field_zone (a b : Value) (W : World) : (Instr.field 60 (.agg #[a, b]) 0).run Try.prog W = .ok a W := by
  simp [Instr.field, go_sem, asAgg]
set_option maxHeartbeats 400000 in
theorem count_any (tb zb : Nat) (room clock z : Int) (q : Value) (m1 m2 : Option Nat) (n : Nat) (w : World) (h : w.heap[tb]? = some (.cells (tabV room clock zb q) 65 (0, 0))) (hz : (Instr.lookup 61 (.map (some zb)) (iv z) false).run Try.prog w = .ok (.agg #[.map m1, .map m2]) w) (hl : (Builtin.len_ #[58] 3 #[.map m1]).run Try.prog w = .ok (.int .i64 n) w) :
    Calls Try.prog 10 #[.pointer (some ⟨tb, 0, none⟩), .int .i64 z] w fun e w' => e = .returned (.int .i64 n) ∧ w' = w := by
  have c2 : w.cell? ⟨tb, 2, none⟩ = some (.map (some zb)) := cell_row h 2
  have hfz := field_zone
  unfold iv at hz
  have H : Hid _ := h
  clear h
  go_enter Try.func10, Try.ntmps10
  go_wp2_with fail
  refine (isMade_any tb zb room clock q _ H.out).mono ?_
  rintro e W1 ⟨rfl, rfl⟩
  go_wp2
  go_ret
  exact ⟨rfl, rfl⟩
/-- What stands in memory where one connection is in a table. -/
def One (w w' : World) (B tb zb c : Nat) (room clock : Int) (l : List (Int × Value × Nat)) (z : Int) (o r : Tup) (nat : Bool) (ex : Int) : Prop :=
  ∃ qa qc eb g1 g2, w.heap.size ≤ eb ∧ w.heap.size ≤ g1 ∧ w.heap.size ≤ g2 ∧ g1 ≠ g2 ∧ w'.heap[tb]? = some (.cells (tabV room clock zb (.slice qa 1 qc)) 65 (0, 0)) ∧ w'.heap[zb]? = some (.map (entG iv (l ++ [(z, .agg #[.map (some g1), .map (some g2)], c)])).toArray (c + 1)) ∧ w'.heap[g1]? = some (.map (entG tv [(o, .pointer (some ⟨eb, 0, none⟩), 0)]).toArray 1) ∧ w'.heap[g2]? = some (.map (entG tv [(r, .pointer (some ⟨eb, 0, none⟩), 0)]).toArray 1) ∧ w'.heap[eb]? = some (.cells (entC z o r nat ex 0) 68 (0, 0)) ∧ w'.ownsRow B 66 1 (.slice qa 1 qc) 1 [.pointer (some ⟨eb, 0, none⟩)] ∧ Below B w w' ∧ (∀ g, g < w.heap.size → g ≠ tb → g ≠ zb → (∀ C, w.heap[g]? ≠ some (.cells C 66 (0, 0))) → w'.heap[g]? = w.heap[g]?)
theorem own_below {w w' : World} {B : Nat} {e : TypeId} {v : Value} {n : Nat} {xs : List Value} (h : w.ownsRow B e 1 v n xs) (hb : Below w.heap.size w w') : w'.ownsRow B e 1 v n xs := by
  refine ⟨h.1, ?_⟩
  rcases h.2 with h' | ⟨g, cap, cur, e1, e2, e3, e4⟩
  · exact .inl h'
  · exact .inr ⟨g, cap, cur, e1, e2, (hb.block _ (lt_of_heap e3)).trans e3, e4⟩
theorem One.from {w w0 w' : World} {B tb zb c : Nat} {room clock : Int} {l : List (Int × Value × Nat)} {z : Int} {o r : Tup} {nat : Bool} {ex : Int} (h : One w w' B tb zb c room clock l z o r nat ex) (hb : Below w0.heap.size w0 w) (hB : B ≤ w0.heap.size) : One w0 w' B tb zb c room clock l z o r nat ex := by
  obtain ⟨qa, qc, eb, g1, g2, a1, a2, a3, a4, a5, a6, a7, a8, a9, a10, a11, a12⟩ := h
  have := hb.size
  exact ⟨qa, qc, eb, g1, g2, by omega, by omega, by omega, a4, a5, a6, a7, a8, a9, a10, (hb.mono hB).trans a11, fun g hg gt gz gc => (a12 g (by omega) gt gz (fun C => by rw [hb.block _ hg]; exact gc C)).trans (hb.block _ hg)⟩
set_option linter.unusedSimpArgs false in
set_option maxRecDepth 20000 in
set_option maxHeartbeats 2000000 in
theorem add_new (tb zb c B : Nat) (room clock : Int) (hr : 1 ≤ room) (q : Value) (l : List (Int × Value × Nat)) (z : Int) (o r : Tup) (nat : Bool) (ex : Int) (w : World) (h : w.heap[tb]? = some (.cells (tabV room clock zb q) 65 (0, 0))) (hz : w.heap[zb]? = some (.map (entG iv l).toArray c)) (hf : findG z l 0 = none) (hq : w.ownsRow B 66 1 q 0 []) (hB : B ≤ w.heap.size) (hBt : B ≤ tb) (hBz : B ≤ zb) :
    Calls Try.prog 28 #[.pointer (some ⟨tb, 0, none⟩), .agg (connC z o r nat ex)] w fun e w' => e = .returned (.int .i64 0) ∧ One w w' B tb zb c room clock l z o r nat ex := by
  obtain ⟨cn, hcn⟩ : ∃ cn, connC z o r nat ex = cn := ⟨_, rfl⟩
  have hc0 : cn[0]? = some (.int .i64 z) := by rw [← hcn]; rfl
  have hc13 : cn.size = 13 := by rw [← hcn]; rfl
  have HCE : Hid _ := hcn
  have HC13 : Hid _ := hc13
  have HC0 : Hid _ := hc0
  have HHO : Hid (∀ W, Below w.heap.size w W → Calls Try.prog 42 #[.pointer (some ⟨tb, 0, none⟩), .agg cn] W fun e w' => e = .returned (.tuple #[]) ∧ One W w' B tb zb c room clock l z o r nat ex) := by
    show ∀ W, _
    intro W hb
    rw [← hcn]
    exact hold_new tb zb c B room clock q l z o r nat ex W ((hb.block _ (lt_of_heap h)).trans h) ((hb.block _ (lt_of_heap hz)).trans hz) hf (own_below hq hb) (by have := hb.size; omega) hBt hBz
  rw [hcn]
  have hlt := lt_of_heap h
  have hlz := lt_of_heap hz
  have H : Hid _ := h
  have HZ : Hid _ := hz
  have HF : Hid _ := hf
  have A0 : Hid _ := heap_alloc_new w (.cells cn 51)
  have c0 : (w.alloc (.cells cn 51)).drew.cell? ⟨tb, 0, none⟩ = some (.int .i64 room) := cell_row (show (w.alloc (.cells cn 51)).drew.heap[tb]? = some (.cells (tabV room clock zb q) 65 (0, 0)) from (heap_alloc_old _ _ hlt).trans H.out) 0
  have HTB : Hid ((w.alloc (.cells cn 51)).drew.heap[tb]? = some (.cells (tabV room clock zb q) 65 (0, 0))) := (heap_alloc_old _ _ hlt).trans H.out
  have HZB : Hid ((w.alloc (.cells cn 51)).drew.heap[zb]? = some (.map (entG iv l).toArray c)) := (heap_alloc_old _ _ hlz).trans HZ.out
  have C0 : Hid _ := c0
  clear hcn hc0 hc13 h hz hf hq c0
  go_enter Try.func28, Try.ntmps28
  go_wp2_with fail
  refine wp_region_held_drew (S := (fun W => W.cell? ⟨w.heap.size, 0, none⟩ = some (.int .i64 z) ∧ W.cell? ⟨tb, 0, none⟩ = some (.int .i64 room))) (by kernel_rfl) ?_ (fun hHeld => ?_)
  · exact ⟨(cell_row A0.out 0).trans HC0.out, C0.out⟩
  refine wpAnyH_take (i := 0) (v := ?_) rfl (by kernel_rfl) (by kernel_rfl) (by kernel_rfl) (fun _ _ _ h => h) (Or.inl ⟨by rfl, ?_⟩) (by assumption) ?_
  rotate_left
  · (intro w hSw; (try dsimp only at hSw); go_simp; try with_reducible rfl)
  try simp only [List.getElem_toArray, List.getElem_cons_zero, List.getElem_cons_succ, Act.put, List.setIfInBounds_toArray, List.set_cons_zero, List.set_cons_succ]
  refine wpAnyH_take (i := 1) (v := ?_) rfl (by kernel_rfl) (by kernel_rfl) (by kernel_rfl) (fun _ _ _ h => h) (Or.inl ⟨by rfl, ?_⟩) (by assumption) ?_
  rotate_left
  · (intro w hSw; (try dsimp only at hSw); go_simp; try with_reducible rfl)
  try simp only [List.getElem_toArray, List.getElem_cons_zero, List.getElem_cons_succ, Act.put, List.setIfInBounds_toArray, List.set_cons_zero, List.set_cons_succ]
  refine wpAnyH_take (i := 2) (v := ?_) rfl (by kernel_rfl) (by kernel_rfl) (by kernel_rfl) (fun _ _ _ h => h) (Or.inl ⟨by rfl, ?_⟩) (by assumption) ?_
  rotate_left
  · (intro w hSw; (try dsimp only at hSw); go_simp; try with_reducible rfl)
  try simp only [List.getElem_toArray, List.getElem_cons_zero, List.getElem_cons_succ, Act.put, List.setIfInBounds_toArray, List.set_cons_zero, List.set_cons_succ]
  refine wpAnyH_take (i := 4) (v := ?_) rfl (by kernel_rfl) (by kernel_rfl) (by kernel_rfl) (fun _ _ _ h => h) (Or.inl ⟨by rfl, ?_⟩) (by assumption) ?_
  rotate_left
  · (intro w hSw; (try dsimp only at hSw); go_simp; try with_reducible rfl)
  try simp only [List.getElem_toArray, List.getElem_cons_zero, List.getElem_cons_succ, Act.put, List.setIfInBounds_toArray, List.set_cons_zero, List.set_cons_succ]
  refine wpAnyH_take (i := 5) (v := ?_) rfl (by kernel_rfl) (by kernel_rfl) (by kernel_rfl) (fun _ _ _ h => h) (Or.inl ⟨by rfl, ?_⟩) (by assumption) ?_
  rotate_left
  · (intro w hSw; (try dsimp only at hSw); go_simp; try with_reducible rfl)
  try simp only [List.getElem_toArray, List.getElem_cons_zero, List.getElem_cons_succ, Act.put, List.setIfInBounds_toArray, List.set_cons_zero, List.set_cons_succ]
  refine wpAnyH_take (i := 6) (v := ?_) rfl (by kernel_rfl) (by kernel_rfl) (by kernel_rfl) (fun _ _ _ h => h) (Or.inl ⟨by rfl, ?_⟩) (by assumption) ?_
  rotate_left
  · (intro w hSw; (try dsimp only at hSw); go_simp; try with_reducible rfl)
  try simp only [List.getElem_toArray, List.getElem_cons_zero, List.getElem_cons_succ, Act.put, List.setIfInBounds_toArray, List.set_cons_zero, List.set_cons_succ]
  refine wpAnyH_take (i := 7) (v := ?_) rfl (by kernel_rfl) (by kernel_rfl) (by kernel_rfl) (fun _ _ _ h => h) (Or.inl ⟨by rfl, ?_⟩) (by assumption) ?_
  rotate_left
  · (intro w hSw; (try dsimp only at hSw); go_simp; try with_reducible rfl)
  try simp only [List.getElem_toArray, List.getElem_cons_zero, List.getElem_cons_succ, Act.put, List.setIfInBounds_toArray, List.set_cons_zero, List.set_cons_succ]
  refine wpAnyH_ready (rs := [3]) (by kernel_rfl) (by simp) ?_
  refine AllReadyH.cons (o := _) rfl (fun K hK => ?_) AllReadyH.nil
  go_simp
  have hlk := look_any intK Try.underlying61 _ zero_zone HZB.out z
  rw [HF.out] at hlk
  refine (count_any tb zb room clock z q none none 0 _ HTB.out hlk (len_none _)).mono ?_
  rintro e W1 ⟨rfl, hw1⟩
  rw [hw1]
  clear hw1
  go_wp2_with fail
  refine hK.out _ _ ⟨(cell_row A0.out 0).trans HC0.out, C0.out⟩ (fun hHeld2 => ?_)
  clear hK K hHeld hlk
  have hHeld := hHeld2
  clear hHeld2
  try simp only [List.getElem_toArray, List.getElem_cons_zero, List.getElem_cons_succ, Act.put, List.setIfInBounds_toArray, List.set_cons_zero, List.set_cons_succ]
  refine wpAnyH_take (i := 8) (v := ?_) rfl (by kernel_rfl) (by kernel_rfl) (by kernel_rfl) (fun _ _ _ h => h) (Or.inl ⟨by rfl, ?_⟩) (by assumption) ?_
  rotate_left
  · (intro w hSw; (try dsimp only at hSw); go_simp; try with_reducible rfl)
  try simp only [List.getElem_toArray, List.getElem_cons_zero, List.getElem_cons_succ, Act.put, List.setIfInBounds_toArray, List.set_cons_zero, List.set_cons_succ]
  refine wpAnyH_done (by kernel_rfl) ?_ _
  clear hHeld
  have A0' : Hid ((w.alloc (.cells cn 51)).drew.heap[w.heap.size]? = some (.cells cn 51 (0, 0))) := A0.out
  have BB : Hid (Below w.heap.size w (w.alloc (.cells cn 51)).drew) := (below1 _ _).drew
  generalize (w.alloc (.cells cn 51)).drew = V at *
  go_wp2_with (first
    | refine wpList_load_row rfl 51 _ rfl w.heap.size rfl 51 cn (0, 0) _ A0'.out Try.underlying51 rfl (by rw [HC13.out]; exact size13) ?_
    | fail)
  refine (HHO.out _ BB.out).mono ?_
  rintro e W2 ⟨rfl, h2⟩
  have H2 : Hid _ := h2
  clear h2
  go_wp2
  go_ret
  exact ⟨rfl, One.from H2.out BB.out hB⟩
end Go.Proofs.Ytjjehncnjcepkaa
