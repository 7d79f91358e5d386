/- An entry put into an empty queue. Conditions: as said. -/
import Derived.Test.YtjjehncnjcepkaaCH
import Derived.Maps.AppendAt
import Derived.OwnWalk
namespace Go.Proofs.Ytjjehncnjcepkaa
open Go.RowKit
theorem infoP : (Try.prog.info? 66).map (fun i => (i.zero, i.size, i.bytes)) = some (some (.pointer none), 1, 8) := by kernel_rfl
theorem run_queue1 (eb : Nat) (w : World) : (Instr.buildSlice 63 1 #[(0, .pointer (some ⟨eb, 0, none⟩))]).run Try.prog w = .ok (.slice (some ⟨w.heap.size, 0, none⟩) 1 1) (w.alloc (.cells #[.pointer (some ⟨eb, 0, none⟩)] 66)) := by
  kernel_rfl
theorem run_assert (eb : Nat) (w : World) : (Instr.typeAssert (.iface 66 (.pointer (some ⟨eb, 0, none⟩))) 20 66 false).run Try.prog w = .ok (.pointer (some ⟨eb, 0, none⟩)) w := by
  first | kernel_rfl | simp [Instr.typeAssert, go_sem]
theorem own_apart {w : World} {B b : Nat} {e t : TypeId} {v : Value} {n : Nat} {xs : List Value} {C : Array Value} (h : w.ownsRow B e 1 v n xs) (hb : w.heap[b]? = some (.cells C t (0, 0))) (ht : t ≠ e) : v.ownBlock ≠ some b := by
  rcases h.2 with ⟨rfl, _⟩ | ⟨g, cap, cur, rfl, _, hg, _⟩
  · simp [Value.ownBlock]
  · simp only [Value.ownBlock, ne_eq, Option.some.injEq]
    intro e; subst e
    rw [hg] at hb
    simp at hb
    exact ht hb.2.symm
theorem own_apart_map {w : World} {B b : Nat} {e : TypeId} {v : Value} {n : Nat} {xs : List Value} {M : Array MapEntry} {c : Nat} (h : w.ownsRow B e 1 v n xs) (hb : w.heap[b]? = some (.map M c)) : v.ownBlock ≠ some b := by
  rcases h.2 with ⟨rfl, _⟩ | ⟨g, cap, cur, rfl, _, hg, _⟩
  · simp [Value.ownBlock]
  · simp only [Value.ownBlock, ne_eq, Option.some.injEq]
    intro e; subst e
    rw [hg] at hb
    cases hb
theorem own_slice {w : World} {B : Nat} {e : TypeId} {v : Value} {n : Nat} {xs : List Value} (h : w.ownsRow B e 1 v n xs) : ∃ a c, v = .slice a n c := by
  rcases h.2 with ⟨e, rfl⟩ | ⟨g, cap, cur, e, _⟩
  · exact ⟨none, 0, e⟩
  · exact ⟨_, _, e⟩
set_option maxRecDepth 20000 in
set_option maxHeartbeats 1000000 in
theorem qPush_any (tb zb eb B n : Nat) (hn : n ≤ 100000) (room clock : Int) (q : Value) (xs : List Value) (z : Int) (o r : Tup) (nat : Bool) (ex pl : Int) (w : World) (h : w.heap[tb]? = some (.cells (tabV room clock zb q) 65 (0, 0))) (he : w.heap[eb]? = some (.cells (entC z o r nat ex pl) 68 (0, 0))) (hq : w.ownsRow B 66 1 q n xs) (hB : B ≤ w.heap.size) (hBt : B ≤ tb) (hBe : B ≤ eb) :
    Calls Try.prog 93 #[.pointer (some ⟨tb, 3, none⟩), .iface 66 (.pointer (some ⟨eb, 0, none⟩))] w fun e w' => e = .returned (.tuple #[]) ∧ ∃ qa qc, w'.heap[tb]? = some (.cells (tabV room clock zb (.slice qa (n + 1) qc)) 65 (0, 0)) ∧ w'.heap[eb]? = some (.cells (entC z o r nat ex n) 68 (0, 0)) ∧ w'.ownsRow B 66 1 (.slice qa (n + 1) qc) (n + 1) (xs ++ [.pointer (some ⟨eb, 0, none⟩)]) ∧ (∀ g, g < w.heap.size → g ≠ tb → g ≠ eb → some g ≠ q.ownBlock → w'.heap[g]? = w.heap[g]?) ∧ Below B w w' := by
  obtain ⟨i0, hi, hz0, hz1, hz2⟩ := info_parts infoP
  obtain ⟨qa0, qc0, rfl⟩ := own_slice hq
  have c3 : w.cell? ⟨tb, 3, none⟩ = some (.slice qa0 n qc0) := cell_row h 3
  have f3 := frozen_of_row w _ 3 _ _ h
  have c13 : w.cell? ⟨eb, 13, none⟩ = some (.int .i64 pl) := cell_row he 13
  have f13 := frozen_of_row w _ 13 _ _ he
  have hte : tb ≠ eb := fun e => by subst e; rw [h] at he; cases he
  have hle := lt_of_heap he
  have hlt := lt_of_heap h
  have HA1 : Hid _ := own_apart hq he (by decide)
  have HA2 : Hid _ := own_apart hq h (by decide)
  have hsc : (w.setCell ⟨eb, 13, none⟩ (.int .i64 n)).heap.size = w.heap.size := by simp [World.setCell]
  have hown2 : ((w.setCell ⟨eb, 13, none⟩ (.int .i64 n)).alloc (.cells #[.pointer (some ⟨eb, 0, none⟩)] 66)).ownsRow B 66 1 (.slice qa0 n qc0) n xs := (ownsRow_setCell_other hq HA1.out _).alloc _
  have HOW : Hid _ := hown2
  have HC1 : Hid _ := cell_one_new (w.setCell ⟨eb, 13, none⟩ (.int .i64 n)) (.pointer (some ⟨eb, 0, none⟩)) 66
  have h1c : ∀ u ∈ ([.pointer (some ⟨eb, 0, none⟩)] : List Value), u.oneCell' = true := fun u hu => by simp at hu; subst hu; rfl
  have H1C : Hid _ := h1c
  have hmx : n + 1 ≤ maxLen := by unfold maxLen; omega
  have HMX : Hid _ := hmx
  have hBa : B ≤ ((w.setCell ⟨eb, 13, none⟩ (.int .i64 n)).alloc (.cells #[.pointer (some ⟨eb, 0, none⟩)] 66)).heap.size := by simp [World.setCell]; omega
  have HBA : Hid _ := hBa
  have H : Hid _ := h
  have HE : Hid _ := he
  have hta := run_assert eb
  have hqb := run_queue1 eb
  clear h he hq hown2 h1c hmx hBa
  go_enter Try.func93, Try.ntmps93
  go_wp2_with (first
    | (at_builtin; refine wpList_append_own_at _ rfl _ _ 63 rfl B 66 i0 (.pointer none) 1 8 Try.underlying63 hi hz0 hz1 hz2 rfl (by decide) (.slice qa0 n qc0) n xs rfl HOW.out ⟨w.heap.size, 0, none⟩ 1 1 [.pointer (some ⟨eb, 0, none⟩)] rfl rfl (by first | exact HC1.out | (rw [← hsc]; exact HC1.out)) H1C.out HMX.out (by omega) HBA.out ?_)
    | fail)
  intro v' W1 ho hg _ _
  obtain ⟨qa, qc, rfl⟩ := own_slice ho
  have hs1 : ((w.setCell ⟨eb, 13, none⟩ (.int .i64 n)).alloc (.cells #[.pointer (some ⟨eb, 0, none⟩)] 66)).heap.size = w.heap.size + 1 := by simp [World.setCell]
  have old : ∀ g, g < w.heap.size → g ≠ eb → some g ≠ (Value.slice qa0 n qc0).ownBlock → W1.heap[g]? = w.heap[g]? := fun g hg1 hg2 hg3 =>
    (hg.block g (by omega) hg3).trans ((heap_alloc_old _ _ (by omega)).trans (Below.heap_setCell _ _ _ _ hg2))
  have t1 : W1.heap[tb]? = some (.cells (tabV room clock zb (.slice qa0 n qc0)) 65 (0, 0)) := (old _ hlt hte (fun e => HA2.out e.symm)).trans H.out
  have e1 : W1.heap[eb]? = some (.cells (entC z o r nat ex n) 68 (0, 0)) := (hg.block eb (by omega) (fun e => HA1.out e.symm)).trans ((heap_alloc_old _ _ (by omega)).trans (row_setCell HE.out 13 _))
  have d3 : W1.cell? ⟨tb, 3, none⟩ = some (.slice qa0 n qc0) := cell_row t1 3
  have g3 := frozen_of_row W1 _ 3 _ _ t1
  have hb9 : Below B w W1 := (((Below.refl B w).setCell hBe _).alloc (by omega) _).grown hg (by omega) (fun k hk => (World.ownsRow.lt HOW.out k hk).1)
  have T1 : Hid _ := t1
  have E1 : Hid _ := e1
  have OLD : Hid _ := old
  have OW : Hid _ := ho
  have HB9 : Hid _ := hb9
  clear ho hg old t1 e1 hb9 c3 f3 c13 f13 hta hqb
  go_wp2
  go_end0
  refine ⟨rfl, qa, qc, row_setCell T1.out 3 _, (Below.heap_setCell _ _ _ _ (fun e => hte e.symm)).trans E1.out, ownsRow_setCell_other OW.out (own_apart OW.out T1.out (by decide)) _, fun g h1 h2 h3 h4 => (Below.heap_setCell _ _ _ _ h2).trans (OLD.out g h1 h3 h4), HB9.out.setCell hBt _⟩
end Go.Proofs.Ytjjehncnjcepkaa
