/- An entry put into a queue; heap.Push where nothing has to move. Conditions: as said. -/
import Derived.Test.YtijeakggeichcaaGreatDoorQG
import Derived.Maps.AppendAt
import Derived.OwnWalk
import Derived.Lib.Hide
namespace Go.Proofs.YtijeakggeichcaaGreatDoor
open Go.RowKit
/-- An entry by its cells. -/
abbrev enC (p : Int) (s : Value) (id : Int) (tb : Nat) (at_ : Int) : Array Value := #[.int .i64 p, s, .int .i64 id, .pointer (some ⟨tb, 0, none⟩), .int .i64 at_]
abbrev quC (v : Value) : Array Value := #[v]
theorem infoQ : (Tryz.prog.info? 69).map (fun i => (i.zero, i.size, i.bytes)) = some (some (.pointer none), 1, 8) := by kernel_rfl
theorem run_queue1 (eb : Nat) (w : World) : (Instr.buildSlice 103 1 #[(0, .pointer (some ⟨eb, 0, none⟩))]).run Tryz.prog w = .ok (.slice (some ⟨w.heap.size, 0, none⟩) 1 1) (w.alloc (.cells #[.pointer (some ⟨eb, 0, none⟩)] 69)) := by
  kernel_rfl
theorem run_assert (eb : Nat) (w : World) : (Instr.typeAssert (.iface 69 (.pointer (some ⟨eb, 0, none⟩))) 20 69 false).run Tryz.prog w = .ok (.pointer (some ⟨eb, 0, none⟩)) w := by
  first | kernel_rfl | simp [Instr.typeAssert, go_sem]
theorem own_apart {w : World} {B b : Nat} {e t : TypeId} {v : Value} {n : Nat} {xs : List Value} {C : Array Value} (h : w.ownsRow B e 1 v n xs) (hb : w.heap[b]? = some (.cells C t (0, 0))) (ht : t ≠ e) : v.ownBlock ≠ some b := by
  rcases h.2 with ⟨rfl, _⟩ | ⟨g, cap, cur, rfl, _, hg, _⟩
  · simp [Value.ownBlock]
  · simp only [Value.ownBlock, ne_eq, Option.some.injEq]
    intro e; subst e
    rw [hg] at hb
    simp at hb
    exact ht hb.2.symm
theorem own_apart_map {w : World} {B b : Nat} {e : TypeId} {v : Value} {n : Nat} {xs : List Value} {M : Array MapEntry} {c : Nat} (h : w.ownsRow B e 1 v n xs) (hb : w.heap[b]? = some (.map M c)) : v.ownBlock ≠ some b := by
  rcases h.2 with ⟨rfl, _⟩ | ⟨g, cap, cur, rfl, _, hg, _⟩
  · simp [Value.ownBlock]
  · simp only [Value.ownBlock, ne_eq, Option.some.injEq]
    intro e; subst e
    rw [hg] at hb
    cases hb
theorem own_slice {w : World} {B : Nat} {e : TypeId} {v : Value} {n : Nat} {xs : List Value} (h : w.ownsRow B e 1 v n xs) : ∃ a c, v = .slice a n c := by
  rcases h.2 with ⟨e, rfl⟩ | ⟨g, cap, cur, e, _⟩
  · exact ⟨none, 0, e⟩
  · exact ⟨_, _, e⟩
set_option maxRecDepth 20000 in
set_option maxHeartbeats 1000000 in
theorem qPush_any (qb eb B n : Nat) (hn : n ≤ 100000) (q : Value) (xs : List Value) (p id : Int) (s : Value) (tb : Nat) (pl : Int) (w : World) (h : w.heap[qb]? = some (.cells (quC q) 103 (0, 0))) (he : w.heap[eb]? = some (.cells (enC p s id tb pl) 74 (0, 0))) (hq : w.ownsRow B 69 1 q n xs) (hB : B ≤ w.heap.size) (hBt : B ≤ qb) (hBe : B ≤ eb) :
    Calls Tryz.prog 176 #[.pointer (some ⟨qb, 0, none⟩), .iface 69 (.pointer (some ⟨eb, 0, none⟩))] w fun e w' => e = .returned (.tuple #[]) ∧ ∃ qa qc, w'.heap[qb]? = some (.cells (quC (.slice qa (n + 1) qc)) 103 (0, 0)) ∧ w'.heap[eb]? = some (.cells (enC p s id tb n) 74 (0, 0)) ∧ w'.ownsRow B 69 1 (.slice qa (n + 1) qc) (n + 1) (xs ++ [.pointer (some ⟨eb, 0, none⟩)]) ∧ (∀ g, g < w.heap.size → g ≠ qb → g ≠ eb → some g ≠ q.ownBlock → w'.heap[g]? = w.heap[g]?) ∧ Below B w w' := by
  obtain ⟨i0, hi, hz0, hz1, hz2⟩ := info_parts infoQ
  obtain ⟨qa0, qc0, rfl⟩ := own_slice hq
  have c3 : w.cell? ⟨qb, 0, none⟩ = some (.slice qa0 n qc0) := cell_row h 0
  have f3 := frozen_of_row w _ 0 _ _ h
  have c13 : w.cell? ⟨eb, 4, none⟩ = some (.int .i64 pl) := cell_row he 4
  have f13 := frozen_of_row w _ 4 _ _ he
  have hte : qb ≠ eb := fun e => by subst e; rw [h] at he; cases he
  have hle := lt_of_heap he
  have hlt := lt_of_heap h
  have HA1 : Hid _ := own_apart hq he (by decide)
  have HA2 : Hid _ := own_apart hq h (by decide)
  have hsc : (w.setCell ⟨eb, 4, none⟩ (.int .i64 n)).heap.size = w.heap.size := by simp [World.setCell]
  have hown2 : ((w.setCell ⟨eb, 4, none⟩ (.int .i64 n)).alloc (.cells #[.pointer (some ⟨eb, 0, none⟩)] 69)).ownsRow B 69 1 (.slice qa0 n qc0) n xs := (ownsRow_setCell_other hq HA1.out _).alloc _
  have HOW : Hid _ := hown2
  have HC1 : Hid _ := cell_one_new (w.setCell ⟨eb, 4, none⟩ (.int .i64 n)) (.pointer (some ⟨eb, 0, none⟩)) 69
  have h1c : ∀ u ∈ ([.pointer (some ⟨eb, 0, none⟩)] : List Value), u.oneCell' = true := fun u hu => by simp at hu; subst hu; rfl
  have H1C : Hid _ := h1c
  have hmx : n + 1 ≤ maxLen := by unfold maxLen; omega
  have HMX : Hid _ := hmx
  have hBa : B ≤ ((w.setCell ⟨eb, 4, none⟩ (.int .i64 n)).alloc (.cells #[.pointer (some ⟨eb, 0, none⟩)] 69)).heap.size := by simp [World.setCell]; omega
  have HBA : Hid _ := hBa
  have H : Hid _ := h
  have HE : Hid _ := he
  have hta := run_assert eb
  have hqb := run_queue1 eb
  clear h he hq hown2 h1c hmx hBa
  go_enter Tryz.func176, Tryz.ntmps176
  go_wp2_with (first
    | (at_builtin; refine wpList_append_own_at _ rfl _ _ 103 rfl B 69 i0 (.pointer none) 1 8 Tryz.underlying103 hi hz0 hz1 hz2 rfl (by decide) (.slice qa0 n qc0) n xs rfl HOW.out ⟨w.heap.size, 0, none⟩ 1 1 [.pointer (some ⟨eb, 0, none⟩)] rfl rfl (by first | exact HC1.out | (rw [← hsc]; exact HC1.out)) H1C.out HMX.out (by omega) HBA.out ?_)
    | fail)
  intro v' W1 ho hg _ _
  obtain ⟨qa, qc, rfl⟩ := own_slice ho
  have hs1 : ((w.setCell ⟨eb, 4, none⟩ (.int .i64 n)).alloc (.cells #[.pointer (some ⟨eb, 0, none⟩)] 69)).heap.size = w.heap.size + 1 := by simp [World.setCell]
  have old : ∀ g, g < w.heap.size → g ≠ eb → some g ≠ (Value.slice qa0 n qc0).ownBlock → W1.heap[g]? = w.heap[g]? := fun g hg1 hg2 hg3 =>
    (hg.block g (by omega) hg3).trans ((heap_alloc_old _ _ (by omega)).trans (Below.heap_setCell _ _ _ _ hg2))
  have t1 : W1.heap[qb]? = some (.cells (quC (.slice qa0 n qc0)) 103 (0, 0)) := (old _ hlt hte (fun e => HA2.out e.symm)).trans H.out
  have e1 : W1.heap[eb]? = some (.cells (enC p s id tb n) 74 (0, 0)) := (hg.block eb (by omega) (fun e => HA1.out e.symm)).trans ((heap_alloc_old _ _ (by omega)).trans (row_setCell HE.out 4 _))
  have d3 : W1.cell? ⟨qb, 0, none⟩ = some (.slice qa0 n qc0) := cell_row t1 0
  have g3 := frozen_of_row W1 _ 0 _ _ t1
  have hb9 : Below B w W1 := (((Below.refl B w).setCell hBe _).alloc (by omega) _).grown hg (by omega) (fun k hk => (World.ownsRow.lt HOW.out k hk).1)
  have T1 : Hid _ := t1
  have E1 : Hid _ := e1
  have OLD : Hid _ := old
  have OW : Hid _ := ho
  have HB9 : Hid _ := hb9
  clear ho hg old t1 e1 hb9 c3 f3 c13 f13 hta hqb
  go_wp2
  go_end0
  refine ⟨rfl, qa, qc, row_setCell T1.out 0 _, (Below.heap_setCell _ _ _ _ (fun e => hte e.symm)).trans E1.out, ownsRow_setCell_other OW.out (own_apart OW.out T1.out (by decide)) _, fun g h1 h2 h3 h4 => (Below.heap_setCell _ _ _ _ h2).trans (OLD.out g h1 h3 h4), HB9.out.setCell hBt _⟩
theorem nilchk (ats : Array TypeId) (ty : TypeId) (a : Addr) (s n : String) (W : World) : (Builtin.ssaWrapNilChk_ ats ty #[.pointer (some a), strVal s, strVal n]).run Tryz.prog W = .ok (.pointer (some a)) W := rfl
theorem run_meth (name : String) (f : Nat) (hr0 : (Tryz.prog.info? 102).map (fun i => (i.methods.find? (·.name == name)).map (fun m => (m.path.size, m.func))) = some (some (0, some (f, false)))) (a : Addr) (W : World) (v : Value) (hv : (loadVar 103 a).run Tryz.prog W = .ok v W) : (method 323 102 (.pointer (some a)) name).run Tryz.prog W = .ok (f, v) W := by
  have hr := hr0
  cases hi : Tryz.prog.info? 102 with
  | none => rw [hi] at hr; cases hr
  | some i =>
    rw [hi] at hr
    simp only [Option.map_some, Option.some.injEq] at hr
    cases hm : i.methods.find? (·.name == name) with
    | none => rw [hm] at hr; cases hr
    | some m =>
      rw [hm] at hr
      simp only [Option.map_some, Option.some.injEq, Prod.mk.injEq] at hr
      obtain ⟨hp, hf⟩ := hr
      have hp0 : m.path = #[] := Array.size_eq_zero_iff.1 hp
      have ht : (typeInfo 102).run Tryz.prog W = .ok i W := by simp [typeInfo, hi]
      unfold method
      simp only [Sem.run_bind, ht, Result.andThen_ok, hm, hp0, follow, Sem.run_pure, hf, receiverAt, run_underlying Tryz.underlying102, Place.get, Array.isEmpty_empty, if_true, nilchk, asAddr, hv]
theorem load_queue {a : Addr} {W : World} {v : Value} (h : W.cell? a = some v) : (loadVar 103 a).run Tryz.prog W = .ok v W := by
  simp [go_sem, loadVar, h]
theorem meth_len {a : Addr} {W : World} {v : Value} (h : W.cell? a = some v) : (method 323 102 (.pointer (some a)) "Len").run Tryz.prog W = .ok (53, v) W := run_meth "Len" _ (by kernel_rfl) a W v (load_queue h)
theorem meth_less {a : Addr} {W : World} {v : Value} (h : W.cell? a = some v) : (method 323 102 (.pointer (some a)) "Less").run Tryz.prog W = .ok (174, v) W := run_meth "Less" _ (by kernel_rfl) a W v (load_queue h)
set_option maxHeartbeats 400000 in
theorem qLen_any (a : Option Addr) (n c : Nat) (w : World) : Calls Tryz.prog 53 #[.slice a n c] w fun e w' => e = .returned (.int .i64 n) ∧ w' = w := by
  go_enter Tryz.func53, Tryz.ntmps53
  go_wp2
  go_ret
  exact ⟨rfl, rfl⟩
set_option maxRecDepth 20000 in
set_option maxHeartbeats 1000000 in
theorem up_zero (x : Value) (w : World) : Calls Tryz.prog 64 #[x, .int .i64 0] w fun e w' => e = .returned (.tuple #[]) ∧ w' = w := by
  go_enter Tryz.func64, Tryz.ntmps64
  go_wp2_with fail
  go_loopw [1] (fun i wr => i = .int .i64 0 ∧ wr = w) (fun _ _ => 0)
  case atStart => exact ⟨rfl, rfl⟩
  case round =>
    obtain ⟨rfl, rfl⟩ := hrel
    go_wp2
    go_end0
    exact ⟨rfl, rfl⟩
set_option maxRecDepth 20000 in
set_option maxHeartbeats 1000000 in
theorem hPush_zero (qb eb B : Nat) (q : Value) (p id : Int) (s : Value) (tb : Nat) (pl : Int) (w : World) (h : w.heap[qb]? = some (.cells (quC q) 103 (0, 0))) (he : w.heap[eb]? = some (.cells (enC p s id tb pl) 74 (0, 0))) (hq : w.ownsRow B 69 1 q 0 []) (hB : B ≤ w.heap.size) (hBt : B ≤ qb) (hBe : B ≤ eb) :
    Calls Tryz.prog 40 #[.iface 102 (.pointer (some ⟨qb, 0, none⟩)), .iface 69 (.pointer (some ⟨eb, 0, none⟩))] w fun e w' => e = .returned (.tuple #[]) ∧ ∃ qa qc, w'.heap[qb]? = some (.cells (quC (.slice qa 1 qc)) 103 (0, 0)) ∧ w'.heap[eb]? = some (.cells (enC p s id tb 0) 74 (0, 0)) ∧ w'.ownsRow B 69 1 (.slice qa 1 qc) 1 [.pointer (some ⟨eb, 0, none⟩)] ∧ (∀ g, g < w.heap.size → g ≠ qb → g ≠ eb → some g ≠ q.ownBlock → w'.heap[g]? = w.heap[g]?) ∧ Below B w w' := by
  have HP : Hid _ := qPush_any qb eb B 0 (by omega) q [] p id s tb pl w h he hq hB hBt hBe
  clear h he hq
  go_enter Tryz.func40, Tryz.ntmps40
  go_wp2_with fail
  refine Calls.mono HP.out ?_
  rintro e W1 ⟨rfl, qa, qc, t1, e1, o1, n1, b1⟩
  have c3 : W1.cell? ⟨qb, 0, none⟩ = some (.slice qa 1 qc) := cell_row t1 0
  have K1 : Hid _ := And.intro t1 (And.intro e1 (And.intro o1 (And.intro n1 b1)))
  clear t1 e1 o1 n1 b1
  have hm := meth_len c3
  go_wp2_with fail
  refine (qLen_any qa 1 qc _).mono ?_
  rintro e W2 ⟨rfl, hw2⟩
  rw [hw2]
  clear hw2 hm
  go_wp2_with fail
  refine (up_zero _ _).mono ?_
  rintro e W3 ⟨rfl, hw3⟩
  rw [hw3]
  clear hw3
  go_wp2
  go_end0
  exact ⟨rfl, qa, qc, K1.out⟩
end Go.Proofs.YtijeakggeichcaaGreatDoor
