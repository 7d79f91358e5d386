/- Tuples turned; connections with Nat; knows, Count, nextEnd; a new table. Conditions: as said. -/
import Derived.Test.YtjjehncnjcepkaaCE
import Derived.Deep.RegionHeld3
namespace Go.Proofs.Ytjjehncnjcepkaa
open Go.RowKit
def turn (t : Tup) : Tup := (t.1, t.2.2.1, t.2.1, t.2.2.2.2, t.2.2.2.1)
theorem turn_turn (t : Tup) : turn (turn t) = t := rfl
set_option maxHeartbeats 400000 in
theorem turned_any (t : Tup) (w : World) : Calls Try.prog 25 #[tv t] w fun e w' => e = .returned (tv (turn t)) ∧ Below w.heap.size w w' := by
  obtain ⟨a0, a1, a2, a3, a4⟩ := t
  unfold tv tupC turn
  go_enter Try.func25, Try.ntmps25
  go_wp2
  exact bodyPost_ret (results_cell_row (p := 2) (ty := 44) rfl _ _ (w.heap.size + 1) 44 _ (0, 0) _ rfl (two_last _ _ _) Try.underlying44 rfl size5) rfl ⟨rfl, below2 _ _ _⟩
theorem neq_tup (a b : Tup) (W : World) : (binOp .neq 44 (tv a) (tv b)).run Try.prog W = .ok (.bool (!decide (a = b))) W := by
  obtain ⟨a0, a1, a2, a3, a4⟩ := a
  obtain ⟨b0, b1, b2, b3, b4⟩ := b
  unfold tv tupC
  by_cases h0 : a0 = b0
  · by_cases h1 : a1 = b1
    · by_cases h2 : a2 = b2
      · by_cases h3 : a3 = b3
        · by_cases h4 : a4 = b4
          · subst h0 h1 h2 h3 h4; simp [go_sem]
          · subst h0 h1 h2 h3; simp [go_sem, h4]
        · subst h0 h1 h2; simp [go_sem, h3]
      · subst h0 h1; simp [go_sem, h2]
    · subst h0; simp [go_sem, h1]
  · simp [go_sem, h0]
theorem guard_tup (x y : Operand) (a b : Tup) (W : World) : (eqGuard .neq 44 x y (tv a) (tv b)).run Try.prog W = .ok () W := by
  obtain ⟨a0, a1, a2, a3, a4⟩ := a
  obtain ⟨b0, b1, b2, b3, b4⟩ := b
  first | kernel_rfl | (unfold tv tupC; simp [go_sem])
/-- A connection by its numbers. -/
def connC (z : Int) (o r : Tup) (nat : Bool) (ex : Int) : Array Value := #[.int .i64 z, .int .i64 o.1, .int .u32 o.2.1, .int .u32 o.2.2.1, .int .i64 o.2.2.2.1, .int .i64 o.2.2.2.2, .int .i64 r.1, .int .u32 r.2.1, .int .u32 r.2.2.1, .int .i64 r.2.2.2.1, .int .i64 r.2.2.2.2, .bool nat, .int .i64 ex]
theorem size13 : (Try.prog.info? 51).map (·.size) = some 13 := by kernel_rfl
theorem conn_orig (z : Int) (o r : Tup) (nat : Bool) (ex : Int) : (connC z o r nat ex).extract 1 (1 + 5) = tupC o.1 o.2.1 o.2.2.1 o.2.2.2.1 o.2.2.2.2 := by kernel_rfl
theorem conn_reply (z : Int) (o r : Tup) (nat : Bool) (ex : Int) : (connC z o r nat ex).extract 6 (6 + 5) = tupC r.1 r.2.1 r.2.2.1 r.2.2.2.1 r.2.2.2.2 := by kernel_rfl
theorem yields_loadA {ops : Array Oper} {S : World → Prop} {op : Oper} {a : Act} (hw : Region.wanted op (yielded ops a.tmps) = true) (ty : TypeId) (x : Operand) (ho : op.op = .load ty x)
    (b o n : Nat) (hx : a.eval x = .pointer (some ⟨b, o, none⟩)) (t : TypeId) (cs L : Array Value) (d : TypeDesc) (hS : ∀ w, S w → w.heap[b]? = some (.cells cs t (0, 0))) (hL : cs.extract o (o + n) = L) (hn : L.size = n)
    (hu : Try.prog.underlying ty = some d) (hd : d.isRow = true) (hi : (Try.prog.info? ty).map (·.size) = some n) : YieldsIf Try.prog ops S op (.agg L) a := by
  have := yieldsIf_load_mid (P := Try.prog) (ops := ops) (S := S) (op := op) (a := a) hw ty x ho b o hx L.toList d (fun w hw' => by
    have h := World.rangeAt_of_block (hS w hw') o n
    rw [hL] at h
    exact h) hu hd (by simpa [hn] using hi)
  simpa using this
set_option linter.unusedSimpArgs false in
set_option maxRecDepth 20000 in
set_option maxHeartbeats 1000000 in
theorem isNat_any (z : Int) (o r : Tup) (nat : Bool) (ex : Int) (w : World) : Calls Try.prog 26 #[.agg (connC z o r nat ex)] w fun e w' => e = .returned (.bool (!decide (r = turn o))) ∧ Below w.heap.size w w' := by
  obtain ⟨cn, hcn⟩ : ∃ cn, connC z o r nat ex = cn := ⟨_, rfl⟩
  have HO : Hid (cn.extract 1 (1 + 5) = tupC o.1 o.2.1 o.2.2.1 o.2.2.2.1 o.2.2.2.2) := by show _ = _; rw [← hcn]; exact conn_orig _ _ _ _ _
  have HR : Hid (cn.extract 6 (6 + 5) = tupC r.1 r.2.1 r.2.2.1 r.2.2.2.1 r.2.2.2.2) := by show _ = _; rw [← hcn]; exact conn_reply _ _ _ _ _
  rw [hcn]
  have key : ∀ W, Below (w.heap.size + 1) (w.alloc (.cells cn 51)) W → W.heap[w.heap.size]? = some (.cells cn 51 (0, 0)) ∧ Below w.heap.size w W := fun W hb =>
    ⟨(hb.block _ (by omega)).trans (heap_alloc_new _ _), (below1 w _).trans (hb.mono (by omega))⟩
  have KC : Hid _ := key
  have hne := neq_tup r (turn o)
  have hgd := fun x y W => guard_tup x y r (turn o) W
  clear hcn key
  go_enter Try.func26, Try.ntmps26
  go_wp2_with fail
  refine wp_region_held_drew (S := (fun W => W.heap[w.heap.size]? = some (.cells cn 51 (0, 0)) ∧ Below w.heap.size w W)) (by kernel_rfl) ?_ (fun hHeld => ?_)
  · exact KC.out _ (Below.refl _ _).drew
  refine wpAnyH_take (i := 0) (v := ?_) rfl (by kernel_rfl) (by kernel_rfl) (by kernel_rfl) (fun _ _ _ h => h) (Or.inl ⟨by rfl, ?_⟩) (by assumption) ?_
  rotate_left
  · (intro w hSw; (try dsimp only at hSw); go_simp; try with_reducible rfl)
  try simp only [List.getElem_toArray, List.getElem_cons_zero, List.getElem_cons_succ, Act.put, List.setIfInBounds_toArray, List.set_cons_zero, List.set_cons_succ]
  refine wpAnyH_take (i := 1) (v := tv r) rfl (by kernel_rfl) (by kernel_rfl) (by kernel_rfl) (fun _ _ _ h => h) (yields_loadA (by rfl) 44 _ rfl w.heap.size 6 5 rfl 51 cn _ _ (fun _ h => h.1) HR.out rfl Try.underlying44 rfl size5) (by assumption) ?_
  try simp only [List.getElem_toArray, List.getElem_cons_zero, List.getElem_cons_succ, Act.put, List.setIfInBounds_toArray, List.set_cons_zero, List.set_cons_succ]
  refine wpAnyH_take (i := 2) (v := ?_) rfl (by kernel_rfl) (by kernel_rfl) (by kernel_rfl) (fun _ _ _ h => h) (Or.inl ⟨by rfl, ?_⟩) (by assumption) ?_
  rotate_left
  · (intro w hSw; (try dsimp only at hSw); go_simp; try with_reducible rfl)
  try simp only [List.getElem_toArray, List.getElem_cons_zero, List.getElem_cons_succ, Act.put, List.setIfInBounds_toArray, List.set_cons_zero, List.set_cons_succ]
  refine wpAnyH_take (i := 3) (v := tv o) rfl (by kernel_rfl) (by kernel_rfl) (by kernel_rfl) (fun _ _ _ h => h) (yields_loadA (by rfl) 44 _ rfl w.heap.size 1 5 rfl 51 cn _ _ (fun _ h => h.1) HO.out rfl Try.underlying44 rfl size5) (by assumption) ?_
  try simp only [List.getElem_toArray, List.getElem_cons_zero, List.getElem_cons_succ, Act.put, List.setIfInBounds_toArray, List.set_cons_zero, List.set_cons_succ]
  refine wpAnyH_ready (rs := [4]) (by kernel_rfl) (by simp) ?_
  refine AllReadyH.cons (o := _) rfl (fun K hK => ?_) AllReadyH.nil
  go_simp
  refine (turned_any o _).mono ?_
  rintro e W1 ⟨rfl, hb1⟩
  go_wp2_with fail
  have k1 := KC.out W1 (((Below.refl _ _).drew).trans (hb1.mono (by simp)))
  refine hK.out _ _ k1 (fun hHeld2 => ?_)
  clear hK K hHeld hb1
  have hHeld := hHeld2
  clear hHeld2
  try simp only [List.getElem_toArray, List.getElem_cons_zero, List.getElem_cons_succ, Act.put, List.setIfInBounds_toArray, List.set_cons_zero, List.set_cons_succ]
  refine wpAnyH_take (i := 5) (v := ?_) rfl (by kernel_rfl) (by kernel_rfl) (by kernel_rfl) (fun _ _ _ h => h) (Or.inl ⟨by rfl, ?_⟩) (by assumption) ?_
  rotate_left
  · (intro w hSw; (try dsimp only at hSw); go_simp; try with_reducible rfl)
  try simp only [List.getElem_toArray, List.getElem_cons_zero, List.getElem_cons_succ, Act.put, List.setIfInBounds_toArray, List.set_cons_zero, List.set_cons_succ]
  refine wpAnyH_take (i := 6) (v := ?_) rfl (by kernel_rfl) (by kernel_rfl) (by kernel_rfl) (fun _ _ _ h => h) (Or.inl ⟨by rfl, ?_⟩) (by assumption) ?_
  rotate_left
  · (intro w hSw; (try dsimp only at hSw); go_simp; try with_reducible rfl)
  try simp only [List.getElem_toArray, List.getElem_cons_zero, List.getElem_cons_succ, Act.put, List.setIfInBounds_toArray, List.set_cons_zero, List.set_cons_succ]
  refine wpAnyH_done (by kernel_rfl) ?_ _
  go_wp2
  go_ret
  exact ⟨rfl, k1.2⟩
set_option maxHeartbeats 400000 in
theorem knows_any (m1 m2 : Option Nat) (t : Tup) (p1 p2 : Option Addr) (w : World)
    (h1 : ∀ W, Below w.heap.size w W → (Instr.lookup 58 (.map m1) (tv t) false).run Try.prog W = .ok (.pointer p1) W) (h2 : ∀ W, Below w.heap.size w W → (Instr.lookup 58 (.map m2) (tv t) false).run Try.prog W = .ok (.pointer p2) W) :
    Calls Try.prog 27 #[.agg #[.map m1, .map m2], tv t] w fun e w' => e = .returned (.bool (p1.isSome || p2.isSome)) ∧ Below w.heap.size w w' := by
  have hb2 := below2 w (.cells #[.map m1, .map m2] 60) (.cells (tupC t.1 t.2.1 t.2.2.1 t.2.2.2.1 t.2.2.2.2) 44)
  have HF : Hid _ := find_any m1 m2 t p1 p2 _ (fun W hW => h1 W (hb2.trans (hW.mono (by simp; omega)))) (fun W hW => h2 W (hb2.trans (hW.mono (by simp; omega))))
  have HB2 : Hid _ := hb2
  have hne := neq_pent
  have HT : Hid _ := two_last w (.cells #[.map m1, .map m2] 60) (.cells (tupC t.1 t.2.1 t.2.2.1 t.2.2.2.1 t.2.2.2.2) 44)
  clear h1 h2 hb2
  go_enter Try.func27, Try.ntmps27
  unfold tv
  go_wp2_with (first
    | refine wpList_load_row rfl 44 _ rfl (w.heap.size + 1) rfl 44 (tupC t.1 t.2.1 t.2.2.1 t.2.2.2.1 t.2.2.2.2) (0, 0) _ HT.out Try.underlying44 rfl size5 ?_
    | fail)
  refine Calls.mono HF.out ?_
  cases p1 with
  | some a =>
    rintro e W1 ⟨rfl, hb1⟩
    have HB1 : Hid (Below w.heap.size w W1) := HB2.out.trans (hb1.mono (by simp; omega))
    clear hb1
    go_wp2
    go_ret
    exact ⟨rfl, HB1.out⟩
  | none =>
    cases p2 with
    | some a =>
      rintro e W1 ⟨rfl, hb1⟩
      have HB1 : Hid (Below w.heap.size w W1) := HB2.out.trans (hb1.mono (by simp; omega))
      clear hb1
      go_wp2
      go_ret
      exact ⟨rfl, HB1.out⟩
    | none =>
      rintro e W1 ⟨rfl, hb1⟩
      have HB1 : Hid (Below w.heap.size w W1) := HB2.out.trans (hb1.mono (by simp; omega))
      clear hb1
      go_wp2
      go_ret
      exact ⟨rfl, HB1.out⟩
set_option maxHeartbeats 400000 in
theorem nextEnd_any (tb zb : Nat) (room clock : Int) (hc : 0 ≤ clock ∧ clock ≤ 4611686018427387904) (q : Value) (w : World) (h : w.heap[tb]? = some (.cells (tabV room clock zb q) 65 (0, 0))) :
    Calls Try.prog 23 #[.pointer (some ⟨tb, 0, none⟩)] w fun e w' => e = .returned (.int .i64 (clock + 30)) ∧ w' = w := by
  have c1 : w.cell? ⟨tb, 1, none⟩ = some (.int .i64 clock) := cell_row h 1
  clear h
  go_enter Try.func23, Try.ntmps23
  go_wp2
  go_ret
  exact ⟨rfl, rfl⟩
set_option maxHeartbeats 400000 in
theorem newTable_any (room clock : Int) (w : World) : Calls Try.prog 12 #[.int .i64 room, .int .i64 clock] w fun e w' => e = .returned (.pointer (some ⟨w.heap.size + 1, 0, none⟩)) ∧ w' = (w.alloc (.map #[] 0)).alloc (.cells (tabV room clock w.heap.size (.slice none 0 0)) 65) := by
  have hmm := @run_makeMap Try.prog
  go_enter Try.func12, Try.ntmps12
  go_wp2
  go_ret
  exact ⟨rfl, rfl⟩
set_option maxHeartbeats 400000 in
theorem new_any (room : Int) (h1 : 1 ≤ room) (h2 : room ≤ 65536) (w : World) : Calls Try.prog 5 #[.int .i64 room] w fun e w' => e = .returned (.tuple #[.pointer (some ⟨w.heap.size + 1, 0, none⟩), .int .i64 0]) ∧ w' = (w.alloc (.map #[] 0)).alloc (.cells (tabV room 0 w.heap.size (.slice none 0 0)) 65) := by
  go_enter Try.func5, Try.ntmps5
  go_wp2_with fail
  refine (newTable_any room 0 _).mono ?_
  rintro e W1 ⟨rfl, rfl⟩
  go_wp2
  go_ret2
  exact ⟨rfl, rfl⟩
end Go.Proofs.Ytjjehncnjcepkaa
