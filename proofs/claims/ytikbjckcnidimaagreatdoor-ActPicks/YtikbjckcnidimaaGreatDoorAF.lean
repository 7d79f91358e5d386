/- What becomes of the laws' ARP request: the State that lives asks with, and what ActArp makes of it. No condition. -/
import Derived.Test.YtikbjckcnidimaaGreatDoorAE
namespace Go.Proofs.YtikbjckcnidimaaGreatDoor
open Go.RowKit
def askC : Array Value := #[.int .u64 0, .int .u64 5, .bool false, .int .i64 0, .int .i64 2054, .bool true, .int .i64 1, .int .u64 5, .int .u32 6, .int .u64 0, .int .u32 7, .bool false, .int .i64 0, .int .i64 0, .int .i64 0, .int .i64 0, .int .i64 0, .int .u32 0, .int .u32 0, .string ⟨#[]⟩, .int .i64 0, .int .i64 0, .int .i64 0, .int .u32 0, .int .i64 0, .int .i64 0, .bool false, .int .u32 0, .int .u32 0, .int .i64 0, .int .i64 0, .int .i64 0, .string ⟨#[]⟩, .string ⟨#[]⟩, .string ⟨#[]⟩, .string ⟨#[]⟩, .int .i64 0, .int .i64 0, .int .i64 0, .int .i64 0, .int .u32 0, .int .u32 0, .int .u32 0, .int .u32 0, .int .i64 0, .int .u32 0, .int .u32 0, .int .i64 0, .int .i64 0]
def gotC : Array Value := #[.int .u64 5, .int .u64 9, .bool false, .int .i64 0, .int .i64 2054, .bool true, .int .i64 2, .int .u64 9, .int .u32 7, .int .u64 5, .int .u32 6, .bool false, .int .i64 0, .int .i64 0, .int .i64 0, .int .i64 0, .int .i64 0, .int .u32 0, .int .u32 0, .string ⟨#[]⟩, .int .i64 0, .int .i64 0, .int .i64 0, .int .u32 0, .int .i64 0, .int .i64 0, .bool false, .int .u32 0, .int .u32 0, .int .i64 0, .int .i64 0, .int .i64 0, .string ⟨#[]⟩, .string ⟨#[]⟩, .string ⟨#[]⟩, .string ⟨#[]⟩, .int .i64 0, .int .i64 0, .int .i64 0, .int .i64 0, .int .u32 0, .int .u32 0, .int .u32 0, .int .u32 0, .int .i64 0, .int .u32 0, .int .u32 0, .int .i64 0, .int .i64 0]
def arpA : Array Value := #[.int .i64 11, .int .i64 0, .int .i64 0, .int .u64 9, .int .u64 0, .int .i64 0, .int .i64 0, .slice none 0 0, .slice none 0 0, .int .u64 0, .int .u32 0, .int .u32 0, .int .u32 0, .int .u32 0, .int .u32 0]
def askP : Array Value := #[.int .u64 0, .int .u64 5, .bool false, .int .i64 0, .int .i64 2054, .bool true, .int .i64 1, .int .u64 5, .int .u32 6, .int .u64 0, .int .u32 7, .bool false, .int .i64 0, .int .i64 0, .int .i64 0, .int .i64 0, .int .i64 0, .int .u32 0, .int .u32 0, .string ⟨#[]⟩, .int .i64 0, .int .i64 0, .int .i64 0, .int .u32 0, .int .i64 0, .int .i64 0, .bool false, .int .u32 0, .int .u32 0, .int .i64 0, .int .i64 0, .int .i64 0, .string ⟨#[]⟩, .string ⟨#[]⟩, .string ⟨#[]⟩, .string ⟨#[]⟩]
def midP : Array Value := #[.int .u64 0, .int .u64 5, .bool false, .int .i64 0, .int .i64 2054, .bool true, .int .i64 2, .int .u64 9, .int .u32 7, .int .u64 5, .int .u32 6, .bool false, .int .i64 0, .int .i64 0, .int .i64 0, .int .i64 0, .int .i64 0, .int .u32 0, .int .u32 0, .string ⟨#[]⟩, .int .i64 0, .int .i64 0, .int .i64 0, .int .u32 0, .int .i64 0, .int .i64 0, .bool false, .int .u32 0, .int .u32 0, .int .i64 0, .int .i64 0, .int .i64 0, .string ⟨#[]⟩, .string ⟨#[]⟩, .string ⟨#[]⟩, .string ⟨#[]⟩]
def gotP : Array Value := #[.int .u64 5, .int .u64 9, .bool false, .int .i64 0, .int .i64 2054, .bool true, .int .i64 2, .int .u64 9, .int .u32 7, .int .u64 5, .int .u32 6, .bool false, .int .i64 0, .int .i64 0, .int .i64 0, .int .i64 0, .int .i64 0, .int .u32 0, .int .u32 0, .string ⟨#[]⟩, .int .i64 0, .int .i64 0, .int .i64 0, .int .u32 0, .int .i64 0, .int .i64 0, .bool false, .int .u32 0, .int .u32 0, .int .i64 0, .int .i64 0, .int .i64 0, .string ⟨#[]⟩, .string ⟨#[]⟩, .string ⟨#[]⟩, .string ⟨#[]⟩]
theorem wpList_load_as {P : Program} {ops : Array Oper} {rest : List Oper} {op : Oper} {a : Act} {w : World} {Q : Exit → Act → World → Prop} (hgd : op.guard = none) (ty : TypeId) (x : Operand) (ho : op.op = .load ty x)
    (g o n : Nat) (hx : a.eval x = .pointer (some ⟨g, o, none⟩)) (cs L : Array Value) (t : TypeId) (d : TypeDesc) (hg : w.heap[g]? = some (.cells cs t (0, 0)))
    (hu : P.underlying ty = some d) (hd : d.isRow = true) (hL : cs.extract o (o + n) = L) (hn : L.size = n) (hi : (P.info? ty).map (·.size) = some n)
    (h : wpList P ops Q rest (a.put op.dst (.agg L)) w) : wpList P ops Q (op :: rest) a w := by
  subst hL
  exact wpList_load_at hgd ty x ho g o n hx cs t d hg hu hd hn hi h
theorem size36 : (Tryz.prog.info? 45).map (·.size) = some 36 := by kernel_rfl
theorem row_setCell {w : World} {b : Nat} {cs : Array Value} {t : TypeId} (h : w.heap[b]? = some (.cells cs t (0, 0))) (o : Nat) (v : Value) : (w.setCell ⟨b, o, none⟩ v).heap[b]? = some (.cells (cs.setIfInBounds o v) t (0, 0)) := by
  have hlt : b < w.heap.size := lt_of_heap h
  have hv : w.heap[b] = .cells cs t (0, 0) := (Array.getElem?_eq_some_iff.1 h).2
  unfold World.setCell
  simp [Array.getElem?_modify, h]
/-- A row with other cells from a place on. -/
def putC : Array Value → Nat → List Value → Array Value
  | cs, _, [] => cs
  | cs, o, v :: r => putC (cs.setIfInBounds o v) (o + 1) r
theorem putC_size : ∀ (vs : List Value) (cs : Array Value) (o : Nat), (putC cs o vs).size = cs.size
  | [], _, _ => rfl
  | v :: r, cs, o => by rw [putC, putC_size r]; simp
theorem row_setCells : ∀ (vs : List Value) {w : World} {b : Nat} {cs : Array Value} {t : TypeId} (_ : w.heap[b]? = some (.cells cs t (0, 0))) (o : Nat), (w.setCells b o vs).heap[b]? = some (.cells (putC cs o vs) t (0, 0))
  | [], _, _, _, _, h, _ => h
  | v :: r, w, b, cs, t, h, o => by
    rw [World.setCells, putC]
    exact row_setCells r (row_setCell h o v) (o + 1)
theorem heap_setCells : ∀ (vs : List Value) (w : World) (b o : Nat), (w.setCells b o vs).heap.size = w.heap.size ∧ (∀ k, k ≠ b → (w.setCells b o vs).heap[k]? = w.heap[k]?) ∧ Below b w (w.setCells b o vs)
  | [], w, b, o => ⟨rfl, fun _ _ => rfl, Below.refl _ _⟩
  | v :: r, w, b, o => by
    obtain ⟨h1, h2, h3⟩ := heap_setCells r (w.setCell ⟨b, o, none⟩ v) b (o + 1)
    have e1 : (w.setCell ⟨b, o, none⟩ v).heap.size = w.heap.size := by simp [World.setCell]
    refine ⟨h1.trans e1, fun k hk => (h2 k hk).trans (Below.heap_setCell _ _ _ _ hk), ?_⟩
    have h0 : Below b w (w.setCell ⟨b, o, none⟩ v) := (Below.refl b w).setCell (Nat.le_refl _) v
    exact h0.trans h3
theorem there_row {w : World} {b : Nat} {cs : Array Value} {t : TypeId} (h : w.heap[b]? = some (.cells cs t (0, 0))) (o n : Nat) (hn : o + n ≤ cs.size) : w.there b o n := fun j hj => by
  refine ⟨?_, frozen_of_row w b _ cs t h⟩
  rw [cell_row h, Array.getElem?_eq_getElem (by omega)]; rfl
/-- A struct into the midst of a block. -/
theorem wpList_store_at {P : Program} {ops : Array Oper} {rest : List Oper} {op : Oper} {a : Act} {w : World} {Q : Exit → Act → World → Prop} (hgd : op.guard = none) (ty : TypeId) (x y : Operand) (ho : op.op = .store ty x y)
    (g o : Nat) (old c' : Array Value) (t : TypeId) (hx : a.eval x = .pointer (some ⟨g, o, none⟩)) (hy : a.eval y = .agg c') (hg : w.heap[g]? = some (.cells old t (0, 0)))
    (hi : (P.info? ty).map (·.size) = some c'.size) (hs : o + c'.size ≤ old.size) (h1 : c'.all (·.oneCell') = true)
    (h : ∀ w', w'.heap[g]? = some (.cells (putC old o c'.toList) t (0, 0)) → (∀ k, k ≠ g → w'.heap[k]? = w.heap[k]?) → w'.heap.size = w.heap.size → Below g w w' → wpList P ops Q rest (a.put op.dst undef) w') : wpList P ops Q (op :: rest) a w := by
  obtain ⟨e1, e2, e3⟩ := heap_setCells c'.toList w g o
  exact wpList_store_mid hgd ty x y ho g o c' hx hy (there_row hg o _ hs) hi h1 (h _ (row_setCells _ hg o) e2 e1 e3)
/-- The State whose packet is another. -/
def withP (cs ps : Array Value) : Array Value := putC cs 0 ps.toList
set_option maxRecDepth 20000 in
set_option maxHeartbeats 1000000 in
theorem become_no (cs ps : Array Value) (w : World) : Calls Tryz.prog 114 #[.agg cs, .agg ps, .bool false] w fun e w' => e = .returned (.tuple #[.agg zeroC, .int .i64 81]) ∧ Below w.heap.size w w' := by
  go_enter Tryz.func114, Tryz.ntmps114
  go_wp2_with (first
    | refine wpList_build_as rfl 50 _ rfl zeroC (by kernel_rfl) ?_
    | refine wpList_store_new rfl 50 _ _ rfl _ zeroC (w.heap.size + 1 + 1) (by simp) rfl rfl size49 rfl zeroC_one ?_
    | fail)
  exact bodyPost_ret (results_state (p := 6) (u := 7) rfl _ _ (w.heap.size + 1 + 1) zeroC rfl (three_last _ _ _ _) zeroC_size) rfl ⟨rfl, below3 _ _ _ _⟩
set_option maxRecDepth 20000 in
set_option maxHeartbeats 1000000 in
theorem become_yes (cs ps : Array Value) (hs : cs.size = 49) (hp : ps.size = 36) (h1 : (withP cs ps).all (·.oneCell') = true) (hp1 : ps.all (·.oneCell') = true) (w : World) : Calls Tryz.prog 114 #[.agg cs, .agg ps, .bool true] w fun e w' => e = .returned (.tuple #[.agg (withP cs ps), .int .i64 0]) ∧ Below w.heap.size w w' := by
  have HSZ : Hid _ := (show (withP cs ps).size = 49 by unfold withP; rw [putC_size]; exact hs)
  have HIW : Hid _ := info_size HSZ.out
  have HIP : Hid _ := (show (Tryz.prog.info? 45).map (·.size) = some ps.size by rw [hp]; exact size36)
  have H1 : Hid _ := h1
  have HP1 : Hid _ := hp1
  have HIN : Hid _ := (show 0 + ps.size ≤ cs.size by omega)
  clear h1 hp1 hs hp
  go_enter Tryz.func114, Tryz.ntmps114
  go_wp2_with (first
    | refine wpList_load_row rfl 45 _ rfl (w.heap.size + 1) rfl 45 ps (0, 0) _ ((heap_alloc_old _ _ (by simp)).trans (two_last _ _ _)) Tryz.underlying45 rfl HIP.out ?_
    | refine wpList_store_at rfl 45 _ _ rfl w.heap.size 0 cs ps 50 rfl rfl (three_first _ _ _ _) HIP.out HIN.out HP1.out ?_
    | fail)
  intro W9 z1 z2 z3 z4
  have q3 : W9.heap[w.heap.size + 1 + 1]? = some (.cells zeroC 50 (0, 0)) := (z2 _ (by omega)).trans (three_last _ _ _ _)
  have HQ3 : Hid _ := q3
  have HZ1 : Hid _ := z1
  clear q3 z1
  go_wp2_with (first
    | refine wpList_load_row rfl 50 _ rfl w.heap.size rfl 50 (withP cs ps) (0, 0) _ HZ1.out Tryz.underlying50 rfl HIW.out ?_
    | refine wpList_store_row rfl 50 _ _ rfl (w.heap.size + 1 + 1) zeroC (withP cs ps) 50 rfl rfl HQ3.out HIW.out (Eq.trans (b := 49) rfl HSZ.out.symm) H1.out ?_
    | fail)
  intro W8 y1 y2 y3 y4
  go_wp2
  refine bodyPost_ret (results_state (p := 6) (u := 7) rfl _ _ (w.heap.size + 1 + 1) _ rfl y1 HSZ.out) rfl ⟨rfl, ?_⟩
  exact ((below3 w _ _ _).trans z4).trans (y4.mono (by omega))
end Go.Proofs.YtikbjckcnidimaaGreatDoor
