/- The iterator of a table: All's closure. Conditions: as said. -/
import Derived.Test.YtlopnagajhjmmaaLS
import Derived.RangeFuncNested
import Derived.RangeFuncBound
import Derived.RangeFuncCalls
import Derived.RangeFuncLeaves
import Derived.Shelf.Abstract
import Derived.Shelf.RegionOpen
import Derived.WalkKit
import Derived.OwnWalkIn
import Derived.TacticsInMore
import Derived.LoopNIn
import Derived.LoopIn
namespace Go.Proofs.Ytlopnagajhjmmaa
open Go.RowKit Go.Shelf Tr
attribute [local go_sem] Oper.semAt_some
def encR (x : Ro) : Array Value := #[.agg #[.int .u32 x.1.toNat, .int .i64 x.2.1, .int .i64 x.2.2]]
/-- What a round keeps: all cells but those of some blocks. -/
def KC (X : List Nat) (W W' : World) : Prop := ∀ k cs ty fr, k ∉ X → W.heap[k]? = some (.cells cs ty fr) → W'.heap[k]? = some (.cells cs ty fr)
theorem KC.trans {X : List Nat} {A B C : World} (h1 : KC X A B) (h2 : KC X B C) : KC X A C := fun k cs ty fr hk h => h2 k cs ty fr hk (h1 k cs ty fr hk h)
theorem KC.put {X : List Nat} (W : World) (l : Nat) (o o' : Obj) (h : W.heap[l]? = some o) (hc : o.isCells = false) : KC X W (W.putObj l o') := by
  intro k cs ty fr _ hk
  have hne : k ≠ l := fun e => by subst e; rw [h] at hk; injection hk with hk; subst hk; simp [Obj.isCells] at hc
  have := (grownBy_putObj' W l o').block k (lt_of_heap hk) (by simp; exact hne)
  exact this.trans hk
theorem roV_at (L : List Ro) (k : Nat) (x : Ro) (h : L[k]? = some x) : (roV L)[k * 3]? = some (.int .u32 x.1.toNat) ∧ (roV L)[k * 3 + 1]? = some (.int .i64 x.2.1) ∧ (roV L)[k * 3 + 2]? = some (.int .i64 x.2.2) := by
  induction L generalizing k with
  | nil => simp at h
  | cons y L ih =>
    cases k with
    | zero => simp at h; subst h; exact ⟨rfl, rfl, rfl⟩
    | succ k =>
      have e : roV (y :: L) = [.int .u32 y.1.toNat, .int .i64 y.2.1, .int .i64 y.2.2] ++ roV L := rfl
      simp only [List.getElem?_cons_succ] at h
      obtain ⟨h0, h1, h2⟩ := ih k h
      rw [e]
      refine ⟨?_, ?_, ?_⟩
      · rw [List.getElem?_append_right (by simp; omega)]; simp only [List.length_cons, List.length_nil]; rw [show (k + 1) * 3 - (0 + 1 + 1 + 1) = k * 3 by omega]; exact h0
      · rw [List.getElem?_append_right (by simp; omega)]; simp only [List.length_cons, List.length_nil]; rw [show (k + 1) * 3 + 1 - (0 + 1 + 1 + 1) = k * 3 + 1 by omega]; exact h1
      · rw [List.getElem?_append_right (by simp; omega)]; simp only [List.length_cons, List.length_nil]; rw [show (k + 1) * 3 + 2 - (0 + 1 + 1 + 1) = k * 3 + 2 by omega]; exact h2
/-- The routes of a row. -/
theorem row_at {w : World} {B : Nat} {v : Value} {L : List Ro} (h : OwnR w B v L.length (roV L)) {k : Nat} {x : Ro} (hx : L[k]? = some x) : ∃ g cap cur, v = .slice (some ⟨g, 0, none⟩) L.length cap ∧ B ≤ g ∧ w.heap[g]? = some (.cells cur 37 (0, 0)) ∧ cur[k * 3]? = some (.int .u32 x.1.toNat) ∧ cur[k * 3 + 1]? = some (.int .i64 x.2.1) ∧ cur[k * 3 + 2]? = some (.int .i64 x.2.2) := by
  have hk : k < L.length := (List.getElem?_eq_some_iff.1 hx).1
  rcases h.h.2 with ⟨_, e⟩ | ⟨g, cap, cur, e, q1, q2, q3, q4, q5, q6⟩
  · omega
  · obtain ⟨h0, h1, h2⟩ := roV_at L k x hx
    rw [← q6] at h0 h1 h2
    rw [List.getElem?_take, if_pos (by omega), Array.getElem?_toList] at h0 h1 h2
    exact ⟨g, cap, cur, e, q1, q2, h0, h1, h2⟩
theorem ownR_kc {w w' : World} {B : Nat} {v : Value} {n : Nat} {xs : List Value} {X : List Nat} (h : OwnR w B v n xs) (hX : ∀ x ∈ X, x < B) (hk : KC X w w') : OwnR w' B v n xs := by
  refine ⟨h.h.1, ?_⟩
  rcases h.h.2 with h0 | ⟨g, cap, cur, e, q1, q2, q3⟩
  · exact .inl h0
  · exact .inr ⟨g, cap, cur, e, q1, hk g _ _ _ (fun hx => by have := hX g hx; omega) q2, q3⟩
theorem kc_alloc (X : List Nat) (w : World) (A : Obj) : KC X w (w.alloc A) := fun _ _ _ _ _ h => (heap_alloc_old _ _ (lt_of_heap h)).trans h
set_option maxRecDepth 20000 in
set_option maxHeartbeats 4000000 in
theorem all1_any (n Bn : Nat) (X : List Nat) (w : World) (tb : Nat) (t : Tr) (hc : w.cell? ⟨Bn, 0, none⟩ = some (ptr tb)) (hT : Tab w tb t) (hX : ∀ x ∈ X, x < w.heap.size) (hn : 1 ≤ n) :
    SeqStopsK Fence.wide n Try.prog 31 #[ptr Bn] encR (KC X) (fun xs => xs = t.ents) (fun pre => pre <+: t.ents) t.ents.length w := by
  intro l J Jx W hW hJ hJx hY h0
  have hlt := cell_lt hc
  have hc' : W.cell? ⟨Bn, 0, none⟩ = some (ptr tb) := (hW.cell (p := ⟨Bn, 0, none⟩) hlt).trans hc
  have HR : Hid _ := routes_any (tab_bel hT hW)
  have hlen := ents_len hT.wf
  have hXW : ∀ x ∈ X, x < W.heap.size := fun x hx => Nat.lt_of_lt_of_le (hX x hx) hW.size
  clear hW hc hT hX
  refine callsIn_of_wp Try.func31 rfl trivial ?_ rfl
  simp only [Try.ntmps31, List.size_toArray, List.length_cons, List.length_nil, Nat.reduceAdd, Nat.reduceSub, Array.replicate_succ, Array.replicate_zero, List.push_toArray, List.append_toArray, List.nil_append, List.cons_append]
  gi_wp2_with (first
    | (refine ⟨trivial, ?_⟩; gi_at_call 32; refine (callsIn_wide.2 HR.out).mono ?_; rintro e W1 ⟨q, rfl, oq, b1⟩; obtain ⟨qa, qc, rfl⟩ := own_slice3 oq.h; skip)
    | fail)
  have hJ1 : J [] W1 := hJ [] W W1 none h0 ⟨b1.os, b1.tape, b1.output, b1.size, fun k hk _ => b1.block k hk⟩ (fun r e => by cases e)
  have hnil : (Value.slice qa t.ents.length qc = .slice none 0 0) ∨ True := .inr trivial
  clear HR hnil b1 h0 hc'
  gi_loopw [8] (fun i wr => ∃ (pre rest : List Ro), i = .int .i64 pre.length ∧ t.ents = pre ++ rest ∧ J pre wr ∧ OwnR wr W.heap.size (.slice qa t.ents.length qc) t.ents.length (roV t.ents)) (fun i _ => t.ents.length - (intOf i).toNat)
  case atStart => exact ⟨[], t.ents, rfl, rfl, hJ1, oq⟩
  case round =>
    clear oq hJ1
    obtain ⟨pre, rest, rfl, he, hJs, oq⟩ := hrel
    have hpl : t.ents.length = pre.length + rest.length := by rw [he]; simp
    cases rest with
    | nil =>
      have hnl : ¬ (pre.length : Int) < (t.ents.length : Int) := by simp at hpl; omega
      clear hpl
      gi_wp2
      go_end0
      have e9 : pre = t.ents := by simpa using he.symm
      exact ⟨⟨_, rfl⟩, .inl (e9 ▸ hJs)⟩
    | cons x rest =>
      have hx : t.ents[pre.length]? = some x := by rw [he, List.getElem?_append_right (Nat.le_refl _)]; simp
      obtain ⟨g, cap, cur, e9, q1, q2, h0, h1, h2⟩ := row_at oq hx
      injection e9 with e1 e2 e3
      subst e1 e3
      have c0 : wr.cell? ⟨g, pre.length * 3, none⟩ = some (.int .u32 x.1.toNat) := (cell_row q2 _).trans h0
      have c1 : wr.cell? ⟨g, pre.length * 3 + 1, none⟩ = some (.int .i64 x.2.1) := (cell_row q2 _).trans h1
      have c2 : wr.cell? ⟨g, pre.length * 3 + 2, none⟩ = some (.int .i64 x.2.2) := (cell_row q2 _).trans h2
      have hI1 : (pre.length : Int) < (t.ents.length : Int) := by simp at hpl; omega
      have hI3 : pre.length < t.ents.length := by omega
      have hI4 : (pre.length : Int) ≤ 274877906944 := by omega
      have hJ2 : J pre (wr.alloc (.cells #[.int .u32 x.1.toNat, .int .i64 x.2.1, .int .i64 x.2.2] 37)) := hJ pre wr _ none hJs (World.grownBy_alloc _ _ _) (fun r e => by cases e)
      obtain ⟨fn, tmps, assign, body, hy, hR⟩ := hY pre x _ hJ2 hI3
      have oq2 : OwnR (wr.alloc (.cells #[.int .u32 x.1.toNat, .int .i64 x.2.1, .int .i64 x.2.2] 37)) W.heap.size (.slice (some ⟨g, 0, none⟩) t.ents.length qc) t.ents.length (roV t.ents) := ownR_kc oq hXW (kc_alloc X _ _)
      have HE : Hid _ := he
      dsimp only [encR] at hy
      clear hpl he h0 h1 h2 q2 hx hJs oq hJ2 hY hJ hJx
      gi_wp2
      refine hR.mono ?_
      rintro e W3 (⟨rfl, hJ3, hk3⟩ | ⟨rfl, hJx3⟩)
      · gi_wp2
        go_roundw
        case rel => exact ⟨pre ++ [x], rest, by simp, by rw [HE.out]; simp, hJ3, ownR_kc oq2 hXW hk3⟩
        case measure => simp [intOf]; omega
      · gi_wp2
        refine bodyPost_ret (results_none rfl _ _ _) rfl ?_
        exact ⟨⟨_, rfl⟩, .inr ⟨pre ++ [x], ⟨rest, by rw [HE.out]; simp⟩, hJx3⟩⟩
end Go.Proofs.Ytlopnagajhjmmaa
