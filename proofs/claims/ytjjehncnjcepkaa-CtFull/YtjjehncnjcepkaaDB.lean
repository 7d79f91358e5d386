/- CtExpires: the walk. Conditions: the packet's cells are of their kinds; the waits can be read. -/
import Derived.Test.YtjjehncnjcepkaaDA
namespace Go.Proofs.Ytjjehncnjcepkaa
open Go.RowKit
/-- A slice of integers that can be read. -/
structure IS (w : World) (a : Option Addr) (n : Nat) (zs : List Int) : Prop where
  len : zs.length = n
  lim : n ≤ 17592186044416
  rd : n = 0 ∨ ∃ b o, a = some ⟨b, o, none⟩ ∧ b < w.heap.size ∧ ∀ i, i < n → w.cell? ⟨b, o + i, none⟩ = some (.int .i64 (zs.getD i 0))
theorem nbound (x : Int) : -39 ≤ x.tmod 40 ∧ x.tmod 40 ≤ 39 := by
  have h1 := Int.tmod_lt_of_pos x (show (0 : Int) < 40 by decide)
  have h2 := Int.lt_tmod_of_pos x (show (0 : Int) < 40 by decide)
  omega
theorem PSt.pkr {ps : Array Value} (h : PSt ps) : ∃ ip fr pr src dst k ty co re sp dp, Pk ps ip fr pr src dst k ty co re sp dp ∧ TupR (pr, src, dst, portT k re sp, portT k re dp) := by
  obtain ⟨ip, h11⟩ := h.bool 11 (by decide)
  obtain ⟨fr, h14, _, _⟩ := h.i64 14 (by decide)
  obtain ⟨pr, h16, p1, p2⟩ := h.i64 16 (by decide)
  obtain ⟨src, h17, s1, s2⟩ := h.u32 17 (by decide)
  obtain ⟨dst, h18, d1, d2⟩ := h.u32 18 (by decide)
  obtain ⟨k, h20, _, _⟩ := h.i64 20 (by decide)
  obtain ⟨ty, h21, _, _⟩ := h.i64 21 (by decide)
  obtain ⟨co, h22, _, _⟩ := h.i64 22 (by decide)
  obtain ⟨re, h23, r1, r2⟩ := h.u32 23 (by decide)
  obtain ⟨sp, h24, q1, q2⟩ := h.i64 24 (by decide)
  obtain ⟨dp, h25, t1, t2⟩ := h.i64 25 (by decide)
  refine ⟨ip, fr, pr, src, dst, k, ty, co, re, sp, dp, ⟨h.size, h11, h14, h16, h17, h18, h20, h21, h22, h23, h24, h25, ⟨r1, r2⟩⟩, ⟨⟨p1, p2⟩, ⟨s1, s2⟩, ⟨d1, d2⟩, ?_, ?_⟩⟩
  · show -9223372036854775808 ≤ portT k re sp ∧ portT k re sp ≤ 9223372036854775807
    unfold portT; split <;> omega
  · show -9223372036854775808 ≤ portT k re dp ∧ portT k re dp ≤ 9223372036854775807
    unfold portT; split <;> omega
/-- What stands at the loop's head. -/
structure ExpW (w : World) (ps : Array Value) (o : Tup) (th : Bool) (k : Nat) (wr : World) : Prop where
  bel : Below (w.heap.size + 1) (w.alloc (.cells ps 41)) wr
  st : ∃ clock : Int, 0 ≤ clock ∧ clock ≤ 39 * (k : Int) ∧ ((th = true ∧ ∃ qg qc cur eb g1 g2, HasC wr (w.heap.size + 1) (w.heap.size + 1 + 1) (w.heap.size + 1) 0 4 clock 7 o (turn o) false (clock + 30) qg qc cur eb g1 g2) ∨ (th = false ∧ ∃ q, Emp wr (w.heap.size + 1) (w.heap.size + 1 + 1) (w.heap.size + 1) 1 4 clock q))
end Go.Proofs.Ytjjehncnjcepkaa
