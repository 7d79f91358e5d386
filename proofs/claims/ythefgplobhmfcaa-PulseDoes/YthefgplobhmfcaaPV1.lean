/- A slice of calls among a law's arguments. A law of the frame; no condition beyond the form's own reach. -/
import Derived.Test.YthefgplobhmfcaaPL
import Derived.Test.YthefgplobhmfcaaPU1
namespace Go.Proofs.Ythefgplobhmfcaa
open Go.ChangeShapes Go.WideShapes Go.ChangeAt Go.RowKit
theorem cellsOp : Try.prog.cellsOf 31 = 2 := by kernel_rfl
theorem cellsInt : Try.prog.cellsOf 3 = 1 := by kernel_rfl
theorem bytesOp : Try.prog.bytesOf 31 = 16 := by kernel_rfl
set_option maxRecDepth 100000 in
theorem open_op {H : Type} {enc : TypeId × Value → H} {W : World} {n : Nat} {a : Addr} {i : Nat} {cs : List Value} {x : DataW H × List MemPlace}
    (h1 : W.cells? 0 (a.add (i * Try.prog.cellsOf 31)) (Try.prog.cellsOf 31) = some cs) (h2 : DataW.trod enc Try.prog W 0 (fun _ => true) true n 31 cs = some x) :
    ∃ t : Opd, W.cell? (a.add (i * 2)) = some (.int .i64 t.k) ∧ W.cell? (a.add (i * 2 + 1)) = some (.int .i64 t.n) := by
  rw [cellsOp] at h1
  obtain ⟨_, hlen, hcell⟩ := World.cells?_some h1
  obtain ⟨xs, k, _, _, _, hxl, hf⟩ := DataW.trod_struct Try.underlying31 h2
  match xs, hxl, cs, hlen with
  | [y0, y1], _, [v0, v1], _ =>
    have g0 : DataW.trod enc Try.prog W 0 (fun _ => true) true k 3 (([v0, v1].drop 0).take (Try.prog.cellsOf 3)) = some y0 := hf 0 _ rfl
    have g1 : DataW.trod enc Try.prog W 0 (fun _ => true) true k 3 (([v0, v1].drop 1).take (Try.prog.cellsOf 3)) = some y1 := hf 1 _ rfl
    rw [cellsInt] at g0 g1
    obtain ⟨x0, e0, _, w0⟩ := DataW.trod_int Try.underlying3 g0
    obtain ⟨x1, e1, _, w1⟩ := DataW.trod_int Try.underlying3 g1
    simp at e0 e1
    subst e0 e1
    have q0 := hcell 0 (by omega)
    have q1 := hcell 1 (by omega)
    rw [Deep.add_add] at q0 q1
    exact ⟨⟨x0, x1⟩, by simpa using q0, by simpa using q1⟩
set_option maxRecDepth 100000 in
theorem open_ops {H : Type} {enc : TypeId × Value → H} {W : World} {v : Value} {d : DataW H} {p : List MemPlace} {r : Reach} {base : Nat} {ts : List TypeId} {ds : List (DataW H)} (j : Nat)
    (hv : Value.okWide Try.prog W r base 22 v) (h : DataW.Trod enc Try.prog W 0 (fun _ => true) true 22 v d p) (hsz : (DataW.weightsEach Try.prog ts ds).all (· ≤ reachBytes) = true) (ht : ts[j]? = some 22) (hd : ds[j]? = some d) :
    ∃ (l : List Opd) (a : Option Addr) (n c : Nat), v = .slice a n c ∧ OS W a n l := by
  obtain ⟨a, len, cap, rfl⟩ := okWide_slice Try.underlying22 hv
  obtain ⟨fuel, hf⟩ := h
  have hf' : DataW.trod enc Try.prog W 0 (fun _ => true) true fuel 22 [.slice a len cap] = some (d, p) := hf
  rcases Deep.open_slice Try.underlying22 hf' with ⟨e9, _⟩ | ⟨ad, len', cap', m, k, D, Pl, e9, _, hl, hmx, hm, hy9, hel⟩
  · simp at e9
    obtain ⟨rfl, rfl, rfl⟩ := e9
    exact ⟨[], none, 0, 0, rfl, rfl, by omega, .inl rfl⟩
  · simp at e9
    obtain ⟨rfl, rfl, rfl⟩ := e9
    simp at hm
    subst hm
    have hroom : m * 16 ≤ 140737488351232 := by
      have hd2 : d = _ := congrArg Prod.fst hy9
      have hs := sized_slice hsz ht (by rw [hd, hd2]) Try.underlying22
      rw [bytesOp] at hs
      simp only [List.length_map, List.length_range, reachBytes] at hs
      omega
    have each : ∀ i, i < m → ∃ t : Opd, W.cell? (ad.add (i * 2)) = some (.int .i64 t.k) ∧ W.cell? (ad.add (i * 2 + 1)) = some (.int .i64 t.n) := fun i hi => by
      obtain ⟨cs', q1, q2⟩ := hel i hi
      exact open_op q1 q2
    haveI : Inhabited Opd := ⟨⟨0, 0⟩⟩
    obtain ⟨q, hq⟩ := Deep.choose_lt each
    refine ⟨(List.range len).map q, some ad, len, m, rfl, by simp, by omega, ?_⟩
    by_cases h0 : len = 0
    · exact .inl h0
    · obtain ⟨b, off, spot⟩ := ad
      have hspot : spot = none := by
        have := (hq 0 (by omega)).1
        simpa [Addr.add] using World.cell?_spot this
      subst hspot
      refine .inr ⟨b, off, rfl, fun i t hi => ?_⟩
      rw [List.getElem?_map] at hi
      have hi' : i < len := by
        rcases Nat.lt_or_ge i len with h | h
        · exact h
        · simp [h] at hi
      simp [hi'] at hi
      subst hi
      obtain ⟨r0, r1⟩ := hq i (by omega)
      rw [plain_add3] at r0 r1
      exact ⟨r0, by rw [Nat.add_assoc]; exact r1⟩
end Go.Proofs.Ythefgplobhmfcaa
