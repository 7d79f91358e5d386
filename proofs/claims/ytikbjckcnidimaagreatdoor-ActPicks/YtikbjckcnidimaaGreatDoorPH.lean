/- Ways among a law's arguments can be read. A law of the frame; no condition. -/
import Derived.Test.YtikbjckcnidimaaGreatDoorPB
import Derived.Test.YtikbjckcnidimaaGreatDoorCB
import Derived.Deep.Slices
namespace Go.Proofs.YtikbjckcnidimaaGreatDoor
open Go.ChangeShapes Go.WideShapes Go.ChangeAt Go.RowKit
theorem cellsWay : Tryz.prog.cellsOf 61 = 2 := by kernel_rfl
theorem bytesWay : Tryz.prog.bytesOf 61 = 16 := by kernel_rfl
set_option maxRecDepth 100000 in
theorem open_way {H : Type} {enc : TypeId × Value → H} {W : World} {n : Nat} {a : Addr} {i : Nat} {cs : List Value} {x : DataW H × List MemPlace}
    (h1 : W.cells? 0 (a.add (i * Tryz.prog.cellsOf 61)) (Tryz.prog.cellsOf 61) = some cs) (h2 : DataW.trod enc Tryz.prog W 0 (fun _ => true) true n 61 cs = some x) :
    ∃ t : Int × Int, W.cell? (a.add (i * 2)) = some (.int .u32 t.1) ∧ W.cell? (a.add (i * 2 + 1)) = some (.int .i64 t.2) ∧ (0 ≤ t.1 ∧ t.1 ≤ 4294967295) ∧ -9223372036854775808 ≤ t.2 ∧ t.2 ≤ 9223372036854775807 := by
  rw [cellsWay] at h1
  obtain ⟨_, hlen, hcell⟩ := World.cells?_some h1
  obtain ⟨xs, k, _, _, _, hxl, hf⟩ := DataW.trod_struct Tryz.underlying61 h2
  match xs, hxl, cs, hlen with
  | [y0, y1], _, [v0, v1], _ =>
    have g0 : DataW.trod enc Tryz.prog W 0 (fun _ => true) true k 25 (([v0, v1].drop 0).take (Tryz.prog.cellsOf 25)) = some y0 := hf 0 _ rfl
    have g1 : DataW.trod enc Tryz.prog W 0 (fun _ => true) true k 3 (([v0, v1].drop 1).take (Tryz.prog.cellsOf 3)) = some y1 := hf 1 _ rfl
    rw [cells_u32] at g0
    rw [cells_i64] at g1
    obtain ⟨x0, e0, w0⟩ := leaf_u32 g0
    obtain ⟨x1, e1, w1⟩ := leaf_i64 g1
    subst e0 e1
    have q0 := hcell 0 (by omega)
    have q1 := hcell 1 (by omega)
    rw [Deep.add_add] at q0 q1
    exact ⟨(x0, x1), by simpa using q0, by simpa using q1, w0, w1⟩
set_option maxRecDepth 100000 in
theorem open_ways {H : Type} {enc : TypeId × Value → H} {W : World} {v : Value} {d : DataW H} {p : List MemPlace} {r : Reach} {base : Nat} {ts : List TypeId} {ds : List (DataW H)} (j : Nat)
    (hv : Value.okWide Tryz.prog W r base 24 v) (h : DataW.Trod enc Tryz.prog W 0 (fun _ => true) true 24 v d p) (hsz : (DataW.weightsEach Tryz.prog ts ds).all (· ≤ reachBytes) = true) (ht : ts[j]? = some 24) (hd : ds[j]? = some d) :
    ∃ l : List (Int × Int), WVal W v l := by
  obtain ⟨a, len, cap, rfl⟩ := okWide_slice Tryz.underlying24 hv
  obtain ⟨fuel, hf⟩ := h
  have hf' : DataW.trod enc Tryz.prog W 0 (fun _ => true) true fuel 24 [.slice a len cap] = some (d, p) := hf
  rcases Deep.open_slice Tryz.underlying24 hf' with ⟨e9, _⟩ | ⟨ad, len', cap', m, k, D, Pl, e9, _, hl, hmx, hm, hy9, hel⟩
  · simp at e9
    obtain ⟨rfl, rfl, rfl⟩ := e9
    exact ⟨[], none, 0, 0, rfl, Nat.le_refl _, WS.empty _⟩
  · simp at e9
    obtain ⟨rfl, rfl, rfl⟩ := e9
    simp at hm
    subst hm
    have hroom : m * 16 ≤ 140737488351232 := by
      have hd2 : d = _ := congrArg Prod.fst hy9
      have hs := sized_slice hsz ht (by rw [hd, hd2]) Tryz.underlying24
      rw [bytesWay] at hs
      simp only [List.length_map, List.length_range, reachBytes] at hs
      omega
    have each : ∀ i, i < m → ∃ t : Int × Int, W.cell? (ad.add (i * 2)) = some (.int .u32 t.1) ∧ W.cell? (ad.add (i * 2 + 1)) = some (.int .i64 t.2) ∧ (0 ≤ t.1 ∧ t.1 ≤ 4294967295) ∧ -9223372036854775808 ≤ t.2 ∧ t.2 ≤ 9223372036854775807 := fun i hi => by
      obtain ⟨cs', q1, q2⟩ := hel i hi
      exact open_way q1 q2
    obtain ⟨q, hq⟩ := Deep.choose_lt each
    refine ⟨(List.range len).map q, some ad, len, m, rfl, hl, by simp, by omega, ?_⟩
    by_cases h0 : len = 0
    · exact .inl h0
    · obtain ⟨b, off, spot⟩ := ad
      have hspot : spot = none := by
        have := (hq 0 (by omega)).1
        simpa [Addr.add] using World.cell?_spot this
      subst hspot
      refine .inr ⟨b, off, rfl, fun i t hi => ?_⟩
      rw [List.getElem?_map] at hi
      have hil : i < len := by
        rcases Nat.lt_or_ge i len with h' | h'
        · exact h'
        · rw [List.getElem?_eq_none (by simpa using h')] at hi; simp at hi
      rw [List.getElem?_range hil] at hi
      simp at hi
      subst hi
      obtain ⟨c0, c1, c2⟩ := hq i (by omega)
      rw [Addr.add_mid] at c0 c1
      exact ⟨c0, by rw [Nat.add_assoc]; exact c1, c2⟩
end Go.Proofs.YtikbjckcnidimaaGreatDoor
