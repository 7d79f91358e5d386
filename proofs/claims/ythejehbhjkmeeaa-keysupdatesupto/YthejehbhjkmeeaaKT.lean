/- Keys and rows among a law's arguments; what a law's frame asks of the program. Laws of the frame; no condition beyond the form's own reach. -/
import Derived.Test.YthejehbhjkmeeaaKR
import Derived.ProofKit
import Derived.ShutString
import Derived.ChangeOld
import Derived.SizedLaws
import Derived.Deep.Slices
namespace Go.Proofs.Ythejehbhjkmeeaa
open Go.ChangeShapes Go.WideShapes Go.ChangeAt Go.RowKit
theorem own : ownKnob Try.prog.godebug = none := by kernel_rfl
theorem laidOut : laidOutB Try.prog = true := by kernel_rfl
theorem cellsKey : Try.prog.cellsOf 37 = 2 := by kernel_rfl
theorem cellsRow : Try.prog.cellsOf 47 = 13 := by kernel_rfl
theorem cellsKeys : Try.prog.cellsOf 24 = 4 := by kernel_rfl
theorem cellsSl : Try.prog.cellsOf 22 = 1 := by kernel_rfl
theorem cells3 : Try.prog.cellsOf 3 = 1 := by kernel_rfl
theorem cells4 : Try.prog.cellsOf 4 = 1 := by kernel_rfl
theorem cells9 : Try.prog.cellsOf 9 = 1 := by kernel_rfl
theorem cellsU64 : Try.prog.cellsOf 43 = 1 := by kernel_rfl
theorem cellsU32 : Try.prog.cellsOf 44 = 1 := by kernel_rfl
theorem cellsWay : Try.prog.cellsOf 45 = 1 := by kernel_rfl
theorem bytesKey : Try.prog.bytesOf 37 = 24 := by kernel_rfl
theorem bytesRow : Try.prog.bytesOf 47 = 136 := by kernel_rfl
set_option maxRecDepth 20000 in
theorem open_key {H : Type} {enc : TypeId × Value → H} {W : World} {n : Nat} {a : Addr} {i : Nat} {cs : List Value} {x : DataW H × List MemPlace}
    (h1 : W.cells? 0 (a.add (i * Try.prog.cellsOf 37)) (Try.prog.cellsOf 37) = some cs) (h2 : DataW.trod enc Try.prog W 0 (fun _ => true) true n 37 cs = some x) :
    ∃ o : Ky, o.n.size ≤ maxLen ∧ W.cell? (a.add (i * 2)) = some (.string o.n) ∧ W.cell? (a.add (i * 2 + 1)) = some (.int .i64 o.v) := by
  rw [cellsKey] at h1
  obtain ⟨_, hlen, hcell⟩ := World.cells?_some h1
  obtain ⟨xs, k, _, _, _, hxl, hf⟩ := DataW.trod_struct Try.underlying37 h2
  match xs, hxl, cs, hlen with
  | [y0, y1], _, [v0, v1], _ =>
    have g0 : DataW.trod enc Try.prog W 0 (fun _ => true) true k 9 (([v0, v1].drop 0).take (Try.prog.cellsOf 9)) = some y0 := hf 0 _ rfl
    have g1 : DataW.trod enc Try.prog W 0 (fun _ => true) true k 3 (([v0, v1].drop 1).take (Try.prog.cellsOf 3)) = some y1 := hf 1 _ rfl
    rw [cells9] at g0
    rw [cells3] at g1
    obtain ⟨x0, e0, _, w0⟩ := DataW.trod_string Try.underlying9 g0
    obtain ⟨x1, e1, _, _⟩ := DataW.trod_int Try.underlying3 g1
    simp at e0 e1
    subst e0 e1
    have q0 := hcell 0 (by omega)
    have q1 := hcell 1 (by omega)
    rw [Deep.add_add] at q0 q1
    exact ⟨⟨x0, x1⟩, w0, by simpa using q0, by simpa using q1⟩
set_option maxRecDepth 20000 in
set_option maxHeartbeats 1000000 in
theorem open_row {H : Type} {enc : TypeId × Value → H} {W : World} {n : Nat} {a : Addr} {i : Nat} {cs : List Value} {x : DataW H × List MemPlace}
    (h1 : W.cells? 0 (a.add (i * Try.prog.cellsOf 47)) (Try.prog.cellsOf 47) = some cs) (h2 : DataW.trod enc Try.prog W 0 (fun _ => true) true n 47 cs = some x) :
    ∃ o : Rw, RwOk o ∧ ∀ j v, o.cs[j]? = some v → W.cell? (a.add (i * 13 + j)) = some v := by
  rw [cellsRow] at h1
  obtain ⟨_, hlen, hcell⟩ := World.cells?_some h1
  obtain ⟨xs, k, _, _, _, hxl, hf⟩ := DataW.trod_struct Try.underlying47 h2
  match xs, hxl, cs, hlen with
  | [y0, y1, y2, y3, y4, y5, y6, y7, y8, y9, y10, y11, y12], _, [v0, v1, v2, v3, v4, v5, v6, v7, v8, v9, v10, v11, v12], _ =>
    have g0 : DataW.trod enc Try.prog W 0 (fun _ => true) true k 3 (([v0, v1, v2, v3, v4, v5, v6, v7, v8, v9, v10, v11, v12].drop 0).take (Try.prog.cellsOf 3)) = some y0 := hf 0 _ rfl
    rw [cells3] at g0
    obtain ⟨x0, e0, _, _⟩ := DataW.trod_int Try.underlying3 g0
    have g1 : DataW.trod enc Try.prog W 0 (fun _ => true) true k 9 (([v0, v1, v2, v3, v4, v5, v6, v7, v8, v9, v10, v11, v12].drop 1).take (Try.prog.cellsOf 9)) = some y1 := hf 1 _ rfl
    rw [cells9] at g1
    obtain ⟨x1, e1, _, w1⟩ := DataW.trod_string Try.underlying9 g1
    have g2 : DataW.trod enc Try.prog W 0 (fun _ => true) true k 9 (([v0, v1, v2, v3, v4, v5, v6, v7, v8, v9, v10, v11, v12].drop 2).take (Try.prog.cellsOf 9)) = some y2 := hf 2 _ rfl
    rw [cells9] at g2
    obtain ⟨x2, e2, _, w2⟩ := DataW.trod_string Try.underlying9 g2
    have g3 : DataW.trod enc Try.prog W 0 (fun _ => true) true k 9 (([v0, v1, v2, v3, v4, v5, v6, v7, v8, v9, v10, v11, v12].drop 3).take (Try.prog.cellsOf 9)) = some y3 := hf 3 _ rfl
    rw [cells9] at g3
    obtain ⟨x3, e3, _, w3⟩ := DataW.trod_string Try.underlying9 g3
    have g4 : DataW.trod enc Try.prog W 0 (fun _ => true) true k 9 (([v0, v1, v2, v3, v4, v5, v6, v7, v8, v9, v10, v11, v12].drop 4).take (Try.prog.cellsOf 9)) = some y4 := hf 4 _ rfl
    rw [cells9] at g4
    obtain ⟨x4, e4, _, w4⟩ := DataW.trod_string Try.underlying9 g4
    have g5 : DataW.trod enc Try.prog W 0 (fun _ => true) true k 43 (([v0, v1, v2, v3, v4, v5, v6, v7, v8, v9, v10, v11, v12].drop 5).take (Try.prog.cellsOf 43)) = some y5 := hf 5 _ rfl
    rw [cellsU64] at g5
    obtain ⟨x5, e5, _, _⟩ := DataW.trod_int Try.underlying43 g5
    have g6 : DataW.trod enc Try.prog W 0 (fun _ => true) true k 44 (([v0, v1, v2, v3, v4, v5, v6, v7, v8, v9, v10, v11, v12].drop 6).take (Try.prog.cellsOf 44)) = some y6 := hf 6 _ rfl
    rw [cellsU32] at g6
    obtain ⟨x6, e6, _, _⟩ := DataW.trod_int Try.underlying44 g6
    have g7 : DataW.trod enc Try.prog W 0 (fun _ => true) true k 44 (([v0, v1, v2, v3, v4, v5, v6, v7, v8, v9, v10, v11, v12].drop 7).take (Try.prog.cellsOf 44)) = some y7 := hf 7 _ rfl
    rw [cellsU32] at g7
    obtain ⟨x7, e7, _, _⟩ := DataW.trod_int Try.underlying44 g7
    have g8 : DataW.trod enc Try.prog W 0 (fun _ => true) true k 3 (([v0, v1, v2, v3, v4, v5, v6, v7, v8, v9, v10, v11, v12].drop 8).take (Try.prog.cellsOf 3)) = some y8 := hf 8 _ rfl
    rw [cells3] at g8
    obtain ⟨x8, e8, _, _⟩ := DataW.trod_int Try.underlying3 g8
    have g9 : DataW.trod enc Try.prog W 0 (fun _ => true) true k 3 (([v0, v1, v2, v3, v4, v5, v6, v7, v8, v9, v10, v11, v12].drop 9).take (Try.prog.cellsOf 3)) = some y9 := hf 9 _ rfl
    rw [cells3] at g9
    obtain ⟨x9, e9, _, _⟩ := DataW.trod_int Try.underlying3 g9
    have g10 : DataW.trod enc Try.prog W 0 (fun _ => true) true k 4 (([v0, v1, v2, v3, v4, v5, v6, v7, v8, v9, v10, v11, v12].drop 10).take (Try.prog.cellsOf 4)) = some y10 := hf 10 _ rfl
    rw [cells4] at g10
    obtain ⟨x10, e10, _⟩ := DataW.trod_bool Try.underlying4 g10
    have g11 : DataW.trod enc Try.prog W 0 (fun _ => true) true k 4 (([v0, v1, v2, v3, v4, v5, v6, v7, v8, v9, v10, v11, v12].drop 11).take (Try.prog.cellsOf 4)) = some y11 := hf 11 _ rfl
    rw [cells4] at g11
    obtain ⟨x11, e11, _⟩ := DataW.trod_bool Try.underlying4 g11
    have g12 : DataW.trod enc Try.prog W 0 (fun _ => true) true k 45 (([v0, v1, v2, v3, v4, v5, v6, v7, v8, v9, v10, v11, v12].drop 12).take (Try.prog.cellsOf 45)) = some y12 := hf 12 _ rfl
    rw [cellsWay] at g12
    have hs12 : ∃ a9 n9 c9, v12 = .slice a9 n9 c9 := by
      rcases Deep.open_slice Try.underlying45 g12 with ⟨e9, _⟩ | ⟨ad, len, cap, _, _, _, _, e9, _⟩
      · simp at e9; exact ⟨none, 0, 0, e9⟩
      · simp at e9; exact ⟨_, _, _, e9⟩
    obtain ⟨a9, n9, c9, rfl⟩ := hs12
    simp at e0 e1 e2 e3 e4 e5 e6 e7 e8 e9 e10 e11
    subst e0 e1 e2 e3 e4 e5 e6 e7 e8 e9 e10 e11
    refine ⟨⟨[.int .i64 x0, .string x1, .string x2, .string x3, .string x4, .int .u64 x5, .int .u32 x6, .int .u32 x7, .int .i64 x8, .int .i64 x9, .bool x10, .bool x11, .slice a9 n9 c9], x0, x1⟩, ⟨rfl, rfl, rfl, ?_, w1⟩, fun j v hj => ?_⟩
    · intro v hv
      simp only [List.mem_cons, List.not_mem_nil, or_false] at hv
      rcases hv with rfl | rfl | rfl | rfl | rfl | rfl | rfl | rfl | rfl | rfl | rfl | rfl | rfl <;> rfl
    · have hj' : j < 13 := (List.getElem?_eq_some_iff.1 hj).1
      have q := hcell j (by omega)
      rw [Deep.add_add] at q
      rw [q]
      exact hj
set_option maxRecDepth 20000 in
theorem open_ks {H : Type} {enc : TypeId × Value → H} {W : World} {fuel : Nat} {v : Value} {y : DataW H × List MemPlace}
    (h : DataW.trod enc Try.prog W 0 (fun _ => true) true fuel 22 [v] = some y) (hwt : ∀ x ∈ DataW.weights Try.prog 22 y.1, x ≤ reachBytes) :
    ∃ a n c l, v = .slice a n c ∧ n ≤ c ∧ KS W a n l ∧ n * 24 ≤ 140737488351232 := by
  rcases Deep.open_slice Try.underlying22 h with ⟨e9, _⟩ | ⟨ad, len, cap, m, k, D, Pl, e9, _, hl, hmx, hm, hy9, hel⟩
  · simp at e9
    subst e9
    exact ⟨none, 0, 0, [], rfl, Nat.le_refl _, ⟨rfl, by omega, by simp, .inl rfl⟩, by omega⟩
  · simp at e9
    subst e9
    simp at hm
    subst hm
    have hroom : m * 24 ≤ 140737488351232 := by
      have := hwt ((((List.range len).map D).length + ((List.range (m - len)).map fun j => D (len + j)).length) * 24) (by
        rw [hy9]
        simp [DataW.weights, Try.underlying22, bytesKey])
      simp only [List.length_map, List.length_range, reachBytes] at this
      omega
    have each : ∀ i, i < m → ∃ o : Ky, o.n.size ≤ maxLen ∧ W.cell? (ad.add (i * 2)) = some (.string o.n) ∧ W.cell? (ad.add (i * 2 + 1)) = some (.int .i64 o.v) := fun i hi => by
      obtain ⟨cs', q1, q2⟩ := hel i hi
      exact open_key q1 q2
    haveI : Inhabited Ky := ⟨⟨⟨#[]⟩, 0⟩⟩
    obtain ⟨q, hq⟩ := Deep.choose_lt each
    refine ⟨some ad, len, m, (List.range len).map q, rfl, hl, ⟨by simp, by omega, ?_, ?_⟩, by omega⟩
    · intro t ht
      obtain ⟨i, hi, rfl⟩ := List.mem_map.1 ht
      exact (hq i (by have := List.mem_range.1 hi; omega)).1
    by_cases h0 : len = 0
    · exact .inl h0
    · obtain ⟨b, off, spot⟩ := ad
      have hspot : spot = none := by
        have := (hq 0 (by omega)).2.1
        simpa [Addr.add] using World.cell?_spot this
      subst hspot
      refine .inr ⟨b, off, rfl, fun i t hi => ?_⟩
      rw [List.getElem?_map] at hi
      have hi' : i < len := by
        rcases Nat.lt_or_ge i len with h | h
        · exact h
        · simp [h] at hi
      simp [hi'] at hi
      subst hi
      obtain ⟨_, r0, r1⟩ := hq i (by omega)
      rw [plain_add3] at r0 r1
      exact ⟨r0, by rw [Nat.add_assoc]; exact r1⟩
set_option maxRecDepth 20000 in
theorem open_rs {H : Type} {enc : TypeId × Value → H} {W : World} {fuel : Nat} {v : Value} {y : DataW H × List MemPlace}
    (h : DataW.trod enc Try.prog W 0 (fun _ => true) true fuel 31 [v] = some y) (hwt : ∀ x ∈ DataW.weights Try.prog 31 y.1, x ≤ reachBytes) :
    ∃ a n c l, v = .slice a n c ∧ n ≤ c ∧ RS W a n l ∧ n * 136 ≤ 140737488351232 := by
  rcases Deep.open_slice Try.underlying31 h with ⟨e9, _⟩ | ⟨ad, len, cap, m, k, D, Pl, e9, _, hl, hmx, hm, hy9, hel⟩
  · simp at e9
    subst e9
    exact ⟨none, 0, 0, [], rfl, Nat.le_refl _, ⟨rfl, by omega, by simp, .inl rfl⟩, by omega⟩
  · simp at e9
    subst e9
    simp at hm
    subst hm
    have hroom : m * 136 ≤ 140737488351232 := by
      have := hwt ((((List.range len).map D).length + ((List.range (m - len)).map fun j => D (len + j)).length) * 136) (by
        rw [hy9]
        simp [DataW.weights, Try.underlying31, bytesRow])
      simp only [List.length_map, List.length_range, reachBytes] at this
      omega
    have each : ∀ i, i < m → ∃ o : Rw, RwOk o ∧ ∀ j v, o.cs[j]? = some v → W.cell? (ad.add (i * 13 + j)) = some v := fun i hi => by
      obtain ⟨cs', q1, q2⟩ := hel i hi
      exact open_row q1 q2
    haveI : Inhabited Rw := ⟨⟨[], 0, ⟨#[]⟩⟩⟩
    obtain ⟨q, hq⟩ := Deep.choose_lt each
    refine ⟨some ad, len, m, (List.range len).map q, rfl, hl, ⟨by simp, by omega, ?_, ?_⟩, by omega⟩
    · intro t ht
      obtain ⟨i, hi, rfl⟩ := List.mem_map.1 ht
      exact (hq i (by have := List.mem_range.1 hi; omega)).1
    by_cases h0 : len = 0
    · exact .inl h0
    · obtain ⟨b, off, spot⟩ := ad
      have hspot : spot = none := by
        have := (hq 0 (by omega)).2 0 _ (hq 0 (by omega)).1.kind
        simpa [Addr.add] using World.cell?_spot this
      subst hspot
      refine .inr ⟨b, off, rfl, fun i t hi => ?_⟩
      rw [List.getElem?_map] at hi
      have hi' : i < len := by
        rcases Nat.lt_or_ge i len with h | h
        · exact h
        · simp [h] at hi
      simp [hi'] at hi
      subst hi
      intro j v hj
      have := (hq i (by omega)).2 j v hj
      rw [plain_add3] at this
      rw [Nat.add_assoc]; exact this
theorem weights_arg {H : Type} {ts : List TypeId} {ds : List (DataW H)} (hsz : (DataW.weightsEach Try.prog ts ds).all (· ≤ reachBytes) = true) {j : Nat} {t : TypeId} {d : DataW H} (ht : ts[j]? = some t) (hd : ds[j]? = some d) : ∀ x ∈ DataW.weights Try.prog t d, x ≤ reachBytes := fun _ hx =>
  of_decide_eq_true (List.all_eq_true.1 hsz _ (DataW.weights_mem_each ht hd _ hx))
theorem open_keysl {H : Type} {enc : TypeId × Value → H} {W : World} {v : Value} {d : DataW H} {p : List MemPlace} {r : Reach} {base : Nat} {ts : List TypeId} {ds : List (DataW H)} (j : Nat)
    (hv : Value.okWide Try.prog W r base 22 v) (h : DataW.Trod enc Try.prog W 0 (fun _ => true) true 22 v d p) (hsz : (DataW.weightsEach Try.prog ts ds).all (· ≤ reachBytes) = true) (ht : ts[j]? = some 22) (hd : ds[j]? = some d) :
    ∃ a n c l, v = .slice a n c ∧ n ≤ c ∧ KS W a n l ∧ n * 24 ≤ 140737488351232 := by
  obtain ⟨a, len, cap, rfl⟩ := okWide_slice Try.underlying22 hv
  obtain ⟨fuel, hf⟩ := h
  exact open_ks (y := (d, p)) hf (weights_arg hsz ht hd)
theorem open_rowsl {H : Type} {enc : TypeId × Value → H} {W : World} {v : Value} {d : DataW H} {p : List MemPlace} {r : Reach} {base : Nat} {ts : List TypeId} {ds : List (DataW H)} (j : Nat)
    (hv : Value.okWide Try.prog W r base 31 v) (h : DataW.Trod enc Try.prog W 0 (fun _ => true) true 31 v d p) (hsz : (DataW.weightsEach Try.prog ts ds).all (· ≤ reachBytes) = true) (ht : ts[j]? = some 31) (hd : ds[j]? = some d) :
    ∃ a n c l, v = .slice a n c ∧ n ≤ c ∧ RS W a n l ∧ n * 136 ≤ 140737488351232 := by
  obtain ⟨a, len, cap, rfl⟩ := okWide_slice Try.underlying31 hv
  obtain ⟨fuel, hf⟩ := h
  exact open_rs (y := (d, p)) hf (weights_arg hsz ht hd)
theorem array4 {α : Type} {x : Array α} (h : x.size = 4) : ∃ a b c d, x = #[a, b, c, d] := by
  obtain ⟨l⟩ := x
  match l, h with
  | [a, b, c, d], _ => exact ⟨a, b, c, d, rfl⟩
set_option maxRecDepth 20000 in
theorem open_keysv {H : Type} {enc : TypeId × Value → H} {W : World} {v : Value} {d : DataW H} {p : List MemPlace} {r : Reach} {base : Nat} {ts : List TypeId} {ds : List (DataW H)} (j : Nat)
    (hv : Value.okWide Try.prog W r base 24 v) (h : DataW.Trod enc Try.prog W 0 (fun _ => true) true 24 v d p) (hsz : (DataW.weightsEach Try.prog ts ds).all (· ≤ reachBytes) = true) (ht : ts[j]? = some 24) (hd : ds[j]? = some d) :
    ∃ v1 v2 v3 v4 A B C D, v = .agg #[v1, v2, v3, v4] ∧ KV W v1 A ∧ KV W v2 B ∧ KV W v3 C ∧ KV W v4 D := by
  obtain ⟨cs, rfl, hcs⟩ := okWide_struct Try.underlying24 hv
  obtain ⟨c0, c1, c2, c3, rfl⟩ := array4 (hcs.trans cellsKeys)
  obtain ⟨fuel, hf⟩ := h
  obtain ⟨xs, n, _, hx, _, hlen, hx2⟩ := DataW.trod_struct Try.underlying24 hf
  have hw := weights_arg hsz ht hd
  match xs, hlen with
  | [y0, y1, y2, y3], _ =>
    have hd2 : d = .agg [y0.1, y1.1, y2.1, y3.1] := by
      have := congrArg Prod.fst hx
      simpa using this
    have hwi : ∀ (i : Nat) (yd : DataW H), [y0.1, y1.1, y2.1, y3.1][i]? = some yd → ([22, 22, 22, 22] : List TypeId)[i]? = some 22 → ∀ x9 ∈ DataW.weights Try.prog 22 yd, x9 ≤ reachBytes := fun i yd h1 h2 z hz => by
      refine hw _ ?_
      rw [hd2]
      simp only [DataW.weights, Try.underlying24]
      exact DataW.weights_mem_each (j := i) (t := 22) (d := yd) h2 h1 _ hz
    have g0 : DataW.trod enc Try.prog W 0 (fun _ => true) true n 22 (([c0, c1, c2, c3].drop 0).take (Try.prog.cellsOf 22)) = some y0 := hx2 0 _ rfl
    have g1 : DataW.trod enc Try.prog W 0 (fun _ => true) true n 22 (([c0, c1, c2, c3].drop 1).take (Try.prog.cellsOf 22)) = some y1 := hx2 1 _ rfl
    have g2 : DataW.trod enc Try.prog W 0 (fun _ => true) true n 22 (([c0, c1, c2, c3].drop 2).take (Try.prog.cellsOf 22)) = some y2 := hx2 2 _ rfl
    have g3 : DataW.trod enc Try.prog W 0 (fun _ => true) true n 22 (([c0, c1, c2, c3].drop 3).take (Try.prog.cellsOf 22)) = some y3 := hx2 3 _ rfl
    rw [cellsSl] at g0 g1 g2 g3
    obtain ⟨a1, n1, k1, A, e1, l1, K1, _⟩ := open_ks g0 (hwi 0 _ rfl rfl)
    obtain ⟨a2, n2, k2, B, e2, l2, K2, _⟩ := open_ks g1 (hwi 1 _ rfl rfl)
    obtain ⟨a3, n3, k3, C, e3, l3, K3, _⟩ := open_ks g2 (hwi 2 _ rfl rfl)
    obtain ⟨a4, n4, k4, D, e4, l4, K4, _⟩ := open_ks g3 (hwi 3 _ rfl rfl)
    exact ⟨c0, c1, c2, c3, A, B, C, D, rfl, ⟨a1, n1, k1, e1, l1, K1⟩, ⟨a2, n2, k2, e2, l2, K2⟩, ⟨a3, n3, k3, e3, l3, K3⟩, ⟨a4, n4, k4, e4, l4, K4⟩⟩
end Go.Proofs.Ythejehbhjkmeeaa
