/- Parts of the proof, in one text. -/
import Derived.Test.YtgonckbdkgiddaaQH
import Derived.Deep.Slices
import Derived.Test.YtgonckbdkgiddaaLOpen
namespace Go.Proofs.Ytgonckbdkgiddaa
open Go.ChangeShapes Go.WideShapes Go.ChangeAt Go.RowKit
theorem str_nums (s : ByteArray) : ∃ os : List Int, s = strOfNums os ∧ os.length = s.size ∧ (∀ i, 0 ≤ os.getD i 0 ∧ os.getD i 0 ≤ 255) := by
  refine ⟨s.data.toList.map fun x => (x.toNat : Int), ?_, by rw [List.length_map]; rfl, fun i => ?_⟩
  · cases s with
    | mk d =>
      have h : ∀ l : List UInt8, l.map ((fun n : Int => UInt8.ofNat n.toNat) ∘ fun x : UInt8 => (x.toNat : Int)) = l := by
        intro l
        induction l with
        | nil => rfl
        | cons x r ih => simp [ih]
      simp [strOfNums, h]
  · rw [List.getD_eq_getElem?_getD, List.getElem?_map]
    rcases hx : s.data.toList[i]? with _ | x
    · simp
    · have := x.toNat_lt
      simp; omega
theorem cellsOpts : Try.prog.cellsOf 23 = 1 := by kernel_rfl
theorem cellsOpt : Try.prog.cellsOf 38 = 3 := by kernel_rfl
theorem cellsStrO : Try.prog.cellsOf 9 = 1 := by kernel_rfl
theorem cells3O : Try.prog.cellsOf 3 = 1 := by kernel_rfl
theorem bytesOpt : Try.prog.bytesOf 38 = 32 := by kernel_rfl
theorem plain_addO (b off k : Nat) : (⟨b, off, none⟩ : Addr).add k = ⟨b, off + k, none⟩ := by simp [Addr.add]
/-- An option as it is read. -/
theorem open_opt {H : Type} {enc : TypeId × Value → H} {W : World} {n : Nat} {a : Addr} {i : Nat} {cs : List Value} {x : DataW H × List MemPlace}
    (h1 : W.cells? 0 (a.add (i * Try.prog.cellsOf 38)) (Try.prog.cellsOf 38) = some cs) (h2 : DataW.trod enc Try.prog W 0 (fun _ => true) true n 38 cs = some x) :
    ∃ o : Opt, Fit o.data ∧ W.cell? (a.add (i * 3)) = some (.int .i64 o.cls) ∧ W.cell? (a.add (i * 3 + 1)) = some (.int .i64 o.code) ∧ W.cell? (a.add (i * 3 + 2)) = some (.string (strOfNums o.data)) := by
  rw [cellsOpt] at h1
  obtain ⟨_, hlen, hcell⟩ := World.cells?_some h1
  obtain ⟨xs, k, _, _, _, hxl, hf⟩ := DataW.trod_struct Try.underlying38 h2
  match xs, hxl, cs, hlen with
  | [y0, y1, y2], _, [v0, v1, v2], _ =>
    have g0 : DataW.trod enc Try.prog W 0 (fun _ => true) true k 3 (([v0, v1, v2].drop 0).take (Try.prog.cellsOf 3)) = some y0 := hf 0 _ rfl
    have g1 : DataW.trod enc Try.prog W 0 (fun _ => true) true k 3 (([v0, v1, v2].drop 1).take (Try.prog.cellsOf 3)) = some y1 := hf 1 _ rfl
    have g2 : DataW.trod enc Try.prog W 0 (fun _ => true) true k 9 (([v0, v1, v2].drop 2).take (Try.prog.cellsOf 9)) = some y2 := hf 2 _ rfl
    rw [cells3O] at g0 g1
    rw [cellsStrO] at g2
    obtain ⟨x0, e0, _, _⟩ := DataW.trod_int Try.underlying3 g0
    obtain ⟨x1, e1, _, _⟩ := DataW.trod_int Try.underlying3 g1
    obtain ⟨x2, e2, _, _⟩ := DataW.trod_string Try.underlying9 g2
    simp at e0 e1 e2
    subst e0 e1 e2
    have q0 := hcell 0 (by omega)
    have q1 := hcell 1 (by omega)
    have q2 := hcell 2 (by omega)
    rw [Deep.add_add] at q0 q1 q2
    obtain ⟨ds, hds, _, hfit⟩ := str_nums x2
    subst hds
    exact ⟨⟨x0, x1, ds⟩, hfit, by simpa using q0, by simpa using q1, by simpa using q2⟩
theorem open_options {H : Type} {enc : TypeId × Value → H} {W : World} {a : Option Addr} {len cap : Nat} {d : DataW H} {p : List MemPlace} {ts : List TypeId} {ds : List (DataW H)} (j : Nat)
    (h : DataW.Trod enc Try.prog W 0 (fun _ => true) true 23 (.slice a len cap) d p) (hsz : (DataW.weightsEach Try.prog ts ds).all (· ≤ reachBytes) = true) (ht : ts[j]? = some 23) (hd : ds[j]? = some d) :
    ∃ os, OS W a len os := by
  obtain ⟨fuel, hf⟩ := h
  have g9' : DataW.trod enc Try.prog W 0 (fun _ => true) true fuel 23 [.slice a len cap] = some (d, p) := by simpa [Value.cells] using hf
  rcases Deep.open_slice Try.underlying23 g9' with ⟨e9, _⟩ | ⟨ad, len', cap', m, k, D, Pl, e9, _, hl, hmx, hm, hy9, hel⟩
  · simp at e9
    obtain ⟨rfl, rfl, rfl⟩ := e9
    exact ⟨[], OS.empty _⟩
  · simp at e9
    obtain ⟨rfl, rfl, rfl⟩ := e9
    simp at hm
    subst hm
    have hroom : m ≤ 140737488351232 := by
      have hmem : (((List.range len).map D).length + ((List.range (m - len)).map fun j => D (len + j)).length) * 32 ∈ DataW.weightsEach Try.prog ts ds := by
        refine DataW.weights_mem_each ht hd _ ?_
        obtain ⟨hy, _⟩ := Prod.mk.inj hy9
        rw [hy]
        simp [DataW.weights, Try.underlying23, bytesOpt]
      have := of_decide_eq_true (List.all_eq_true.1 hsz _ hmem)
      simp only [List.length_map, List.length_range, reachBytes] at this
      omega
    have each : ∀ i, i < m → ∃ o : Opt, Fit o.data ∧ W.cell? (ad.add (i * 3)) = some (.int .i64 o.cls) ∧ W.cell? (ad.add (i * 3 + 1)) = some (.int .i64 o.code) ∧ W.cell? (ad.add (i * 3 + 2)) = some (.string (strOfNums o.data)) := fun i hi => by
      obtain ⟨cs', q1, q2⟩ := hel i hi
      exact open_opt q1 q2
    haveI : Inhabited Opt := ⟨⟨0, 0, []⟩⟩
    obtain ⟨q, hq⟩ := Deep.choose_lt each
    refine ⟨(List.range len).map q, by simp, by omega, fun o ho => ?_, ?_⟩
    · obtain ⟨i, hi, rfl⟩ := List.mem_map.1 ho
      exact ⟨(hq i (by have := List.mem_range.1 hi; omega)).1, trivial⟩
    by_cases h0 : len = 0
    · exact .inl h0
    · obtain ⟨b, off, spot⟩ := ad
      have hspot : spot = none := by
        have := (hq 0 (by omega)).2.1
        simpa [Addr.add] using World.cell?_spot this
      subst hspot
      refine .inr ⟨b, off, rfl, fun i o hi => ?_⟩
      rw [List.getElem?_map] at hi
      have hi' : i < len := by
        rcases Nat.lt_or_ge i len with h | h
        · exact h
        · simp [h] at hi
      simp [hi'] at hi
      subst hi
      obtain ⟨_, r0, r1, r2⟩ := hq i (by omega)
      rw [plain_addO] at r0 r1 r2
      exact ⟨r0, by rw [Nat.add_assoc]; exact r1, by rw [Nat.add_assoc]; exact r2⟩
end Go.Proofs.Ytgonckbdkgiddaa

namespace Go.Proofs.Ytgonckbdkgiddaa
open Go.ChangeShapes Go.WideShapes Go.ChangeAt Go.RowKit
theorem cellsTn : Try.prog.cellsOf 25 = 7 := by kernel_rfl
theorem cellsU32O : Try.prog.cellsOf 22 = 1 := by kernel_rfl
theorem cellsBoolO : Try.prog.cellsOf 4 = 1 := by kernel_rfl
theorem array7 {α : Type} {cs : Array α} (h : cs.size = 7) : ∃ a b c d e f g, cs = #[a, b, c, d, e, f, g] := by
  obtain ⟨l⟩ := cs
  match l, h with
  | [a, b, c, d, e, f, g], _ => exact ⟨a, b, c, d, e, f, g, rfl⟩
theorem open_tunnel {H : Type} {enc : TypeId × Value → H} {W : World} {v : Value} {d : DataW H} {p : List MemPlace} {r : Reach} {base : Nat} {ts : List TypeId} {ds : List (DataW H)} (j : Nat)
    (hv : Value.okWide Try.prog W r base 25 v) (h : DataW.Trod enc Try.prog W 0 (fun _ => true) true 25 v d p) (hsz : (DataW.weightsEach Try.prog ts ds).all (· ≤ reachBytes) = true) (ht : ts[j]? = some 25) (hd : ds[j]? = some d) :
    ∃ (src dst sp vni : Int) (oam : Bool) (a : Option Addr) (n cap : Nat) (os : List Opt) (fr : List Int), v = .agg (tnC src dst sp vni oam a n cap fr) ∧ OS W a n os ∧ (0 ≤ src ∧ src ≤ 4294967295) ∧ (0 ≤ dst ∧ dst ≤ 4294967295) ∧ Fit fr := by
  obtain ⟨cs, rfl, hcs⟩ := okWide_struct Try.underlying25 hv
  obtain ⟨c0, c1, c2, c3, c4, c5, c6, rfl⟩ := array7 (hcs.trans cellsTn)
  obtain ⟨fuel, hf⟩ := h
  obtain ⟨xs, n, _, hx, _, hlen, hx2⟩ := DataW.trod_struct Try.underlying25 hf
  match xs, hlen with
  | [y0, y1, y2, y3, y4, y5, y6], _ =>
    have g0 : DataW.trod enc Try.prog W 0 (fun _ => true) true n 22 (([c0, c1, c2, c3, c4, c5, c6].drop 0).take (Try.prog.cellsOf 22)) = some y0 := hx2 0 _ rfl
    have g1 : DataW.trod enc Try.prog W 0 (fun _ => true) true n 22 (([c0, c1, c2, c3, c4, c5, c6].drop 1).take (Try.prog.cellsOf 22)) = some y1 := hx2 1 _ rfl
    have g2 : DataW.trod enc Try.prog W 0 (fun _ => true) true n 3 (([c0, c1, c2, c3, c4, c5, c6].drop 2).take (Try.prog.cellsOf 3)) = some y2 := hx2 2 _ rfl
    have g3 : DataW.trod enc Try.prog W 0 (fun _ => true) true n 3 (([c0, c1, c2, c3, c4, c5, c6].drop 3).take (Try.prog.cellsOf 3)) = some y3 := hx2 3 _ rfl
    have g4 : DataW.trod enc Try.prog W 0 (fun _ => true) true n 4 (([c0, c1, c2, c3, c4, c5, c6].drop 4).take (Try.prog.cellsOf 4)) = some y4 := hx2 4 _ rfl
    have g5 : DataW.trod enc Try.prog W 0 (fun _ => true) true n 23 (([c0, c1, c2, c3, c4, c5, c6].drop 5).take (Try.prog.cellsOf 23)) = some y5 := hx2 5 _ rfl
    have g6 : DataW.trod enc Try.prog W 0 (fun _ => true) true n 9 (([c0, c1, c2, c3, c4, c5, c6].drop 6).take (Try.prog.cellsOf 9)) = some y6 := hx2 6 _ rfl
    rw [cellsU32O] at g0 g1
    rw [cells3O] at g2 g3
    rw [cellsBoolO] at g4
    rw [cellsOpts] at g5
    rw [cellsStrO] at g6
    obtain ⟨x0, e0, _, w0⟩ := DataW.trod_int Try.underlying22 g0
    obtain ⟨x1, e1, _, w1⟩ := DataW.trod_int Try.underlying22 g1
    obtain ⟨x2, e2, _, w2⟩ := DataW.trod_int Try.underlying3 g2
    obtain ⟨x3, e3, _, w3⟩ := DataW.trod_int Try.underlying3 g3
    obtain ⟨x4, e4, _⟩ := DataW.trod_bool Try.underlying4 g4
    obtain ⟨x6, e6, _, _⟩ := DataW.trod_string Try.underlying9 g6
    simp at e0 e1 e2 e3 e4 e6
    subst e0 e1 e2 e3 e4 e6
    obtain ⟨fr, hfr, _, hff⟩ := str_nums x6
    subst hfr
    have g5' : DataW.trod enc Try.prog W 0 (fun _ => true) true n 23 [c5] = some y5 := g5
    rcases Deep.open_slice Try.underlying23 g5' with ⟨e9, _⟩ | ⟨ad, len, cap, m, k, D, Pl, e9, _, hl, hmx, hm, hy9, hel⟩
    · simp at e9
      subst e9
      exact ⟨x0, x1, x2, x3, x4, none, 0, 0, [], fr, rfl, OS.empty _, bounds_u32 w0, bounds_u32 w1, hff⟩
    · simp at e9
      subst e9
      simp at hm
      subst hm
      have hd2 : d = .agg [y0.1, y1.1, y2.1, y3.1, y4.1, y5.1, y6.1] := by
        have := congrArg Prod.fst hx
        simpa using this
      have hroom : m ≤ 140737488351232 := by
        have hmem : (((List.range len).map D).length + ((List.range (m - len)).map fun j => D (len + j)).length) * 32 ∈ DataW.weightsEach Try.prog ts ds := by
          refine DataW.weights_mem_each ht hd _ ?_
          rw [hd2]
          simp only [DataW.weights, Try.underlying25]
          refine DataW.weights_mem_each (j := 5) (t := 23) (d := y5.1) rfl rfl _ ?_
          rw [hy9]
          simp [DataW.weights, Try.underlying23, bytesOpt]
        have := of_decide_eq_true (List.all_eq_true.1 hsz _ hmem)
        simp only [List.length_map, List.length_range, reachBytes] at this
        omega
      have each : ∀ i, i < m → ∃ o : Opt, Fit o.data ∧ W.cell? (ad.add (i * 3)) = some (.int .i64 o.cls) ∧ W.cell? (ad.add (i * 3 + 1)) = some (.int .i64 o.code) ∧ W.cell? (ad.add (i * 3 + 2)) = some (.string (strOfNums o.data)) := fun i hi => by
        obtain ⟨cs', q1, q2⟩ := hel i hi
        exact open_opt q1 q2
      haveI : Inhabited Opt := ⟨⟨0, 0, []⟩⟩
      obtain ⟨q, hq⟩ := Deep.choose_lt each
      refine ⟨x0, x1, x2, x3, x4, some ad, len, m, (List.range len).map q, fr, rfl, ⟨by simp, by omega, fun o ho => ?_, ?_⟩, bounds_u32 w0, bounds_u32 w1, hff⟩
      · obtain ⟨i, hi, rfl⟩ := List.mem_map.1 ho
        exact ⟨(hq i (by have := List.mem_range.1 hi; omega)).1, trivial⟩
      by_cases h0 : len = 0
      · exact .inl h0
      · obtain ⟨b, off, spot⟩ := ad
        have hspot : spot = none := by
          have := (hq 0 (by omega)).2.1
          simpa [Addr.add] using World.cell?_spot this
        subst hspot
        refine .inr ⟨b, off, rfl, fun i o hi => ?_⟩
        rw [List.getElem?_map] at hi
        have hi' : i < len := by
          rcases Nat.lt_or_ge i len with h | h
          · exact h
          · simp [h] at hi
        simp [hi'] at hi
        subst hi
        obtain ⟨_, r0, r1, r2⟩ := hq i (by omega)
        rw [plain_addO] at r0 r1 r2
        exact ⟨r0, by rw [Nat.add_assoc]; exact r1, by rw [Nat.add_assoc]; exact r2⟩
end Go.Proofs.Ytgonckbdkgiddaa
