/- A packet of layer 4 among a law's arguments: what its fields are. No condition. -/
import Derived.Test.YtanilaofhaelkaaL4la
import Derived.SizedLaws
namespace Go.Proofs.Ytanilaofhaelkaa
open Go.ChangeShapes Go.WideShapes Go.ChangeAt Go.RowKit

theorem cellsU32 : Try.prog.cellsOf 22 = 1 := by kernel_rfl
theorem cells3 : Try.prog.cellsOf 3 = 1 := by kernel_rfl
theorem cells4 : Try.prog.cellsOf 4 = 1 := by kernel_rfl
theorem cells9 : Try.prog.cellsOf 9 = 1 := by kernel_rfl
theorem cellsL4 : Try.prog.cellsOf 25 = 14 := by kernel_rfl
theorem b_u32 {x : Int} (h : (Lit.int .u32 x).wf = true) : 0 ≤ x ∧ x ≤ 4294967295 := by
  simp [Lit.wf, IntKind.min, IntKind.max, IntKind.bits, IntKind.signed] at h; omega
theorem array14 {α : Type} {cs : Array α} (h : cs.size = 14) : ∃ c0 c1 c2 c3 c4 c5 c6 c7 c8 c9 c10 c11 c12 c13, cs = #[c0, c1, c2, c3, c4, c5, c6, c7, c8, c9, c10, c11, c12, c13] := by
  obtain ⟨l⟩ := cs
  match l, h with
  | [c0, c1, c2, c3, c4, c5, c6, c7, c8, c9, c10, c11, c12, c13], _ => exact ⟨c0, c1, c2, c3, c4, c5, c6, c7, c8, c9, c10, c11, c12, c13, rfl⟩
theorem str_nums (s : ByteArray) : ∃ os : List Int, s = strOfNums os ∧ os.length = s.size ∧ (∀ i, 0 ≤ os.getD i 0 ∧ os.getD i 0 ≤ 255) := by
  refine ⟨s.data.toList.map fun x => (x.toNat : Int), ?_, by rw [List.length_map]; rfl, fun i => ?_⟩
  · cases s with
    | mk d =>
      have h : ∀ l : List UInt8, l.map ((fun n : Int => UInt8.ofNat n.toNat) ∘ fun x : UInt8 => (x.toNat : Int)) = l := by
        intro l
        induction l with
        | nil => rfl
        | cons x r ih => simp [ih]
      simp [strOfNums, h]
  · rw [List.getD_eq_getElem?_getD, List.getElem?_map]
    rcases hx : s.data.toList[i]? with _ | x
    · simp
    · have := x.toNat_lt
      simp; omega
set_option maxRecDepth 20000 in
theorem open_l4 {H : Type} {enc : TypeId × Value → H} {W : World} {v : Value} {d : DataW H} {p : List MemPlace} {r : Reach} {base : Nat} {ts : List TypeId} {ds : List (DataW H)} (j : Nat)
    (hv : Value.okWide Try.prog W r base 25 v) (h : DataW.Trod enc Try.prog W 0 (fun _ => true) true 25 v d p) (hsz : (DataW.weightsEach Try.prog ts ds).all (· ≤ reachBytes) = true) (ht : ts[j]? = some 25) (hd : ds[j]? = some d) :
    ∃ x : L4R, v = x.v ∧ x.Fine ∧ x.os.length ≤ 140737488351232 ∧ x.ds.length ≤ 140737488351232 := by
  obtain ⟨cs, rfl, hcs⟩ := okWide_struct Try.underlying25 hv
  obtain ⟨c0, c1, c2, c3, c4, c5, c6, c7, c8, c9, c10, c11, c12, c13, rfl⟩ := array14 (hcs.trans cellsL4)
  obtain ⟨fuel, hf⟩ := h
  obtain ⟨xs, n, _, hx, _, hlen, hx2⟩ := DataW.trod_struct Try.underlying25 hf
  match xs, hlen with
  | [y0, y1, y2, y3, y4, y5, y6, y7, y8, y9, y10, y11, y12, y13], _ =>
    have g0 : DataW.trod enc Try.prog W 0 (fun _ => true) true n 3 (([c0, c1, c2, c3, c4, c5, c6, c7, c8, c9, c10, c11, c12, c13].drop 0).take (Try.prog.cellsOf 3)) = some y0 := hx2 0 _ rfl
    rw [cells3] at g0
    have g1 : DataW.trod enc Try.prog W 0 (fun _ => true) true n 3 (([c0, c1, c2, c3, c4, c5, c6, c7, c8, c9, c10, c11, c12, c13].drop 1).take (Try.prog.cellsOf 3)) = some y1 := hx2 1 _ rfl
    rw [cells3] at g1
    have g2 : DataW.trod enc Try.prog W 0 (fun _ => true) true n 3 (([c0, c1, c2, c3, c4, c5, c6, c7, c8, c9, c10, c11, c12, c13].drop 2).take (Try.prog.cellsOf 3)) = some y2 := hx2 2 _ rfl
    rw [cells3] at g2
    have g3 : DataW.trod enc Try.prog W 0 (fun _ => true) true n 22 (([c0, c1, c2, c3, c4, c5, c6, c7, c8, c9, c10, c11, c12, c13].drop 3).take (Try.prog.cellsOf 22)) = some y3 := hx2 3 _ rfl
    rw [cellsU32] at g3
    have g4 : DataW.trod enc Try.prog W 0 (fun _ => true) true n 3 (([c0, c1, c2, c3, c4, c5, c6, c7, c8, c9, c10, c11, c12, c13].drop 4).take (Try.prog.cellsOf 3)) = some y4 := hx2 4 _ rfl
    rw [cells3] at g4
    have g5 : DataW.trod enc Try.prog W 0 (fun _ => true) true n 3 (([c0, c1, c2, c3, c4, c5, c6, c7, c8, c9, c10, c11, c12, c13].drop 5).take (Try.prog.cellsOf 3)) = some y5 := hx2 5 _ rfl
    rw [cells3] at g5
    have g6 : DataW.trod enc Try.prog W 0 (fun _ => true) true n 4 (([c0, c1, c2, c3, c4, c5, c6, c7, c8, c9, c10, c11, c12, c13].drop 6).take (Try.prog.cellsOf 4)) = some y6 := hx2 6 _ rfl
    rw [cells4] at g6
    have g7 : DataW.trod enc Try.prog W 0 (fun _ => true) true n 22 (([c0, c1, c2, c3, c4, c5, c6, c7, c8, c9, c10, c11, c12, c13].drop 7).take (Try.prog.cellsOf 22)) = some y7 := hx2 7 _ rfl
    rw [cellsU32] at g7
    have g8 : DataW.trod enc Try.prog W 0 (fun _ => true) true n 22 (([c0, c1, c2, c3, c4, c5, c6, c7, c8, c9, c10, c11, c12, c13].drop 8).take (Try.prog.cellsOf 22)) = some y8 := hx2 8 _ rfl
    rw [cellsU32] at g8
    have g9 : DataW.trod enc Try.prog W 0 (fun _ => true) true n 3 (([c0, c1, c2, c3, c4, c5, c6, c7, c8, c9, c10, c11, c12, c13].drop 9).take (Try.prog.cellsOf 3)) = some y9 := hx2 9 _ rfl
    rw [cells3] at g9
    have g10 : DataW.trod enc Try.prog W 0 (fun _ => true) true n 3 (([c0, c1, c2, c3, c4, c5, c6, c7, c8, c9, c10, c11, c12, c13].drop 10).take (Try.prog.cellsOf 3)) = some y10 := hx2 10 _ rfl
    rw [cells3] at g10
    have g11 : DataW.trod enc Try.prog W 0 (fun _ => true) true n 3 (([c0, c1, c2, c3, c4, c5, c6, c7, c8, c9, c10, c11, c12, c13].drop 11).take (Try.prog.cellsOf 3)) = some y11 := hx2 11 _ rfl
    rw [cells3] at g11
    have g12 : DataW.trod enc Try.prog W 0 (fun _ => true) true n 9 (([c0, c1, c2, c3, c4, c5, c6, c7, c8, c9, c10, c11, c12, c13].drop 12).take (Try.prog.cellsOf 9)) = some y12 := hx2 12 _ rfl
    rw [cells9] at g12
    have g13 : DataW.trod enc Try.prog W 0 (fun _ => true) true n 9 (([c0, c1, c2, c3, c4, c5, c6, c7, c8, c9, c10, c11, c12, c13].drop 13).take (Try.prog.cellsOf 9)) = some y13 := hx2 13 _ rfl
    rw [cells9] at g13
    obtain ⟨x0, e0, _, w0⟩ := DataW.trod_int Try.underlying3 g0
    obtain ⟨x1, e1, _, w1⟩ := DataW.trod_int Try.underlying3 g1
    obtain ⟨x2, e2, _, w2⟩ := DataW.trod_int Try.underlying3 g2
    obtain ⟨x3, e3, _, w3⟩ := DataW.trod_int Try.underlying22 g3
    obtain ⟨x4, e4, _, w4⟩ := DataW.trod_int Try.underlying3 g4
    obtain ⟨x5, e5, _, w5⟩ := DataW.trod_int Try.underlying3 g5
    obtain ⟨x6, e6, _⟩ := DataW.trod_bool Try.underlying4 g6
    obtain ⟨x7, e7, _, w7⟩ := DataW.trod_int Try.underlying22 g7
    obtain ⟨x8, e8, _, w8⟩ := DataW.trod_int Try.underlying22 g8
    obtain ⟨x9, e9, _, w9⟩ := DataW.trod_int Try.underlying3 g9
    obtain ⟨x10, e10, _, w10⟩ := DataW.trod_int Try.underlying3 g10
    obtain ⟨x11, e11, _, w11⟩ := DataW.trod_int Try.underlying3 g11
    obtain ⟨x12, e12, hy12, _⟩ := DataW.trod_string Try.underlying9 g12
    obtain ⟨x13, e13, hy13, _⟩ := DataW.trod_string Try.underlying9 g13
    simp at e0 e1 e2 e3 e4 e5 e6 e7 e8 e9 e10 e11 e12 e13
    subst e0 e1 e2 e3 e4 e5 e6 e7 e8 e9 e10 e11 e12 e13
    obtain ⟨os, rfl, hol, hof⟩ := str_nums x12
    obtain ⟨dd, rfl, hdl, hdf⟩ := str_nums x13
    have hd2 : d = .agg [y0.1, y1.1, y2.1, y3.1, y4.1, y5.1, y6.1, y7.1, y8.1, y9.1, y10.1, y11.1, y12.1, y13.1] := by
      have := congrArg Prod.fst hx
      simpa using this
    have hm : os.length ∈ DataW.weightsEach Try.prog ts ds := by
      refine DataW.weights_mem_each ht hd _ ?_
      rw [hd2]
      simp only [DataW.weights, Try.underlying25]
      refine DataW.weights_mem_each (j := 12) (t := 9) (d := y12.1) rfl rfl _ ?_
      rw [hy12]
      show os.length ∈ [(strOfNums os).data.toList.length]
      rw [strOfNums_data, List.length_map]
      exact List.mem_singleton_self _
    have hm2 : dd.length ∈ DataW.weightsEach Try.prog ts ds := by
      refine DataW.weights_mem_each ht hd _ ?_
      rw [hd2]
      simp only [DataW.weights, Try.underlying25]
      refine DataW.weights_mem_each (j := 13) (t := 9) (d := y13.1) rfl rfl _ ?_
      rw [hy13]
      show dd.length ∈ [(strOfNums dd).data.toList.length]
      rw [strOfNums_data, List.length_map]
      exact List.mem_singleton_self _
    have q1 := of_decide_eq_true (List.all_eq_true.1 hsz _ hm)
    have q2 := of_decide_eq_true (List.all_eq_true.1 hsz _ hm2)
    unfold reachBytes at q1 q2
    exact ⟨⟨x0, x1, x2, x3, x4, x5, x6, x7, x8, x9, x10, x11, os, dd⟩, rfl, ⟨b_u32 w3, b_u32 w7, b_u32 w8, hof, hdf, by show dd.length ≤ _; omega⟩, by show os.length ≤ _; omega, by show dd.length ≤ _; omega⟩
end Go.Proofs.Ytanilaofhaelkaa
