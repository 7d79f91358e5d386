/- A head among a law's arguments: what its fields are. No condition. -/
import Derived.Test.YtajabhffpeckhaaWLives
import Derived.Test.YtajabhffpeckhaaWREnc2
namespace Go.Proofs.Ytajabhffpeckhaa
open Go.ChangeShapes Go.WideShapes Go.ChangeAt Go.RowKit

theorem cells23 : Try.prog.cellsOf 23 = 1 := by kernel_rfl
theorem cells3 : Try.prog.cellsOf 3 = 1 := by kernel_rfl
theorem cells9 : Try.prog.cellsOf 9 = 1 := by kernel_rfl
theorem cells25 : Try.prog.cellsOf 25 = 8 := by kernel_rfl

theorem array8 {α : Type} {cs : Array α} (h : cs.size = 8) : ∃ a b c d e f g i, cs = #[a, b, c, d, e, f, g, i] := by
  obtain ⟨l⟩ := cs
  match l, h with
  | [a, b, c, d, e, f, g, i], _ => exact ⟨a, b, c, d, e, f, g, i, rfl⟩

theorem str_nums (s : ByteArray) : ∃ os : List Int, s = strOfNums os ∧ os.length = s.size ∧ (∀ i, 0 ≤ os.getD i 0 ∧ os.getD i 0 ≤ 255) := by
  refine ⟨s.data.toList.map fun x => (x.toNat : Int), ?_, by rw [List.length_map]; rfl, fun i => ?_⟩
  · cases s with
    | mk d =>
      have h : ∀ l : List UInt8, l.map ((fun n : Int => UInt8.ofNat n.toNat) ∘ fun x : UInt8 => (x.toNat : Int)) = l := by
        intro l
        induction l with
        | nil => rfl
        | cons x r ih => simp [ih]
      simp [strOfNums, h]
  · rw [List.getD_eq_getElem?_getD, List.getElem?_map]
    rcases hx : s.data.toList[i]? with _ | x
    · simp
    · have := x.toNat_lt
      simp; omega

theorem open_ip {H : Type} {enc : TypeId × Value → H} {W : World} {v : Value} {d : DataW H} {p : List MemPlace} {r : Reach} {base : Nat} {ts : List TypeId} {ds : List (DataW H)} (j : Nat)
    (hv : Value.okWide Try.prog W r base 25 v) (h : DataW.Trod enc Try.prog W 0 (fun _ => true) true 25 v d p) (hsz : (DataW.weightsEach Try.prog ts ds).all (· ≤ reachBytes) = true) (ht : ts[j]? = some 25) (hd : ds[j]? = some d) :
    ∃ (tos id frag ttl pr src dst : Int) (os : List Int), v = ipV tos id frag ttl pr src dst os ∧ (-9223372036854775808 ≤ frag ∧ frag ≤ 9223372036854775807) ∧ (0 ≤ src ∧ src ≤ 4294967295) ∧ (0 ≤ dst ∧ dst ≤ 4294967295) ∧ (∀ i, 0 ≤ os.getD i 0 ∧ os.getD i 0 ≤ 255) ∧ os.length ≤ 140737488351232 := by
  obtain ⟨cs, rfl, hcs⟩ := okWide_struct Try.underlying25 hv
  obtain ⟨c0, c1, c2, c3, c4, c5, c6, c7, rfl⟩ := array8 (hcs.trans cells25)
  obtain ⟨fuel, hf⟩ := h
  obtain ⟨xs, n, _, hx, _, hlen, hx2⟩ := DataW.trod_struct Try.underlying25 hf
  match xs, hlen with
  | [y0, y1, y2, y3, y4, y5, y6, y7], _ =>
    have g0 : DataW.trod enc Try.prog W 0 (fun _ => true) true n 3 (([c0, c1, c2, c3, c4, c5, c6, c7].drop 0).take (Try.prog.cellsOf 3)) = some y0 := hx2 0 _ rfl
    rw [cells3] at g0
    have g1 : DataW.trod enc Try.prog W 0 (fun _ => true) true n 3 (([c0, c1, c2, c3, c4, c5, c6, c7].drop 1).take (Try.prog.cellsOf 3)) = some y1 := hx2 1 _ rfl
    rw [cells3] at g1
    have g2 : DataW.trod enc Try.prog W 0 (fun _ => true) true n 3 (([c0, c1, c2, c3, c4, c5, c6, c7].drop 2).take (Try.prog.cellsOf 3)) = some y2 := hx2 2 _ rfl
    rw [cells3] at g2
    have g3 : DataW.trod enc Try.prog W 0 (fun _ => true) true n 3 (([c0, c1, c2, c3, c4, c5, c6, c7].drop 3).take (Try.prog.cellsOf 3)) = some y3 := hx2 3 _ rfl
    rw [cells3] at g3
    have g4 : DataW.trod enc Try.prog W 0 (fun _ => true) true n 3 (([c0, c1, c2, c3, c4, c5, c6, c7].drop 4).take (Try.prog.cellsOf 3)) = some y4 := hx2 4 _ rfl
    rw [cells3] at g4
    have g5 : DataW.trod enc Try.prog W 0 (fun _ => true) true n 23 (([c0, c1, c2, c3, c4, c5, c6, c7].drop 5).take (Try.prog.cellsOf 23)) = some y5 := hx2 5 _ rfl
    rw [cells23] at g5
    have g6 : DataW.trod enc Try.prog W 0 (fun _ => true) true n 23 (([c0, c1, c2, c3, c4, c5, c6, c7].drop 6).take (Try.prog.cellsOf 23)) = some y6 := hx2 6 _ rfl
    rw [cells23] at g6
    have g7 : DataW.trod enc Try.prog W 0 (fun _ => true) true n 9 (([c0, c1, c2, c3, c4, c5, c6, c7].drop 7).take (Try.prog.cellsOf 9)) = some y7 := hx2 7 _ rfl
    rw [cells9] at g7
    obtain ⟨x0, e0, _, _⟩ := DataW.trod_int Try.underlying3 g0
    obtain ⟨x1, e1, _, _⟩ := DataW.trod_int Try.underlying3 g1
    obtain ⟨x2, e2, _, w2⟩ := DataW.trod_int Try.underlying3 g2
    obtain ⟨x3, e3, _, _⟩ := DataW.trod_int Try.underlying3 g3
    obtain ⟨x4, e4, _, _⟩ := DataW.trod_int Try.underlying3 g4
    obtain ⟨x5, e5, _, w5⟩ := DataW.trod_int Try.underlying23 g5
    obtain ⟨x6, e6, _, w6⟩ := DataW.trod_int Try.underlying23 g6
    obtain ⟨x7, e7, hy7, _⟩ := DataW.trod_string Try.underlying9 g7
    simp at e0 e1 e2 e3 e4 e5 e6 e7
    subst e0 e1 e2 e3 e4 e5 e6 e7
    obtain ⟨os, rfl, hol, hof⟩ := str_nums x7
    refine ⟨x0, x1, x2, x3, x4, x5, x6, os, rfl, bounds_i64 w2, bounds_u32 w5, bounds_u32 w6, hof, ?_⟩
    have hd2 : d = .agg [y0.1, y1.1, y2.1, y3.1, y4.1, y5.1, y6.1, y7.1] := by
      have := congrArg Prod.fst hx
      simpa using this
    have hm : os.length ∈ DataW.weightsEach Try.prog ts ds := by
      refine DataW.weights_mem_each ht hd _ ?_
      rw [hd2]
      simp only [DataW.weights, Try.underlying25]
      refine DataW.weights_mem_each (j := 7) (t := 9) (d := y7.1) rfl rfl _ ?_
      rw [hy7]
      show os.length ∈ [(strOfNums os).data.toList.length]
      rw [strOfNums_data, List.length_map]
      exact List.mem_singleton_self _
    have := of_decide_eq_true (List.all_eq_true.1 hsz _ hm)
    unfold reachBytes at this
    omega

theorem andNat (n m : Int) (M : Nat) (hM : (BitVec.ofInt 64 m).toNat = M) (hs : M < 4611686018427387904) : bits .and .i64 n m = (((BitVec.ofInt 64 n).toNat &&& M : Nat) : Int) := by
  show IntKind.i64.wrap ((BitVec.ofInt 64 n &&& BitVec.ofInt 64 m).toNat : Nat) = _
  have h := Nat.and_le_right (n := (BitVec.ofInt 64 n).toNat) (m := M)
  rw [BitVec.toNat_and, hM, IntKind.wrap_i64]
  omega
theorem whole_same (n : Int) : ((bits .and .i64 n 8191 == 0) && (bits .and .i64 n 8192 == 0)) = (bits .and .i64 n 16383 == 0) := by
  rw [andNat n 8191 8191 (by decide) (by omega), andNat n 8192 8192 (by decide) (by omega), andNat n 16383 16383 (by decide) (by omega), show (16383 : Nat) = 8191 ||| 8192 from by decide, Nat.and_or_distrib_left]
  generalize (BitVec.ofInt 64 n).toNat &&& 8191 = x
  generalize (BitVec.ofInt 64 n).toNat &&& 8192 = y
  have := Nat.or_eq_zero_iff (n := x) (m := y)
  rw [Bool.eq_iff_iff]
  simp only [Bool.and_eq_true, beq_iff_eq, Int.natCast_eq_zero]
  exact this.symm
end Go.Proofs.Ytajabhffpeckhaa
