/- A head and an ARP packet among a law's arguments: what their fields are. No condition. -/
import Derived.Test.YtfjhahofmmbleaaLawBase
namespace Go.Proofs.Ytfjhahofmmbleaa
open Go.ChangeShapes Go.WideShapes Go.ChangeAt Go.RowKit

theorem array5 {α : Type} {cs : Array α} (h : cs.size = 5) : ∃ a b c d e, cs = #[a, b, c, d, e] := by
  obtain ⟨l⟩ := cs
  match l, h with
  | [a, b, c, d, e], _ => exact ⟨a, b, c, d, e, rfl⟩

theorem cells23 : Try.prog.cellsOf 23 = 1 := by kernel_rfl
theorem cells3 : Try.prog.cellsOf 3 = 1 := by kernel_rfl
theorem cells4 : Try.prog.cellsOf 4 = 1 := by kernel_rfl
theorem cells34 : Try.prog.cellsOf 34 = 1 := by kernel_rfl
theorem cells25 : Try.prog.cellsOf 25 = 5 := by kernel_rfl
theorem cells36 : Try.prog.cellsOf 36 = 5 := by kernel_rfl

theorem fields5 {H : Type} {enc : TypeId × Value → H} {W : World} {t : TypeId} {v : Value} {d : DataW H} {p : List MemPlace} {f0 f1 f2 f3 f4 : Field} {r : Reach} {base : Nat}
    (hs : Try.prog.underlying t = some (.struct #[f0, f1, f2, f3, f4])) (hC : Try.prog.cellsOf t = 5)
    (hv : Value.okWide Try.prog W r base t v) (h : DataW.Trod enc Try.prog W 0 (fun _ => true) true t v d p)
    (o0 : f0.offset = 0) (o1 : f1.offset = 1) (o2 : f2.offset = 2) (o3 : f3.offset = 3) (o4 : f4.offset = 4)
    (k0 : Try.prog.cellsOf f0.type = 1) (k1 : Try.prog.cellsOf f1.type = 1) (k2 : Try.prog.cellsOf f2.type = 1) (k3 : Try.prog.cellsOf f3.type = 1) (k4 : Try.prog.cellsOf f4.type = 1) :
    ∃ (c0 c1 c2 c3 c4 : Value) (y0 y1 y2 y3 y4 : DataW H × List MemPlace) (n : Nat), v = .agg #[c0, c1, c2, c3, c4] ∧
      DataW.trod enc Try.prog W 0 (fun _ => true) true n f0.type [c0] = some y0 ∧ DataW.trod enc Try.prog W 0 (fun _ => true) true n f1.type [c1] = some y1 ∧ DataW.trod enc Try.prog W 0 (fun _ => true) true n f2.type [c2] = some y2 ∧ DataW.trod enc Try.prog W 0 (fun _ => true) true n f3.type [c3] = some y3 ∧ DataW.trod enc Try.prog W 0 (fun _ => true) true n f4.type [c4] = some y4 := by
  obtain ⟨cs, rfl, hsz⟩ := okWide_struct hs hv
  obtain ⟨c0, c1, c2, c3, c4, rfl⟩ := array5 (hsz.trans hC)
  obtain ⟨fuel, hf⟩ := h
  obtain ⟨xs, n, _, _, _, hlen, hx⟩ := DataW.trod_struct hs hf
  match xs, hlen with
  | [y0, y1, y2, y3, y4], _ =>
    have g0 := hx 0 f0 rfl
    have g1 := hx 1 f1 rfl
    have g2 := hx 2 f2 rfl
    have g3 := hx 3 f3 rfl
    have g4 := hx 4 f4 rfl
    rw [o0, k0] at g0
    rw [o1, k1] at g1
    rw [o2, k2] at g2
    rw [o3, k3] at g3
    rw [o4, k4] at g4
    exact ⟨c0, c1, c2, c3, c4, y0, y1, y2, y3, y4, n, rfl, g0, g1, g2, g3, g4⟩

theorem open_eth {H : Type} {enc : TypeId × Value → H} {W : World} {v : Value} {d : DataW H} {p : List MemPlace} {r : Reach} {base : Nat}
    (hv : Value.okWide Try.prog W r base 25 v) (h : DataW.Trod enc Try.prog W 0 (fun _ => true) true 25 v d p) :
    ∃ (d s : Int) (tg : Bool) (tag ty : Int), v = .agg #[.int .u64 d, .int .u64 s, .bool tg, .int .i64 tag, .int .i64 ty] ∧ (0 ≤ d ∧ d ≤ 18446744073709551615) ∧ (0 ≤ s ∧ s ≤ 18446744073709551615) := by
  obtain ⟨c0, c1, c2, c3, c4, y0, y1, y2, y3, y4, n, rfl, g0, g1, g2, g3, g4⟩ := fields5 Try.underlying25 cells25 hv h rfl rfl rfl rfl rfl cells23 cells23 cells4 cells3 cells3
  obtain ⟨x0, e0, _, w0⟩ := DataW.trod_int Try.underlying23 g0
  obtain ⟨x1, e1, _, w1⟩ := DataW.trod_int Try.underlying23 g1
  obtain ⟨x2, e2, _⟩ := DataW.trod_bool Try.underlying4 g2
  obtain ⟨x3, e3, _, _⟩ := DataW.trod_int Try.underlying3 g3
  obtain ⟨x4, e4, _, _⟩ := DataW.trod_int Try.underlying3 g4
  simp at e0 e1 e2 e3 e4
  subst e0 e1 e2 e3 e4
  exact ⟨x0, x1, x2, x3, x4, rfl, bounds_u64 w0, bounds_u64 w1⟩

theorem open_arp {H : Type} {enc : TypeId × Value → H} {W : World} {v : Value} {d : DataW H} {p : List MemPlace} {r : Reach} {base : Nat}
    (hv : Value.okWide Try.prog W r base 36 v) (h : DataW.Trod enc Try.prog W 0 (fun _ => true) true 36 v d p) :
    ∃ (op sha spa tha tpa : Int), v = .agg #[.int .i64 op, .int .u64 sha, .int .u32 spa, .int .u64 tha, .int .u32 tpa] ∧ (0 ≤ sha ∧ sha ≤ 18446744073709551615) ∧ (0 ≤ spa ∧ spa ≤ 4294967295) ∧ (0 ≤ tha ∧ tha ≤ 18446744073709551615) ∧ (0 ≤ tpa ∧ tpa ≤ 4294967295) := by
  obtain ⟨c0, c1, c2, c3, c4, y0, y1, y2, y3, y4, n, rfl, g0, g1, g2, g3, g4⟩ := fields5 Try.underlying36 cells36 hv h rfl rfl rfl rfl rfl cells3 cells23 cells34 cells23 cells34
  obtain ⟨x0, e0, _, _⟩ := DataW.trod_int Try.underlying3 g0
  obtain ⟨x1, e1, _, w1⟩ := DataW.trod_int Try.underlying23 g1
  obtain ⟨x2, e2, _, w2⟩ := DataW.trod_int Try.underlying34 g2
  obtain ⟨x3, e3, _, w3⟩ := DataW.trod_int Try.underlying23 g3
  obtain ⟨x4, e4, _, w4⟩ := DataW.trod_int Try.underlying34 g4
  simp at e0 e1 e2 e3 e4
  subst e0 e1 e2 e3 e4
  exact ⟨x0, x1, x2, x3, x4, rfl, bounds_u64 w1, bounds_u32 w2, bounds_u64 w3, bounds_u32 w4⟩
end Go.Proofs.Ytfjhahofmmbleaa
