/- States that are equal do not compare as different. Conditions: the State's cells are of their kinds. -/
import Derived.Test.YtikbjckcnidimaaGreatDoorFZ
namespace Go.Proofs.YtikbjckcnidimaaGreatDoor
open Go.RowKit

set_option maxRecDepth 20000 in
set_option maxHeartbeats 4000000 in
theorem neq_state {cs : Array Value} (h : St cs) (W : World) : (binOp .neq 50 (.agg cs) (.agg cs)).run Tryz.prog W = .ok (.bool false) W := by
  obtain ⟨l⟩ := cs
  have hl : l.length = 49 := by simpa using h.size
  obtain ⟨c0v, l0, rfl, k0⟩ := list_cons hl
  obtain ⟨c1v, l1, rfl, k1⟩ := list_cons k0
  obtain ⟨c2v, l2, rfl, k2⟩ := list_cons k1
  obtain ⟨c3v, l3, rfl, k3⟩ := list_cons k2
  obtain ⟨c4v, l4, rfl, k4⟩ := list_cons k3
  obtain ⟨c5v, l5, rfl, k5⟩ := list_cons k4
  obtain ⟨c6v, l6, rfl, k6⟩ := list_cons k5
  obtain ⟨c7v, l7, rfl, k7⟩ := list_cons k6
  obtain ⟨c8v, l8, rfl, k8⟩ := list_cons k7
  obtain ⟨c9v, l9, rfl, k9⟩ := list_cons k8
  obtain ⟨c10v, l10, rfl, k10⟩ := list_cons k9
  obtain ⟨c11v, l11, rfl, k11⟩ := list_cons k10
  obtain ⟨c12v, l12, rfl, k12⟩ := list_cons k11
  obtain ⟨c13v, l13, rfl, k13⟩ := list_cons k12
  obtain ⟨c14v, l14, rfl, k14⟩ := list_cons k13
  obtain ⟨c15v, l15, rfl, k15⟩ := list_cons k14
  obtain ⟨c16v, l16, rfl, k16⟩ := list_cons k15
  obtain ⟨c17v, l17, rfl, k17⟩ := list_cons k16
  obtain ⟨c18v, l18, rfl, k18⟩ := list_cons k17
  obtain ⟨c19v, l19, rfl, k19⟩ := list_cons k18
  obtain ⟨c20v, l20, rfl, k20⟩ := list_cons k19
  obtain ⟨c21v, l21, rfl, k21⟩ := list_cons k20
  obtain ⟨c22v, l22, rfl, k22⟩ := list_cons k21
  obtain ⟨c23v, l23, rfl, k23⟩ := list_cons k22
  obtain ⟨c24v, l24, rfl, k24⟩ := list_cons k23
  obtain ⟨c25v, l25, rfl, k25⟩ := list_cons k24
  obtain ⟨c26v, l26, rfl, k26⟩ := list_cons k25
  obtain ⟨c27v, l27, rfl, k27⟩ := list_cons k26
  obtain ⟨c28v, l28, rfl, k28⟩ := list_cons k27
  obtain ⟨c29v, l29, rfl, k29⟩ := list_cons k28
  obtain ⟨c30v, l30, rfl, k30⟩ := list_cons k29
  obtain ⟨c31v, l31, rfl, k31⟩ := list_cons k30
  obtain ⟨c32v, l32, rfl, k32⟩ := list_cons k31
  obtain ⟨c33v, l33, rfl, k33⟩ := list_cons k32
  obtain ⟨c34v, l34, rfl, k34⟩ := list_cons k33
  obtain ⟨c35v, l35, rfl, k35⟩ := list_cons k34
  obtain ⟨c36v, l36, rfl, k36⟩ := list_cons k35
  obtain ⟨c37v, l37, rfl, k37⟩ := list_cons k36
  obtain ⟨c38v, l38, rfl, k38⟩ := list_cons k37
  obtain ⟨c39v, l39, rfl, k39⟩ := list_cons k38
  obtain ⟨c40v, l40, rfl, k40⟩ := list_cons k39
  obtain ⟨c41v, l41, rfl, k41⟩ := list_cons k40
  obtain ⟨c42v, l42, rfl, k42⟩ := list_cons k41
  obtain ⟨c43v, l43, rfl, k43⟩ := list_cons k42
  obtain ⟨c44v, l44, rfl, k44⟩ := list_cons k43
  obtain ⟨c45v, l45, rfl, k45⟩ := list_cons k44
  obtain ⟨c46v, l46, rfl, k46⟩ := list_cons k45
  obtain ⟨c47v, l47, rfl, k47⟩ := list_cons k46
  obtain ⟨c48v, l48, rfl, k48⟩ := list_cons k47
  obtain rfl := List.length_eq_zero_iff.1 k48
  obtain ⟨x0, hx0, _⟩ := h.u64 0 (by decide)
  obtain ⟨x1, hx1, _⟩ := h.u64 1 (by decide)
  obtain ⟨x2, hx2⟩ := h.bool 2 (by decide)
  obtain ⟨x3, hx3, _⟩ := h.i64 3 (by decide)
  obtain ⟨x4, hx4, _⟩ := h.i64 4 (by decide)
  obtain ⟨x5, hx5⟩ := h.bool 5 (by decide)
  obtain ⟨x6, hx6, _⟩ := h.i64 6 (by decide)
  obtain ⟨x7, hx7, _⟩ := h.u64 7 (by decide)
  obtain ⟨x8, hx8, _⟩ := h.u32 8 (by decide)
  obtain ⟨x9, hx9, _⟩ := h.u64 9 (by decide)
  obtain ⟨x10, hx10, _⟩ := h.u32 10 (by decide)
  obtain ⟨x11, hx11⟩ := h.bool 11 (by decide)
  obtain ⟨x12, hx12, _⟩ := h.i64 12 (by decide)
  obtain ⟨x13, hx13, _⟩ := h.i64 13 (by decide)
  obtain ⟨x14, hx14, _⟩ := h.i64 14 (by decide)
  obtain ⟨x15, hx15, _⟩ := h.i64 15 (by decide)
  obtain ⟨x16, hx16, _⟩ := h.i64 16 (by decide)
  obtain ⟨x17, hx17, _⟩ := h.u32 17 (by decide)
  obtain ⟨x18, hx18, _⟩ := h.u32 18 (by decide)
  obtain ⟨x19, hx19⟩ := h.str 19 (by decide)
  obtain ⟨x20, hx20, _⟩ := h.i64 20 (by decide)
  obtain ⟨x21, hx21, _⟩ := h.i64 21 (by decide)
  obtain ⟨x22, hx22, _⟩ := h.i64 22 (by decide)
  obtain ⟨x23, hx23, _⟩ := h.u32 23 (by decide)
  obtain ⟨x24, hx24, _⟩ := h.i64 24 (by decide)
  obtain ⟨x25, hx25, _⟩ := h.i64 25 (by decide)
  obtain ⟨x26, hx26⟩ := h.bool 26 (by decide)
  obtain ⟨x27, hx27, _⟩ := h.u32 27 (by decide)
  obtain ⟨x28, hx28, _⟩ := h.u32 28 (by decide)
  obtain ⟨x29, hx29, _⟩ := h.i64 29 (by decide)
  obtain ⟨x30, hx30, _⟩ := h.i64 30 (by decide)
  obtain ⟨x31, hx31, _⟩ := h.i64 31 (by decide)
  obtain ⟨x32, hx32⟩ := h.str 32 (by decide)
  obtain ⟨x33, hx33⟩ := h.str 33 (by decide)
  obtain ⟨x34, hx34⟩ := h.str 34 (by decide)
  obtain ⟨x35, hx35⟩ := h.str 35 (by decide)
  obtain ⟨x36, hx36, _⟩ := h.i64 36 (by decide)
  obtain ⟨x37, hx37, _⟩ := h.i64 37 (by decide)
  obtain ⟨x38, hx38, _⟩ := h.i64 38 (by decide)
  obtain ⟨x39, hx39, _⟩ := h.i64 39 (by decide)
  obtain ⟨x40, hx40, _⟩ := h.u32 40 (by decide)
  obtain ⟨x41, hx41, _⟩ := h.u32 41 (by decide)
  obtain ⟨x42, hx42, _⟩ := h.u32 42 (by decide)
  obtain ⟨x43, hx43, _⟩ := h.u32 43 (by decide)
  obtain ⟨x44, hx44, _⟩ := h.i64 44 (by decide)
  obtain ⟨x45, hx45, _⟩ := h.u32 45 (by decide)
  obtain ⟨x46, hx46, _⟩ := h.u32 46 (by decide)
  obtain ⟨x47, hx47, _⟩ := h.i64 47 (by decide)
  obtain ⟨x48, hx48, _⟩ := h.i64 48 (by decide)
  simp only [List.getElem?_toArray, List.getElem?_cons_zero, List.getElem?_cons_succ, Option.some.injEq] at hx0 hx1 hx2 hx3 hx4 hx5 hx6 hx7 hx8 hx9 hx10 hx11 hx12 hx13 hx14 hx15 hx16 hx17 hx18 hx19 hx20 hx21 hx22 hx23 hx24 hx25 hx26 hx27 hx28 hx29 hx30 hx31 hx32 hx33 hx34 hx35 hx36 hx37 hx38 hx39 hx40 hx41 hx42 hx43 hx44 hx45 hx46 hx47 hx48
  subst hx0 hx1 hx2 hx3 hx4 hx5 hx6 hx7 hx8 hx9 hx10 hx11 hx12 hx13 hx14 hx15 hx16 hx17 hx18 hx19 hx20 hx21 hx22 hx23 hx24 hx25 hx26 hx27 hx28 hx29 hx30 hx31 hx32 hx33 hx34 hx35 hx36 hx37 hx38 hx39 hx40 hx41 hx42 hx43 hx44 hx45 hx46 hx47 hx48
  clear h hl
  simp [go_sem, eq_regs]
end Go.Proofs.YtikbjckcnidimaaGreatDoor
