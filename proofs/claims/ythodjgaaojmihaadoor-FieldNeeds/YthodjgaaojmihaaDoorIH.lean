/- What Encode of package ip answers: the bytes of any head that fits, or an error. Conditions: addresses of 32 bits, options as a list of bytes. -/
import Derived.Test.YthodjgaaojmihaaDoorIC
import Derived.Lib.AppendStr
import Derived.Laws.MakeOwn
namespace Go.Proofs.YthodjgaaojmihaaDoor.Ip
open Go.RowKit

theorem _root_.Go.Proofs.YthodjgaaojmihaaDoor.AtB.eight {W : World} {b : Nat} {x0 x1 x2 x3 x4 x5 x6 x7 : Value} (h : AtB W b #[x0, x1, x2, x3, x4, x5, x6, x7]) :
    W.cell? ⟨b, 0, none⟩ = some x0 ∧ W.cell? ⟨b, 1, none⟩ = some x1 ∧ W.cell? ⟨b, 2, none⟩ = some x2 ∧ W.cell? ⟨b, 3, none⟩ = some x3 ∧ W.cell? ⟨b, 4, none⟩ = some x4 ∧ W.cell? ⟨b, 5, none⟩ = some x5 ∧ W.cell? ⟨b, 6, none⟩ = some x6 ∧ W.cell? ⟨b, 7, none⟩ = some x7 :=
  ⟨h.2 0, h.2 1, h.2 2, h.2 3, h.2 4, h.2 5, h.2 6, h.2 7⟩

/-- A row of bytes of the call's own, at the head of its block. -/
structure EncS (w2 V : World) (g N cap : Nat) (B : List Int) : Prop where
  own : V.ownsRow w2.heap.size 5 1 (.slice (some ⟨g, 0, none⟩) N cap) N (B.map (Value.int .u8))
  bel : Below w2.heap.size w2 V
  fits : ∀ i, 0 ≤ B.getD i 0 ∧ B.getD i 0 ≤ 255
  room : N ≤ 140737488355328
theorem EncS.drew {w2 V : World} {g N cap : Nat} {B : List Int} (h : EncS w2 V g N cap B) : EncS w2 V.drew g N cap B := ⟨h.own, h.bel.drew, h.fits, h.room⟩
theorem EncS.drewN {w2 V : World} {g N cap : Nat} {B : List Int} (h : EncS w2 V g N cap B) (q : Nat) : EncS w2 (V.drewN q) g N cap B := ⟨h.own, below_drewN h.bel q, h.fits, h.room⟩
theorem EncS.cell {w2 V : World} {g N cap : Nat} {B : List Int} (h : EncS w2 V g N cap B) (t : Nat) (ht : t < N) : V.cell? ⟨g, t, none⟩ = some (.int .u8 (B.getD t 0)) := by
  have hl : B.length = N := by have := h.own.1; simpa using this
  rw [h.own.cellAt t (by omega), List.getElem?_map]
  simp [List.getD_eq_getElem?_getD, List.getElem?_eq_getElem (show t < B.length by omega)]
end Go.Proofs.YthodjgaaojmihaaDoor.Ip
