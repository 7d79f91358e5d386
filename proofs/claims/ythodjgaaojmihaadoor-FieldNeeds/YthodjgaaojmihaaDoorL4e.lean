/- Rows that package l4 makes: the head of a packet, appended number by number; a row filled whole. Conditions: numbers that are not negative. -/
import Derived.Test.YthodjgaaojmihaaDoorL4c
import Derived.Lib.AppendStr
import Derived.Laws.MakeOwn
import Derived.Laws.CopyOwn
namespace Go.Proofs.YthodjgaaojmihaaDoor
open Go.RowKit

/-- A row of bytes of the call's own, at the head of its block. -/
structure EncS (w2 V : World) (g N cap : Nat) (B : List Int) : Prop where
  own : V.ownsRow w2.heap.size 5 1 (.slice (some ⟨g, 0, none⟩) N cap) N (B.map (Value.int .u8))
  bel : Below w2.heap.size w2 V
  fits : ∀ i, 0 ≤ B.getD i 0 ∧ B.getD i 0 ≤ 255
  room : N ≤ 140737488355328

theorem EncS.drew {w2 V : World} {g N cap : Nat} {B : List Int} (h : EncS w2 V g N cap B) : EncS w2 V.drew g N cap B := ⟨h.own, h.bel.drew, h.fits, h.room⟩

theorem EncS.drewN {w2 V : World} {g N cap : Nat} {B : List Int} (h : EncS w2 V g N cap B) (q : Nat) : EncS w2 (V.drewN q) g N cap B := ⟨h.own, below_drewN h.bel q, h.fits, h.room⟩

theorem EncS.cell {w2 V : World} {g N cap : Nat} {B : List Int} (h : EncS w2 V g N cap B) (t : Nat) (ht : t < N) : V.cell? ⟨g, t, none⟩ = some (.int .u8 (B.getD t 0)) := by
  have hl : B.length = N := by have := h.own.1; simpa using this
  rw [h.own.cellAt t (by omega), List.getElem?_map]
  simp [List.getD_eq_getElem?_getD, List.getElem?_eq_getElem (show t < B.length by omega)]

end Go.Proofs.YthodjgaaojmihaaDoor
