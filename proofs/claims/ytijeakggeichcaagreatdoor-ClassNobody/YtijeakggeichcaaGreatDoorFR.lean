/- Needs of the program and of the reference: the same terms. No condition. -/
import Derived.Test.YtijeakggeichcaaGreatDoorFQ
import Derived.Deep.RegionHeld3
import Derived.Deep.RegionWith
import Derived.Deep.DrawnRows
namespace Go.Proofs.YtijeakggeichcaaGreatDoor
open Go.RowKit
theorem infoTerm : (Tryz.prog.info? 68).map (·.size) = some 3 := by kernel_rfl
theorem ones_min (f : Nat) : IntKind.u64.wrap (IntKind.u64.wrap (2 ^ min (fBits f) 64) - 1) = (2 ^ fBits f - 1 : Int) := by
  rw [show min (fBits f) 64 = fBits f from by have := fBits_le f; omega]
  exact ones_val _ (fBits_le f)
def needC : Nat → Array Value
  | 1 => #[.int .i64 3, .int .u64 2054, .int .u64 65535]
  | 2 => #[.int .i64 3, .int .u64 2048, .int .u64 65535]
  | 3 => #[.int .i64 3, .int .u64 2048, .int .u64 65535, .int .i64 12, .int .u64 1, .int .u64 255]
  | 4 => #[.int .i64 3, .int .u64 2048, .int .u64 65535]
  | 5 => #[.int .i64 3, .int .u64 2048, .int .u64 65535, .int .i64 12, .int .u64 6, .int .u64 255]
  | _ => #[]
def needLen : Nat → Nat
  | 1 => 1
  | 2 => 1
  | 3 => 2
  | 4 => 1
  | 5 => 2
  | _ => 0
/-- The terms that packets of a sort must have, as a slice. -/
def NeedS (W : World) (o : Nat) (v : Value) : Prop := (needLen o = 0 ∧ v = .slice none 0 0) ∨ (∃ g, v = .slice (some ⟨g, 0, none⟩) (needLen o) (needLen o) ∧ W.heap[g]? = some (.cells (needC o) 68 (0, 0)))
theorem NeedS.below {W W' : World} {o : Nat} {v : Value} (h : NeedS W o v) (hb : Below W.heap.size W W') : NeedS W' o v := by
  rcases h with h | ⟨g, h1, h2⟩
  · exact .inl h
  · exact .inr ⟨g, h1, (hb.block _ (lt_of_heap h2)).trans h2⟩
theorem needS_four {W : World} {v : Value} (h : NeedS W 2 v) : NeedS W 4 v := h
end Go.Proofs.YtijeakggeichcaaGreatDoor
