/-
  DERIVED. GIVEN WITH THE SEED: THE CARDS: each row of YthodjgaaojmihaaDoorRows.lean that lists a variable, with what it lists TIED to the program's text (the seventh form; the later family's looks); each row that meets fmt, with fmt's text TOLD by the authors' own Lean function (tested against real Go, not proved from fmt's source: count such statements apart). THE CARD IS WHAT COUNTS. Prove the row's statement (the work); the ties are given (YthodjgaaojmihaaDoorTie.lean); close each card by the builder's one call (the guide's Derived/Test/ToyasCard.lean, 'card_holds'). Laid BY PROGRAM, IN A SANDBOX (cutbox-door.mjs). By AI agents, Wed Nov 11 2026. No macro, syntax, notation, axiom, sorry.
-/
import Derived.Test.YthodjgaaojmihaaDoorRows
import GoSem.ClaimSeven
namespace Go.Proofs.YthodjgaaojmihaaDoor
namespace Rows

/-- THE TIED CARD OF 'skeinlaw08.FieldNeeds'. -/
def fieldNeedsCard : Claim7 := { stood := { row := fieldNeedsRow, standIns := [], harness := (true, "fb6d8c354e0a37b340d0eb7332ed5275b763c1d5f8c2c5c96ee21859797c4d9a"), looks := false }, kinds := [], alts := [], laidByText := true, laidKinds := [.data, .data, .data], laidTests := true, laidLooks := .later }
def FieldNeedsCardSaid : Prop := Claim7.holds Tryd.pinned (.plain (OpenSpec.ofChange fieldNeedsSpec)) fieldNeedsCard

/-- THE SECOND FORM's CARD OF 'skeinlaw08.FieldNeeds'. -/
def fieldNeedsUptoCard : Claim7 := { stood := { row := fieldNeedsUptoRow, standIns := [], harness := (true, "fb6d8c354e0a37b340d0eb7332ed5275b763c1d5f8c2c5c96ee21859797c4d9a"), looks := false }, kinds := [], alts := [], laidByText := true, laidKinds := [.data, .data, .data], laidTests := true, laidLooks := .later }
def FieldNeedsUptoCardSaid : Prop := Claim7.holds Tryd.pinned (.plain (OpenSpec.upto fieldNeedsSpec)) fieldNeedsUptoCard
end Rows
end Go.Proofs.YthodjgaaojmihaaDoor
