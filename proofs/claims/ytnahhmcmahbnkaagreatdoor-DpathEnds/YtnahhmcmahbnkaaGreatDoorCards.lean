/-
  DERIVED. GIVEN WITH THE SEED: THE CARDS: each row of YtnahhmcmahbnkaaGreatDoorRows.lean that lists a variable, with what it lists TIED to the program's text (the seventh form; the later family's looks); each row that meets fmt, with fmt's text TOLD by the authors' own Lean function (tested against real Go, not proved from fmt's source: count such statements apart). THE CARD IS WHAT COUNTS. Prove the row's statement (the work); the ties are given (YtnahhmcmahbnkaaGreatDoorTie.lean); close each card by the builder's one call (the guide's Derived/Test/ToyasCard.lean, 'card_holds'). Laid BY PROGRAM, IN A SANDBOX (cutbox-door.mjs). By AI agents, Wed Nov 11 2026. No macro, syntax, notation, axiom, sorry.
-/
import Derived.Test.YtnahhmcmahbnkaaGreatDoorRows
import GoSem.ClaimSeven
namespace Go.Proofs.YtnahhmcmahbnkaaGreatDoor
namespace Rows

/-- THE TIED CARD OF 'skeinlaw13.DpathEnds'. -/
def dpathEndsCard : Claim7 := { stood := { row := dpathEndsRow, standIns := [], harness := (true, "e8ed6352361e83b638733e4889d6e29cfae82d3e6aa6c10435114b1d22f709f9"), looks := true }, kinds := [], alts := [], laidByText := true, laidKinds := [.data, .data, .data], laidTests := true, laidLooks := .later }
def DpathEndsCardSaid : Prop := Claim7.holds Tryz.pinned (.plain (OpenSpec.ofChange dpathEndsSpec)) dpathEndsCard

/-- THE TIED CARD OF 'skeinlaw13.DpathNobody'. -/
def dpathNobodyCard : Claim7 := { stood := { row := dpathNobodyRow, standIns := [], harness := (true, "e8ed6352361e83b638733e4889d6e29cfae82d3e6aa6c10435114b1d22f709f9"), looks := true }, kinds := [], alts := [], laidByText := true, laidKinds := [.data, .data, .data], laidTests := true, laidLooks := .later }
def DpathNobodyCardSaid : Prop := Claim7.holds Tryz.pinned (.plain (OpenSpec.ofChange dpathNobodySpec)) dpathNobodyCard

/-- THE TIED CARD OF 'skeinlaw13.DpathClones'. -/
def dpathClonesCard : Claim7 := { stood := { row := dpathClonesRow, standIns := [], harness := (true, "e8ed6352361e83b638733e4889d6e29cfae82d3e6aa6c10435114b1d22f709f9"), looks := true }, kinds := [], alts := [], laidByText := true, laidKinds := [.data, .data, .data], laidTests := true, laidLooks := .later }
def DpathClonesCardSaid : Prop := Claim7.holds Tryz.pinned (.plain (OpenSpec.ofChange dpathClonesSpec)) dpathClonesCard

/-- THE SECOND FORM's CARD OF 'skeinlaw13.DpathEnds'. -/
def dpathEndsUptoCard : Claim7 := { stood := { row := dpathEndsUptoRow, standIns := [], harness := (true, "e8ed6352361e83b638733e4889d6e29cfae82d3e6aa6c10435114b1d22f709f9"), looks := true }, kinds := [], alts := [], laidByText := true, laidKinds := [.data, .data, .data], laidTests := true, laidLooks := .later }
def DpathEndsUptoCardSaid : Prop := Claim7.holds Tryz.pinned (.plain (OpenSpec.upto dpathEndsSpec)) dpathEndsUptoCard

/-- THE SECOND FORM's CARD OF 'skeinlaw13.DpathNobody'. -/
def dpathNobodyUptoCard : Claim7 := { stood := { row := dpathNobodyUptoRow, standIns := [], harness := (true, "e8ed6352361e83b638733e4889d6e29cfae82d3e6aa6c10435114b1d22f709f9"), looks := true }, kinds := [], alts := [], laidByText := true, laidKinds := [.data, .data, .data], laidTests := true, laidLooks := .later }
def DpathNobodyUptoCardSaid : Prop := Claim7.holds Tryz.pinned (.plain (OpenSpec.upto dpathNobodySpec)) dpathNobodyUptoCard

/-- THE SECOND FORM's CARD OF 'skeinlaw13.DpathClones'. -/
def dpathClonesUptoCard : Claim7 := { stood := { row := dpathClonesUptoRow, standIns := [], harness := (true, "e8ed6352361e83b638733e4889d6e29cfae82d3e6aa6c10435114b1d22f709f9"), looks := true }, kinds := [], alts := [], laidByText := true, laidKinds := [.data, .data, .data], laidTests := true, laidLooks := .later }
def DpathClonesUptoCardSaid : Prop := Claim7.holds Tryz.pinned (.plain (OpenSpec.upto dpathClonesSpec)) dpathClonesUptoCard
end Rows
end Go.Proofs.YtnahhmcmahbnkaaGreatDoor
