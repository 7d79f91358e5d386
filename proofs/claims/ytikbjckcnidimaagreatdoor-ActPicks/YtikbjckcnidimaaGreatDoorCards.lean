/-
  DERIVED. GIVEN WITH THE SEED: THE CARDS: each row of YtikbjckcnidimaaGreatDoorRows.lean that lists a variable, with what it lists TIED to the program's text (the seventh form; the later family's looks); each row that meets fmt, with fmt's text TOLD by the authors' own Lean function (tested against real Go, not proved from fmt's source: count such statements apart). THE CARD IS WHAT COUNTS. Prove the row's statement (the work); the ties are given (YtikbjckcnidimaaGreatDoorTie.lean); close each card by the builder's one call (the guide's Derived/Test/ToyasCard.lean, 'card_holds'). Laid BY PROGRAM, IN A SANDBOX (cutbox-door.mjs). By AI agents, Wed Nov 11 2026. No macro, syntax, notation, axiom, sorry.
-/
import Derived.Test.YtikbjckcnidimaaGreatDoorRows
import GoSem.ClaimSeven
namespace Go.Proofs.YtikbjckcnidimaaGreatDoor
namespace Rows

/-- THE TIED CARD OF 'skeinlaw11.ActChecks'. -/
def actChecksCard : Claim7 := { stood := { row := actChecksRow, standIns := [], harness := (true, "7ee4eb5a51fb6decb6e026e1ca77450cd3fa9c6678d599a06fd17965fba11830"), looks := false }, kinds := [], alts := [], laidByText := true, laidKinds := [.data, .data, .data], laidTests := true, laidLooks := .later }
def ActChecksCardSaid : Prop := Claim7.holds Tryz.pinned (.plain (OpenSpec.ofChange actChecksSpec)) actChecksCard

/-- THE TIED CARD OF 'skeinlaw11.ActSteps'. -/
def actStepsCard : Claim7 := { stood := { row := actStepsRow, standIns := [], harness := (true, "7ee4eb5a51fb6decb6e026e1ca77450cd3fa9c6678d599a06fd17965fba11830"), looks := false }, kinds := [], alts := [], laidByText := true, laidKinds := [.data, .data, .data], laidTests := true, laidLooks := .later }
def ActStepsCardSaid : Prop := Claim7.holds Tryz.pinned (.plain (OpenSpec.ofChange actStepsSpec)) actStepsCard

/-- THE TIED CARD OF 'skeinlaw11.ActPrints'. -/
def actPrintsCard : Claim7 := { stood := { row := actPrintsRow, standIns := [], harness := (true, "7ee4eb5a51fb6decb6e026e1ca77450cd3fa9c6678d599a06fd17965fba11830"), looks := false }, kinds := [], alts := [], laidByText := true, laidKinds := [.data, .data, .data], laidTests := true, laidLooks := .later }
def ActPrintsCardSaid : Prop := Claim7.holds Tryz.pinned (.plain (OpenSpec.ofChange actPrintsSpec)) actPrintsCard

/-- THE TIED CARD OF 'skeinlaw11.ActPicks'. -/
def actPicksCard : Claim7 := { stood := { row := actPicksRow, standIns := [], harness := (true, "7ee4eb5a51fb6decb6e026e1ca77450cd3fa9c6678d599a06fd17965fba11830"), looks := false }, kinds := [], alts := [], laidByText := true, laidKinds := [.data, .data, .data], laidTests := true, laidLooks := .later }
def ActPicksCardSaid : Prop := Claim7.holds Tryz.pinned (.plain (OpenSpec.ofChange actPicksSpec)) actPicksCard

/-- THE TIED CARD OF 'skeinlaw11.ActHops'. -/
def actHopsCard : Claim7 := { stood := { row := actHopsRow, standIns := [], harness := (true, "7ee4eb5a51fb6decb6e026e1ca77450cd3fa9c6678d599a06fd17965fba11830"), looks := false }, kinds := [], alts := [], laidByText := true, laidKinds := [.data, .data, .data], laidTests := true, laidLooks := .later }
def ActHopsCardSaid : Prop := Claim7.holds Tryz.pinned (.plain (OpenSpec.ofChange actHopsSpec)) actHopsCard

/-- THE TIED CARD OF 'skeinlaw11.ActClones'. -/
def actClonesCard : Claim7 := { stood := { row := actClonesRow, standIns := [], harness := (true, "7ee4eb5a51fb6decb6e026e1ca77450cd3fa9c6678d599a06fd17965fba11830"), looks := false }, kinds := [], alts := [], laidByText := true, laidKinds := [.data, .data, .data], laidTests := true, laidLooks := .later }
def ActClonesCardSaid : Prop := Claim7.holds Tryz.pinned (.plain (OpenSpec.ofChange actClonesSpec)) actClonesCard

/-- THE SECOND FORM's CARD OF 'skeinlaw11.ActChecks'. -/
def actChecksUptoCard : Claim7 := { stood := { row := actChecksUptoRow, standIns := [], harness := (true, "7ee4eb5a51fb6decb6e026e1ca77450cd3fa9c6678d599a06fd17965fba11830"), looks := false }, kinds := [], alts := [], laidByText := true, laidKinds := [.data, .data, .data], laidTests := true, laidLooks := .later }
def ActChecksUptoCardSaid : Prop := Claim7.holds Tryz.pinned (.plain (OpenSpec.upto actChecksSpec)) actChecksUptoCard

/-- THE SECOND FORM's CARD OF 'skeinlaw11.ActSteps'. -/
def actStepsUptoCard : Claim7 := { stood := { row := actStepsUptoRow, standIns := [], harness := (true, "7ee4eb5a51fb6decb6e026e1ca77450cd3fa9c6678d599a06fd17965fba11830"), looks := false }, kinds := [], alts := [], laidByText := true, laidKinds := [.data, .data, .data], laidTests := true, laidLooks := .later }
def ActStepsUptoCardSaid : Prop := Claim7.holds Tryz.pinned (.plain (OpenSpec.upto actStepsSpec)) actStepsUptoCard

/-- THE SECOND FORM's CARD OF 'skeinlaw11.ActPrints'. -/
def actPrintsUptoCard : Claim7 := { stood := { row := actPrintsUptoRow, standIns := [], harness := (true, "7ee4eb5a51fb6decb6e026e1ca77450cd3fa9c6678d599a06fd17965fba11830"), looks := false }, kinds := [], alts := [], laidByText := true, laidKinds := [.data, .data, .data], laidTests := true, laidLooks := .later }
def ActPrintsUptoCardSaid : Prop := Claim7.holds Tryz.pinned (.plain (OpenSpec.upto actPrintsSpec)) actPrintsUptoCard

/-- THE SECOND FORM's CARD OF 'skeinlaw11.ActPicks'. -/
def actPicksUptoCard : Claim7 := { stood := { row := actPicksUptoRow, standIns := [], harness := (true, "7ee4eb5a51fb6decb6e026e1ca77450cd3fa9c6678d599a06fd17965fba11830"), looks := false }, kinds := [], alts := [], laidByText := true, laidKinds := [.data, .data, .data], laidTests := true, laidLooks := .later }
def ActPicksUptoCardSaid : Prop := Claim7.holds Tryz.pinned (.plain (OpenSpec.upto actPicksSpec)) actPicksUptoCard

/-- THE SECOND FORM's CARD OF 'skeinlaw11.ActHops'. -/
def actHopsUptoCard : Claim7 := { stood := { row := actHopsUptoRow, standIns := [], harness := (true, "7ee4eb5a51fb6decb6e026e1ca77450cd3fa9c6678d599a06fd17965fba11830"), looks := false }, kinds := [], alts := [], laidByText := true, laidKinds := [.data, .data, .data], laidTests := true, laidLooks := .later }
def ActHopsUptoCardSaid : Prop := Claim7.holds Tryz.pinned (.plain (OpenSpec.upto actHopsSpec)) actHopsUptoCard

/-- THE SECOND FORM's CARD OF 'skeinlaw11.ActClones'. -/
def actClonesUptoCard : Claim7 := { stood := { row := actClonesUptoRow, standIns := [], harness := (true, "7ee4eb5a51fb6decb6e026e1ca77450cd3fa9c6678d599a06fd17965fba11830"), looks := false }, kinds := [], alts := [], laidByText := true, laidKinds := [.data, .data, .data], laidTests := true, laidLooks := .later }
def ActClonesUptoCardSaid : Prop := Claim7.holds Tryz.pinned (.plain (OpenSpec.upto actClonesSpec)) actClonesUptoCard
end Rows
end Go.Proofs.YtikbjckcnidimaaGreatDoor
