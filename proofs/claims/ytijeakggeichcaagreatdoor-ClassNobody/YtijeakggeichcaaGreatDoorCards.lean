/-
  DERIVED. GIVEN WITH THE SEED: THE CARDS: each row of YtijeakggeichcaaGreatDoorRows.lean that lists a variable, with what it lists TIED to the program's text (the seventh form; the later family's looks); each row that meets fmt, with fmt's text TOLD by the authors' own Lean function (tested against real Go, not proved from fmt's source: count such statements apart). THE CARD IS WHAT COUNTS. Prove the row's statement (the work); the ties are given (YtijeakggeichcaaGreatDoorTie.lean); close each card by the builder's one call (the guide's Derived/Test/ToyasCard.lean, 'card_holds'). Laid BY PROGRAM, IN A SANDBOX (cutbox-door.mjs). By AI agents, Wed Nov 11 2026. No macro, syntax, notation, axiom, sorry.
-/
import Derived.Test.YtijeakggeichcaaGreatDoorRows
import GoSem.ClaimSeven
namespace Go.Proofs.YtijeakggeichcaaGreatDoor
namespace Rows

/-- THE TIED CARD OF 'skeinlaw10.ClassOrder'. -/
def classOrderCard : Claim7 := { stood := { row := classOrderRow, standIns := [], harness := (true, "0754c43393acf5e179b344fc8ab481466bc875b0725ea9cc8aab3f479fba6a34"), looks := true }, kinds := [], alts := [], laidByText := true, laidKinds := [.data, .data, .data], laidTests := true, laidLooks := .later }
def ClassOrderCardSaid : Prop := Claim7.holds Tryz.pinned (.plain (OpenSpec.ofChange classOrderSpec)) classOrderCard

/-- THE TIED CARD OF 'skeinlaw10.ClassShadows'. -/
def classShadowsCard : Claim7 := { stood := { row := classShadowsRow, standIns := [], harness := (true, "0754c43393acf5e179b344fc8ab481466bc875b0725ea9cc8aab3f479fba6a34"), looks := true }, kinds := [], alts := [], laidByText := true, laidKinds := [.data, .data, .data], laidTests := true, laidLooks := .later }
def ClassShadowsCardSaid : Prop := Claim7.holds Tryz.pinned (.plain (OpenSpec.ofChange classShadowsSpec)) classShadowsCard

/-- THE TIED CARD OF 'skeinlaw10.ClassNobody'. -/
def classNobodyCard : Claim7 := { stood := { row := classNobodyRow, standIns := [], harness := (true, "0754c43393acf5e179b344fc8ab481466bc875b0725ea9cc8aab3f479fba6a34"), looks := true }, kinds := [], alts := [], laidByText := true, laidKinds := [.data, .data, .data], laidTests := true, laidLooks := .later }
def ClassNobodyCardSaid : Prop := Claim7.holds Tryz.pinned (.plain (OpenSpec.ofChange classNobodySpec)) classNobodyCard

/-- THE TIED CARD OF 'skeinlaw10.ClassAgain'. -/
def classAgainCard : Claim7 := { stood := { row := classAgainRow, standIns := [], harness := (true, "0754c43393acf5e179b344fc8ab481466bc875b0725ea9cc8aab3f479fba6a34"), looks := true }, kinds := [], alts := [], laidByText := true, laidKinds := [.data, .data, .data], laidTests := true, laidLooks := .later }
def ClassAgainCardSaid : Prop := Claim7.holds Tryz.pinned (.plain (OpenSpec.ofChange classAgainSpec)) classAgainCard

/-- THE SECOND FORM's CARD OF 'skeinlaw10.ClassOrder'. -/
def classOrderUptoCard : Claim7 := { stood := { row := classOrderUptoRow, standIns := [], harness := (true, "0754c43393acf5e179b344fc8ab481466bc875b0725ea9cc8aab3f479fba6a34"), looks := true }, kinds := [], alts := [], laidByText := true, laidKinds := [.data, .data, .data], laidTests := true, laidLooks := .later }
def ClassOrderUptoCardSaid : Prop := Claim7.holds Tryz.pinned (.plain (OpenSpec.upto classOrderSpec)) classOrderUptoCard

/-- THE SECOND FORM's CARD OF 'skeinlaw10.ClassShadows'. -/
def classShadowsUptoCard : Claim7 := { stood := { row := classShadowsUptoRow, standIns := [], harness := (true, "0754c43393acf5e179b344fc8ab481466bc875b0725ea9cc8aab3f479fba6a34"), looks := true }, kinds := [], alts := [], laidByText := true, laidKinds := [.data, .data, .data], laidTests := true, laidLooks := .later }
def ClassShadowsUptoCardSaid : Prop := Claim7.holds Tryz.pinned (.plain (OpenSpec.upto classShadowsSpec)) classShadowsUptoCard

/-- THE SECOND FORM's CARD OF 'skeinlaw10.ClassNobody'. -/
def classNobodyUptoCard : Claim7 := { stood := { row := classNobodyUptoRow, standIns := [], harness := (true, "0754c43393acf5e179b344fc8ab481466bc875b0725ea9cc8aab3f479fba6a34"), looks := true }, kinds := [], alts := [], laidByText := true, laidKinds := [.data, .data, .data], laidTests := true, laidLooks := .later }
def ClassNobodyUptoCardSaid : Prop := Claim7.holds Tryz.pinned (.plain (OpenSpec.upto classNobodySpec)) classNobodyUptoCard

/-- THE SECOND FORM's CARD OF 'skeinlaw10.ClassAgain'. -/
def classAgainUptoCard : Claim7 := { stood := { row := classAgainUptoRow, standIns := [], harness := (true, "0754c43393acf5e179b344fc8ab481466bc875b0725ea9cc8aab3f479fba6a34"), looks := true }, kinds := [], alts := [], laidByText := true, laidKinds := [.data, .data, .data], laidTests := true, laidLooks := .later }
def ClassAgainUptoCardSaid : Prop := Claim7.holds Tryz.pinned (.plain (OpenSpec.upto classAgainSpec)) classAgainUptoCard
end Rows
end Go.Proofs.YtijeakggeichcaaGreatDoor
