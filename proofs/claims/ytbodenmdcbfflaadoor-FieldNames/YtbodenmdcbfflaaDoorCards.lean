/-
  DERIVED. GIVEN WITH THE SEED: THE CARDS: each row of YtbodenmdcbfflaaDoorRows.lean that lists a variable, with what it lists TIED to the program's text (the seventh form; the later family's looks); each row that meets fmt, with fmt's text TOLD by the authors' own Lean function (tested against real Go, not proved from fmt's source: count such statements apart). THE CARD IS WHAT COUNTS. Prove the row's statement (the work); the ties are given (YtbodenmdcbfflaaDoorTie.lean); close each card by the builder's one call (the guide's Derived/Test/ToyasCard.lean, 'card_holds'). Laid BY PROGRAM, IN A SANDBOX (cutbox-door.mjs). By AI agents, Wed Nov 11 2026. No macro, syntax, notation, axiom, sorry.
-/
import Derived.Test.YtbodenmdcbfflaaDoorRows
import GoSem.ClaimSeven
namespace Go.Proofs.YtbodenmdcbfflaaDoor
namespace Rows

/-- THE TIED CARD OF 'skeinlaw08.FieldNames'. -/
def fieldNamesCard : Claim7 := { stood := { row := fieldNamesRow, standIns := [], harness := (true, "d7343033de8f0564092415c2cb6359a638459c21d8f974e671c0072ee9ba1904"), looks := false }, kinds := [], alts := [], laidByText := true, laidKinds := [.data, .data, .data], laidTests := true, laidLooks := .later }
def FieldNamesCardSaid : Prop := Claim7.holds Tryd.pinned (.plain (OpenSpec.ofChange fieldNamesSpec)) fieldNamesCard

/-- THE TIED CARD OF 'skeinlaw08.FieldBack'. -/
def fieldBackCard : Claim7 := { stood := { row := fieldBackRow, standIns := [], harness := (true, "d7343033de8f0564092415c2cb6359a638459c21d8f974e671c0072ee9ba1904"), looks := false }, kinds := [], alts := [], laidByText := true, laidKinds := [.data, .data, .data], laidTests := true, laidLooks := .later }
def FieldBackCardSaid : Prop := Claim7.holds Tryd.pinned (.plain (OpenSpec.ofChange fieldBackSpec)) fieldBackCard

/-- THE TIED CARD OF 'skeinlaw08.FieldNeeds'. -/
def fieldNeedsCard : Claim7 := { stood := { row := fieldNeedsRow, standIns := [], harness := (true, "d7343033de8f0564092415c2cb6359a638459c21d8f974e671c0072ee9ba1904"), looks := false }, kinds := [], alts := [], laidByText := true, laidKinds := [.data, .data, .data], laidTests := true, laidLooks := .later }
def FieldNeedsCardSaid : Prop := Claim7.holds Tryd.pinned (.plain (OpenSpec.ofChange fieldNeedsSpec)) fieldNeedsCard

/-- THE TIED CARD OF 'skeinlaw08.FieldApart'. -/
def fieldApartCard : Claim7 := { stood := { row := fieldApartRow, standIns := [], harness := (true, "d7343033de8f0564092415c2cb6359a638459c21d8f974e671c0072ee9ba1904"), looks := false }, kinds := [], alts := [], laidByText := true, laidKinds := [.data, .data, .data], laidTests := true, laidLooks := .later }
def FieldApartCardSaid : Prop := Claim7.holds Tryd.pinned (.plain (OpenSpec.ofChange fieldApartSpec)) fieldApartCard

/-- THE SECOND FORM's CARD OF 'skeinlaw08.FieldNames'. -/
def fieldNamesUptoCard : Claim7 := { stood := { row := fieldNamesUptoRow, standIns := [], harness := (true, "d7343033de8f0564092415c2cb6359a638459c21d8f974e671c0072ee9ba1904"), looks := false }, kinds := [], alts := [], laidByText := true, laidKinds := [.data, .data, .data], laidTests := true, laidLooks := .later }
def FieldNamesUptoCardSaid : Prop := Claim7.holds Tryd.pinned (.plain (OpenSpec.upto fieldNamesSpec)) fieldNamesUptoCard

/-- THE SECOND FORM's CARD OF 'skeinlaw08.FieldBack'. -/
def fieldBackUptoCard : Claim7 := { stood := { row := fieldBackUptoRow, standIns := [], harness := (true, "d7343033de8f0564092415c2cb6359a638459c21d8f974e671c0072ee9ba1904"), looks := false }, kinds := [], alts := [], laidByText := true, laidKinds := [.data, .data, .data], laidTests := true, laidLooks := .later }
def FieldBackUptoCardSaid : Prop := Claim7.holds Tryd.pinned (.plain (OpenSpec.upto fieldBackSpec)) fieldBackUptoCard

/-- THE SECOND FORM's CARD OF 'skeinlaw08.FieldNeeds'. -/
def fieldNeedsUptoCard : Claim7 := { stood := { row := fieldNeedsUptoRow, standIns := [], harness := (true, "d7343033de8f0564092415c2cb6359a638459c21d8f974e671c0072ee9ba1904"), looks := false }, kinds := [], alts := [], laidByText := true, laidKinds := [.data, .data, .data], laidTests := true, laidLooks := .later }
def FieldNeedsUptoCardSaid : Prop := Claim7.holds Tryd.pinned (.plain (OpenSpec.upto fieldNeedsSpec)) fieldNeedsUptoCard

/-- THE SECOND FORM's CARD OF 'skeinlaw08.FieldApart'. -/
def fieldApartUptoCard : Claim7 := { stood := { row := fieldApartUptoRow, standIns := [], harness := (true, "d7343033de8f0564092415c2cb6359a638459c21d8f974e671c0072ee9ba1904"), looks := false }, kinds := [], alts := [], laidByText := true, laidKinds := [.data, .data, .data], laidTests := true, laidLooks := .later }
def FieldApartUptoCardSaid : Prop := Claim7.holds Tryd.pinned (.plain (OpenSpec.upto fieldApartSpec)) fieldApartUptoCard
end Rows
end Go.Proofs.YtbodenmdcbfflaaDoor
