/-
  DERIVED. GIVEN WITH THE SEED: THE CARDS: each row of YtkdonapgonegkaaGreatDoorRows.lean that lists a variable, with what it lists TIED to the program's text (the seventh form; the later family's looks); each row that meets fmt, with fmt's text TOLD by the authors' own Lean function (tested against real Go, not proved from fmt's source: count such statements apart). THE CARD IS WHAT COUNTS. Prove the row's statement (the work); the ties are given (YtkdonapgonegkaaGreatDoorTie.lean); close each card by the builder's one call (the guide's Derived/Test/ToyasCard.lean, 'card_holds'). Laid BY PROGRAM, IN A SANDBOX (cutbox-door.mjs). By AI agents, Wed Nov 11 2026. No macro, syntax, notation, axiom, sorry.
-/
import Derived.Test.YtkdonapgonegkaaGreatDoorRows
import GoSem.ClaimSeven
namespace Go.Proofs.YtkdonapgonegkaaGreatDoor
namespace Rows

/-- THE TIED CARD OF 'ratchetlaw02.GraphSmaller'. -/
def graphSmallerCard : Claim7 := { stood := { row := graphSmallerRow, standIns := [], harness := (true, "1f9e211de13a5cf93a8fea84050dec6fd4a406255080c6363896b3d62a9e7c13"), looks := false }, kinds := [], alts := [], laidByText := true, laidKinds := [.data, .data, .data, .data], laidTests := true, laidLooks := .later }
def GraphSmallerCardSaid : Prop := Claim7.holds Tryz.pinned (.plain (OpenSpec.ofChange graphSmallerSpec)) graphSmallerCard

/-- THE TIED CARD OF 'ratchetlaw02.GraphStrings'. -/
def graphStringsCard : Claim7 := { stood := { row := graphStringsRow, standIns := [], harness := (true, "1f9e211de13a5cf93a8fea84050dec6fd4a406255080c6363896b3d62a9e7c13"), looks := false }, kinds := [], alts := [], laidByText := true, laidKinds := [.data, .data, .data, .data], laidTests := true, laidLooks := .later }
def GraphStringsCardSaid : Prop := Claim7.holds Tryz.pinned (.plain (OpenSpec.ofChange graphStringsSpec)) graphStringsCard

/-- THE TIED CARD OF 'ratchetlaw02.GraphSame'. -/
def graphSameCard : Claim7 := { stood := { row := graphSameRow, standIns := [], harness := (true, "1f9e211de13a5cf93a8fea84050dec6fd4a406255080c6363896b3d62a9e7c13"), looks := false }, kinds := [], alts := [], laidByText := true, laidKinds := [.data, .data, .data, .data], laidTests := true, laidLooks := .later }
def GraphSameCardSaid : Prop := Claim7.holds Tryz.pinned (.plain (OpenSpec.ofChange graphSameSpec)) graphSameCard

/-- THE SECOND FORM's CARD OF 'ratchetlaw02.GraphSmaller'. -/
def graphSmallerUptoCard : Claim7 := { stood := { row := graphSmallerUptoRow, standIns := [], harness := (true, "1f9e211de13a5cf93a8fea84050dec6fd4a406255080c6363896b3d62a9e7c13"), looks := false }, kinds := [], alts := [], laidByText := true, laidKinds := [.data, .data, .data, .data], laidTests := true, laidLooks := .later }
def GraphSmallerUptoCardSaid : Prop := Claim7.holds Tryz.pinned (.plain (OpenSpec.upto graphSmallerSpec)) graphSmallerUptoCard

/-- THE SECOND FORM's CARD OF 'ratchetlaw02.GraphStrings'. -/
def graphStringsUptoCard : Claim7 := { stood := { row := graphStringsUptoRow, standIns := [], harness := (true, "1f9e211de13a5cf93a8fea84050dec6fd4a406255080c6363896b3d62a9e7c13"), looks := false }, kinds := [], alts := [], laidByText := true, laidKinds := [.data, .data, .data, .data], laidTests := true, laidLooks := .later }
def GraphStringsUptoCardSaid : Prop := Claim7.holds Tryz.pinned (.plain (OpenSpec.upto graphStringsSpec)) graphStringsUptoCard

/-- THE SECOND FORM's CARD OF 'ratchetlaw02.GraphSame'. -/
def graphSameUptoCard : Claim7 := { stood := { row := graphSameUptoRow, standIns := [], harness := (true, "1f9e211de13a5cf93a8fea84050dec6fd4a406255080c6363896b3d62a9e7c13"), looks := false }, kinds := [], alts := [], laidByText := true, laidKinds := [.data, .data, .data, .data], laidTests := true, laidLooks := .later }
def GraphSameUptoCardSaid : Prop := Claim7.holds Tryz.pinned (.plain (OpenSpec.upto graphSameSpec)) graphSameUptoCard
end Rows
end Go.Proofs.YtkdonapgonegkaaGreatDoor
