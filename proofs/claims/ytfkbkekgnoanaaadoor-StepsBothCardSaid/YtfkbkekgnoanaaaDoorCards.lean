/-
  DERIVED. GIVEN WITH THE SEED: THE CARDS: each row of YtfkbkekgnoanaaaDoorRows.lean that lists a variable, with what it lists TIED to the program's text (the seventh form; the later family's looks); each row that meets fmt, with fmt's text TOLD by the authors' own Lean function (tested against real Go, not proved from fmt's source: count such statements apart). THE CARD IS WHAT COUNTS. Prove the row's statement (the work); the ties are given (YtfkbkekgnoanaaaDoorTie.lean); close each card by the builder's one call (the guide's Derived/Test/ToyasCard.lean, 'card_holds'). Laid BY PROGRAM, IN A SANDBOX (cutbox-door.mjs). By AI agents, Wed Nov 11 2026. No macro, syntax, notation, axiom, sorry.
-/
import Derived.Test.YtfkbkekgnoanaaaDoorRows
import GoSem.ClaimSeven
namespace Go.Proofs.YtfkbkekgnoanaaaDoor
namespace Rows

/-- THE TIED CARD OF 'stackyardlaw12.StepsBoth'. -/
def stepsBothCard : Claim7 := { stood := { row := stepsBothRow, standIns := [], harness := (true, "6c803a357db4abf810be5d389ae981f16106680d667804d0cd0a93741bd4c70c"), looks := false }, kinds := [], alts := [], laidByText := true, laidKinds := [.data, .data, .data], laidTests := true, laidLooks := .later }
def StepsBothCardSaid : Prop := Claim7.holds Tryd.pinned (.plain (OpenSpec.ofChange stepsBothSpec)) stepsBothCard

/-- THE TIED CARD OF 'stackyardlaw12.StepsParts'. -/
def stepsPartsCard : Claim7 := { stood := { row := stepsPartsRow, standIns := [], harness := (true, "6c803a357db4abf810be5d389ae981f16106680d667804d0cd0a93741bd4c70c"), looks := false }, kinds := [], alts := [], laidByText := true, laidKinds := [.data, .data, .data], laidTests := true, laidLooks := .later }
def StepsPartsCardSaid : Prop := Claim7.holds Tryd.pinned (.plain (OpenSpec.ofChange stepsPartsSpec)) stepsPartsCard

/-- THE TIED CARD OF 'stackyardlaw12.StepsEnds'. -/
def stepsEndsCard : Claim7 := { stood := { row := stepsEndsRow, standIns := [], harness := (true, "6c803a357db4abf810be5d389ae981f16106680d667804d0cd0a93741bd4c70c"), looks := false }, kinds := [], alts := [], laidByText := true, laidKinds := [.data, .data, .data], laidTests := true, laidLooks := .later }
def StepsEndsCardSaid : Prop := Claim7.holds Tryd.pinned (.plain (OpenSpec.ofChange stepsEndsSpec)) stepsEndsCard

/-- THE SECOND FORM's CARD OF 'stackyardlaw12.StepsBoth'. -/
def stepsBothUptoCard : Claim7 := { stood := { row := stepsBothUptoRow, standIns := [], harness := (true, "6c803a357db4abf810be5d389ae981f16106680d667804d0cd0a93741bd4c70c"), looks := false }, kinds := [], alts := [], laidByText := true, laidKinds := [.data, .data, .data], laidTests := true, laidLooks := .later }
def StepsBothUptoCardSaid : Prop := Claim7.holds Tryd.pinned (.plain (OpenSpec.upto stepsBothSpec)) stepsBothUptoCard

/-- THE SECOND FORM's CARD OF 'stackyardlaw12.StepsParts'. -/
def stepsPartsUptoCard : Claim7 := { stood := { row := stepsPartsUptoRow, standIns := [], harness := (true, "6c803a357db4abf810be5d389ae981f16106680d667804d0cd0a93741bd4c70c"), looks := false }, kinds := [], alts := [], laidByText := true, laidKinds := [.data, .data, .data], laidTests := true, laidLooks := .later }
def StepsPartsUptoCardSaid : Prop := Claim7.holds Tryd.pinned (.plain (OpenSpec.upto stepsPartsSpec)) stepsPartsUptoCard

/-- THE SECOND FORM's CARD OF 'stackyardlaw12.StepsEnds'. -/
def stepsEndsUptoCard : Claim7 := { stood := { row := stepsEndsUptoRow, standIns := [], harness := (true, "6c803a357db4abf810be5d389ae981f16106680d667804d0cd0a93741bd4c70c"), looks := false }, kinds := [], alts := [], laidByText := true, laidKinds := [.data, .data, .data], laidTests := true, laidLooks := .later }
def StepsEndsUptoCardSaid : Prop := Claim7.holds Tryd.pinned (.plain (OpenSpec.upto stepsEndsSpec)) stepsEndsUptoCard
end Rows
end Go.Proofs.YtfkbkekgnoanaaaDoor
