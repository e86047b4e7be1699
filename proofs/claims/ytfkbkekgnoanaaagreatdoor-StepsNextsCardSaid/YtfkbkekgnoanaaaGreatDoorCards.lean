/-
  DERIVED. GIVEN WITH THE SEED: THE CARDS: each row of YtfkbkekgnoanaaaGreatDoorRows.lean that lists a variable, with what it lists TIED to the program's text (the seventh form; the later family's looks); each row that meets fmt, with fmt's text TOLD by the authors' own Lean function (tested against real Go, not proved from fmt's source: count such statements apart). THE CARD IS WHAT COUNTS. Prove the row's statement (the work); the ties are given (YtfkbkekgnoanaaaGreatDoorTie.lean); close each card by the builder's one call (the guide's Derived/Test/ToyasCard.lean, 'card_holds'). Laid BY PROGRAM, IN A SANDBOX (cutbox-door.mjs). By AI agents, Wed Nov 11 2026. No macro, syntax, notation, axiom, sorry.
-/
import Derived.Test.YtfkbkekgnoanaaaGreatDoorRows
import GoSem.ClaimSeven
namespace Go.Proofs.YtfkbkekgnoanaaaGreatDoor
namespace Rows

/-- THE TIED CARD OF 'stackyardlaw12.StepsNexts'. -/
def stepsNextsCard : Claim7 := { stood := { row := stepsNextsRow, standIns := [], harness := (true, "e7447c56778fa02f488617d683cce2f3c83ac066ce53c2a0bb70aa1bce79397d"), looks := false }, kinds := [], alts := [], laidByText := true, laidKinds := [.data, .data, .data], laidTests := true, laidLooks := .later }
def StepsNextsCardSaid : Prop := Claim7.holds Tryz.pinned (.plain (OpenSpec.ofChange stepsNextsSpec)) stepsNextsCard

/-- THE TIED CARD OF 'stackyardlaw12.StepsRuns'. -/
def stepsRunsCard : Claim7 := { stood := { row := stepsRunsRow, standIns := [], harness := (true, "e7447c56778fa02f488617d683cce2f3c83ac066ce53c2a0bb70aa1bce79397d"), looks := false }, kinds := [], alts := [], laidByText := true, laidKinds := [.data, .data, .data], laidTests := true, laidLooks := .later }
def StepsRunsCardSaid : Prop := Claim7.holds Tryz.pinned (.plain (OpenSpec.ofChange stepsRunsSpec)) stepsRunsCard

/-- THE TIED CARD OF 'stackyardlaw12.StepsReaches'. -/
def stepsReachesCard : Claim7 := { stood := { row := stepsReachesRow, standIns := [], harness := (true, "e7447c56778fa02f488617d683cce2f3c83ac066ce53c2a0bb70aa1bce79397d"), looks := false }, kinds := [], alts := [], laidByText := true, laidKinds := [.data, .data, .data], laidTests := true, laidLooks := .later }
def StepsReachesCardSaid : Prop := Claim7.holds Tryz.pinned (.plain (OpenSpec.ofChange stepsReachesSpec)) stepsReachesCard

/-- THE SECOND FORM's CARD OF 'stackyardlaw12.StepsNexts'. -/
def stepsNextsUptoCard : Claim7 := { stood := { row := stepsNextsUptoRow, standIns := [], harness := (true, "e7447c56778fa02f488617d683cce2f3c83ac066ce53c2a0bb70aa1bce79397d"), looks := false }, kinds := [], alts := [], laidByText := true, laidKinds := [.data, .data, .data], laidTests := true, laidLooks := .later }
def StepsNextsUptoCardSaid : Prop := Claim7.holds Tryz.pinned (.plain (OpenSpec.upto stepsNextsSpec)) stepsNextsUptoCard

/-- THE SECOND FORM's CARD OF 'stackyardlaw12.StepsRuns'. -/
def stepsRunsUptoCard : Claim7 := { stood := { row := stepsRunsUptoRow, standIns := [], harness := (true, "e7447c56778fa02f488617d683cce2f3c83ac066ce53c2a0bb70aa1bce79397d"), looks := false }, kinds := [], alts := [], laidByText := true, laidKinds := [.data, .data, .data], laidTests := true, laidLooks := .later }
def StepsRunsUptoCardSaid : Prop := Claim7.holds Tryz.pinned (.plain (OpenSpec.upto stepsRunsSpec)) stepsRunsUptoCard

/-- THE SECOND FORM's CARD OF 'stackyardlaw12.StepsReaches'. -/
def stepsReachesUptoCard : Claim7 := { stood := { row := stepsReachesUptoRow, standIns := [], harness := (true, "e7447c56778fa02f488617d683cce2f3c83ac066ce53c2a0bb70aa1bce79397d"), looks := false }, kinds := [], alts := [], laidByText := true, laidKinds := [.data, .data, .data], laidTests := true, laidLooks := .later }
def StepsReachesUptoCardSaid : Prop := Claim7.holds Tryz.pinned (.plain (OpenSpec.upto stepsReachesSpec)) stepsReachesUptoCard
end Rows
end Go.Proofs.YtfkbkekgnoanaaaGreatDoor
