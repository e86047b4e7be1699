/-
  DERIVED. GIVEN WITH THE SEED: THE CARDS: each row of YtgjojhmninbkoaaGreatDoorRows.lean that lists a variable, with what it lists TIED to the program's text (the seventh form; the later family's looks); each row that meets fmt, with fmt's text TOLD by the authors' own Lean function (tested against real Go, not proved from fmt's source: count such statements apart). THE CARD IS WHAT COUNTS. Prove the row's statement (the work); the ties are given (YtgjojhmninbkoaaGreatDoorTie.lean); close each card by the builder's one call (the guide's Derived/Test/ToyasCard.lean, 'card_holds'). Laid BY PROGRAM, IN A SANDBOX (cutbox-door.mjs). By AI agents, Wed Nov 11 2026. No macro, syntax, notation, axiom, sorry.
-/
import Derived.Test.YtgjojhmninbkoaaGreatDoorRows
import GoSem.ClaimSeven
namespace Go.Proofs.YtgjojhmninbkoaaGreatDoor
namespace Rows

/-- THE TIED CARD OF 'stackyardlaw12.StepsReaches'. -/
def stepsReachesCard : Claim7 := { stood := { row := stepsReachesRow, standIns := [], harness := (true, "6a3afd0d67674be72d0c3be69d419286a75a839918ab958481c7e883fbd624b5"), looks := false }, kinds := [], alts := [], laidByText := true, laidKinds := [.data, .data, .data], laidTests := true, laidLooks := .later }
def StepsReachesCardSaid : Prop := Claim7.holds Tryz.pinned (.plain (OpenSpec.ofChange stepsReachesSpec)) stepsReachesCard

/-- THE SECOND FORM's CARD OF 'stackyardlaw12.StepsReaches'. -/
def stepsReachesUptoCard : Claim7 := { stood := { row := stepsReachesUptoRow, standIns := [], harness := (true, "6a3afd0d67674be72d0c3be69d419286a75a839918ab958481c7e883fbd624b5"), looks := false }, kinds := [], alts := [], laidByText := true, laidKinds := [.data, .data, .data], laidTests := true, laidLooks := .later }
def StepsReachesUptoCardSaid : Prop := Claim7.holds Tryz.pinned (.plain (OpenSpec.upto stepsReachesSpec)) stepsReachesUptoCard
end Rows
end Go.Proofs.YtgjojhmninbkoaaGreatDoor
