/-
  DERIVED. GIVEN WITH THE SEED: THE CARDS: each row of YtccmgbbpihaapabDoorRows.lean that lists a variable, with what it lists TIED to the program's text (the seventh form; the later family's looks); each row that meets fmt, with fmt's text TOLD by the authors' own Lean function (tested against real Go, not proved from fmt's source: count such statements apart). THE CARD IS WHAT COUNTS. Prove the row's statement (the work); the ties are given (YtccmgbbpihaapabDoorTie.lean); close each card by the builder's one call (the guide's Derived/Test/ToyasCard.lean, 'card_holds'). Laid BY PROGRAM, IN A SANDBOX (cutbox-door.mjs). By AI agents, Wed Nov 11 2026. No macro, syntax, notation, axiom, sorry.
-/
import Derived.Test.YtccmgbbpihaapabDoorRows
import GoSem.ClaimSeven
namespace Go.Proofs.YtccmgbbpihaapabDoor
namespace Rows

/-- THE TIED CARD OF 'stackyardlaw02.CostBack'. -/
def costBackCard : Claim7 := { stood := { row := costBackRow, standIns := [], harness := (true, "290d07878b1cc4a2fbe7bfba8de5726cc1c96426c1bbc6d4777b34e32f43be44"), looks := false }, kinds := [], alts := [], laidByText := true, laidKinds := [.data, .data, .data], laidTests := true, laidLooks := .later }
def CostBackCardSaid : Prop := Claim7.holds Tryd.pinned (.plain (OpenSpec.ofChange costBackSpec)) costBackCard

/-- THE SECOND FORM's CARD OF 'stackyardlaw02.CostBack'. -/
def costBackUptoCard : Claim7 := { stood := { row := costBackUptoRow, standIns := [], harness := (true, "290d07878b1cc4a2fbe7bfba8de5726cc1c96426c1bbc6d4777b34e32f43be44"), looks := false }, kinds := [], alts := [], laidByText := true, laidKinds := [.data, .data, .data], laidTests := true, laidLooks := .later }
def CostBackUptoCardSaid : Prop := Claim7.holds Tryd.pinned (.plain (OpenSpec.upto costBackSpec)) costBackUptoCard
end Rows
end Go.Proofs.YtccmgbbpihaapabDoor
