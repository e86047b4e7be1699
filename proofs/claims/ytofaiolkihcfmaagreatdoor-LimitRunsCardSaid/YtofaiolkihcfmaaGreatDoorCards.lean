/-
  DERIVED. GIVEN WITH THE SEED: THE CARDS: each row of YtofaiolkihcfmaaGreatDoorRows.lean that lists a variable, with what it lists TIED to the program's text (the seventh form; the later family's looks); each row that meets fmt, with fmt's text TOLD by the authors' own Lean function (tested against real Go, not proved from fmt's source: count such statements apart). THE CARD IS WHAT COUNTS. Prove the row's statement (the work); the ties are given (YtofaiolkihcfmaaGreatDoorTie.lean); close each card by the builder's one call (the guide's Derived/Test/ToyasCard.lean, 'card_holds'). Laid BY PROGRAM, IN A SANDBOX (cutbox-door.mjs). By AI agents, Wed Nov 11 2026. No macro, syntax, notation, axiom, sorry.
-/
import Derived.Test.YtofaiolkihcfmaaGreatDoorRows
import GoSem.ClaimSeven
namespace Go.Proofs.YtofaiolkihcfmaaGreatDoor
namespace Rows

/-- THE TIED CARD OF 'stackyardlaw13.LimitRuns'. -/
def limitRunsCard : Claim7 := { stood := { row := limitRunsRow, standIns := [], harness := (true, "ae9f197446c69719f99223f38a4069357cf91e105ea95c06cb54691512d0c4a5"), looks := false }, kinds := [], alts := [], laidByText := true, laidKinds := [.data, .data, .data], laidTests := true, laidLooks := .later }
def LimitRunsCardSaid : Prop := Claim7.holds Tryz.pinned (.plain (OpenSpec.ofChange limitRunsSpec)) limitRunsCard

/-- THE SECOND FORM's CARD OF 'stackyardlaw13.LimitRuns'. -/
def limitRunsUptoCard : Claim7 := { stood := { row := limitRunsUptoRow, standIns := [], harness := (true, "ae9f197446c69719f99223f38a4069357cf91e105ea95c06cb54691512d0c4a5"), looks := false }, kinds := [], alts := [], laidByText := true, laidKinds := [.data, .data, .data], laidTests := true, laidLooks := .later }
def LimitRunsUptoCardSaid : Prop := Claim7.holds Tryz.pinned (.plain (OpenSpec.upto limitRunsSpec)) limitRunsUptoCard
end Rows
end Go.Proofs.YtofaiolkihcfmaaGreatDoor
