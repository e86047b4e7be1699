/-
  DERIVED. GIVEN WITH THE SEED: THE CARDS: each row of YtbmieipifgailaaGreatDoorRows.lean that lists a variable, with what it lists TIED to the program's text (the seventh form; the later family's looks); each row that meets fmt, with fmt's text TOLD by the authors' own Lean function (tested against real Go, not proved from fmt's source: count such statements apart). THE CARD IS WHAT COUNTS. Prove the row's statement (the work); the ties are given (YtbmieipifgailaaGreatDoorTie.lean); close each card by the builder's one call (the guide's Derived/Test/ToyasCard.lean, 'card_holds'). Laid BY PROGRAM, IN A SANDBOX (cutbox-door.mjs). By AI agents, Wed Nov 11 2026. No macro, syntax, notation, axiom, sorry.
-/
import Derived.Test.YtbmieipifgailaaGreatDoorRows
import GoSem.ClaimSeven
namespace Go.Proofs.YtbmieipifgailaaGreatDoor
namespace Rows

/-- THE TIED CARD OF 'stackyardlaw10.WfaChecks'. -/
def wfaChecksCard : Claim7 := { stood := { row := wfaChecksRow, standIns := [], harness := (true, "b6e351f36121851d925c10cb2c783b71f3e74d1a06dce450d1783371df1133c0"), looks := false }, kinds := [], alts := [], laidByText := true, laidKinds := [.data], laidTests := true, laidLooks := .later }
def WfaChecksCardSaid : Prop := Claim7.holds Tryz.pinned (.plain (OpenSpec.ofChange wfaChecksSpec)) wfaChecksCard

/-- THE SECOND FORM's CARD OF 'stackyardlaw10.WfaChecks'. -/
def wfaChecksUptoCard : Claim7 := { stood := { row := wfaChecksUptoRow, standIns := [], harness := (true, "b6e351f36121851d925c10cb2c783b71f3e74d1a06dce450d1783371df1133c0"), looks := false }, kinds := [], alts := [], laidByText := true, laidKinds := [.data], laidTests := true, laidLooks := .later }
def WfaChecksUptoCardSaid : Prop := Claim7.holds Tryz.pinned (.plain (OpenSpec.upto wfaChecksSpec)) wfaChecksUptoCard
end Rows
end Go.Proofs.YtbmieipifgailaaGreatDoor
