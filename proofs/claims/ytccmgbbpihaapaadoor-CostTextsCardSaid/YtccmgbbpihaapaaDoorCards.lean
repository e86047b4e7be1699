/-
  DERIVED. GIVEN WITH THE SEED: THE CARDS: each row of YtccmgbbpihaapaaDoorRows.lean that lists a variable, with what it lists TIED to the program's text (the seventh form; the later family's looks); each row that meets fmt, with fmt's text TOLD by the authors' own Lean function (tested against real Go, not proved from fmt's source: count such statements apart). THE CARD IS WHAT COUNTS. Prove the row's statement (the work); the ties are given (YtccmgbbpihaapaaDoorTie.lean); close each card by the builder's one call (the guide's Derived/Test/ToyasCard.lean, 'card_holds'). Laid BY PROGRAM, IN A SANDBOX (cutbox-door.mjs). By AI agents, Wed Nov 11 2026. No macro, syntax, notation, axiom, sorry.
-/
import Derived.Test.YtccmgbbpihaapaaDoorRows
import GoSem.ClaimSeven
namespace Go.Proofs.YtccmgbbpihaapaaDoor
namespace Rows

/-- THE TIED CARD OF 'stackyardlaw01.BitsSets'. -/
def bitsSetsCard : Claim7 := { stood := { row := bitsSetsRow, standIns := [], harness := (true, "9c08cb625083be5458051ff0051952598c272a992d0f359c12da6ec73ec250fd"), looks := false }, kinds := [], alts := [], laidByText := true, laidKinds := [.data, .data, .data], laidTests := true, laidLooks := .later }
def BitsSetsCardSaid : Prop := Claim7.holds Tryd.pinned (.plain (OpenSpec.ofChange bitsSetsSpec)) bitsSetsCard

/-- THE TIED CARD OF 'stackyardlaw01.BitsAsks'. -/
def bitsAsksCard : Claim7 := { stood := { row := bitsAsksRow, standIns := [], harness := (true, "9c08cb625083be5458051ff0051952598c272a992d0f359c12da6ec73ec250fd"), looks := false }, kinds := [], alts := [], laidByText := true, laidKinds := [.data, .data, .data], laidTests := true, laidLooks := .later }
def BitsAsksCardSaid : Prop := Claim7.holds Tryd.pinned (.plain (OpenSpec.ofChange bitsAsksSpec)) bitsAsksCard

/-- THE TIED CARD OF 'stackyardlaw01.BitsMoves'. -/
def bitsMovesCard : Claim7 := { stood := { row := bitsMovesRow, standIns := [], harness := (true, "9c08cb625083be5458051ff0051952598c272a992d0f359c12da6ec73ec250fd"), looks := false }, kinds := [], alts := [], laidByText := true, laidKinds := [.data, .data, .data], laidTests := true, laidLooks := .later }
def BitsMovesCardSaid : Prop := Claim7.holds Tryd.pinned (.plain (OpenSpec.ofChange bitsMovesSpec)) bitsMovesCard

/-- THE TIED CARD OF 'stackyardlaw01.BitsTexts'. -/
def bitsTextsCard : Claim7 := { stood := { row := bitsTextsRow, standIns := [], harness := (true, "9c08cb625083be5458051ff0051952598c272a992d0f359c12da6ec73ec250fd"), looks := false }, kinds := [], alts := [], laidByText := true, laidKinds := [.data, .data, .data], laidTests := true, laidLooks := .later }
def BitsTextsCardSaid : Prop := Claim7.holds Tryd.pinned (.plain (OpenSpec.ofChange bitsTextsSpec)) bitsTextsCard

/-- THE TIED CARD OF 'stackyardlaw01.BitsBack'. -/
def bitsBackCard : Claim7 := { stood := { row := bitsBackRow, standIns := [], harness := (true, "9c08cb625083be5458051ff0051952598c272a992d0f359c12da6ec73ec250fd"), looks := false }, kinds := [], alts := [], laidByText := true, laidKinds := [.data, .data, .data], laidTests := true, laidLooks := .later }
def BitsBackCardSaid : Prop := Claim7.holds Tryd.pinned (.plain (OpenSpec.ofChange bitsBackSpec)) bitsBackCard

/-- THE TIED CARD OF 'stackyardlaw01.BitsThere'. -/
def bitsThereCard : Claim7 := { stood := { row := bitsThereRow, standIns := [], harness := (true, "9c08cb625083be5458051ff0051952598c272a992d0f359c12da6ec73ec250fd"), looks := false }, kinds := [], alts := [], laidByText := true, laidKinds := [.data, .data, .data], laidTests := true, laidLooks := .later }
def BitsThereCardSaid : Prop := Claim7.holds Tryd.pinned (.plain (OpenSpec.ofChange bitsThereSpec)) bitsThereCard

/-- THE TIED CARD OF 'stackyardlaw02.CostLeasts'. -/
def costLeastsCard : Claim7 := { stood := { row := costLeastsRow, standIns := [], harness := (true, "9c08cb625083be5458051ff0051952598c272a992d0f359c12da6ec73ec250fd"), looks := false }, kinds := [], alts := [], laidByText := true, laidKinds := [.data, .data, .data], laidTests := true, laidLooks := .later }
def CostLeastsCardSaid : Prop := Claim7.holds Tryd.pinned (.plain (OpenSpec.ofChange costLeastsSpec)) costLeastsCard

/-- THE TIED CARD OF 'stackyardlaw02.CostChecks'. -/
def costChecksCard : Claim7 := { stood := { row := costChecksRow, standIns := [], harness := (true, "9c08cb625083be5458051ff0051952598c272a992d0f359c12da6ec73ec250fd"), looks := false }, kinds := [], alts := [], laidByText := true, laidKinds := [.data, .data, .data], laidTests := true, laidLooks := .later }
def CostChecksCardSaid : Prop := Claim7.holds Tryd.pinned (.plain (OpenSpec.ofChange costChecksSpec)) costChecksCard

/-- THE TIED CARD OF 'stackyardlaw02.CostTexts'. -/
def costTextsCard : Claim7 := { stood := { row := costTextsRow, standIns := [], harness := (true, "9c08cb625083be5458051ff0051952598c272a992d0f359c12da6ec73ec250fd"), looks := false }, kinds := [], alts := [], laidByText := true, laidKinds := [.data, .data, .data], laidTests := true, laidLooks := .later }
def CostTextsCardSaid : Prop := Claim7.holds Tryd.pinned (.plain (OpenSpec.ofChange costTextsSpec)) costTextsCard

/-- THE TIED CARD OF 'stackyardlaw02.CostSemiring'. -/
def costSemiringCard : Claim7 := { stood := { row := costSemiringRow, standIns := [], harness := (true, "9c08cb625083be5458051ff0051952598c272a992d0f359c12da6ec73ec250fd"), looks := false }, kinds := [], alts := [], laidByText := true, laidKinds := [.data, .data, .data], laidTests := true, laidLooks := .later }
def CostSemiringCardSaid : Prop := Claim7.holds Tryd.pinned (.plain (OpenSpec.ofChange costSemiringSpec)) costSemiringCard

/-- THE TIED CARD OF 'stackyardlaw02.CostOrder'. -/
def costOrderCard : Claim7 := { stood := { row := costOrderRow, standIns := [], harness := (true, "9c08cb625083be5458051ff0051952598c272a992d0f359c12da6ec73ec250fd"), looks := false }, kinds := [], alts := [], laidByText := true, laidKinds := [.data, .data, .data], laidTests := true, laidLooks := .later }
def CostOrderCardSaid : Prop := Claim7.holds Tryd.pinned (.plain (OpenSpec.ofChange costOrderSpec)) costOrderCard

/-- THE TIED CARD OF 'stackyardlaw02.CostRow'. -/
def costRowCard : Claim7 := { stood := { row := costRowRow, standIns := [], harness := (true, "9c08cb625083be5458051ff0051952598c272a992d0f359c12da6ec73ec250fd"), looks := false }, kinds := [], alts := [], laidByText := true, laidKinds := [.data, .data, .data], laidTests := true, laidLooks := .later }
def CostRowCardSaid : Prop := Claim7.holds Tryd.pinned (.plain (OpenSpec.ofChange costRowSpec)) costRowCard

/-- THE SECOND FORM's CARD OF 'stackyardlaw01.BitsSets'. -/
def bitsSetsUptoCard : Claim7 := { stood := { row := bitsSetsUptoRow, standIns := [], harness := (true, "9c08cb625083be5458051ff0051952598c272a992d0f359c12da6ec73ec250fd"), looks := false }, kinds := [], alts := [], laidByText := true, laidKinds := [.data, .data, .data], laidTests := true, laidLooks := .later }
def BitsSetsUptoCardSaid : Prop := Claim7.holds Tryd.pinned (.plain (OpenSpec.upto bitsSetsSpec)) bitsSetsUptoCard

/-- THE SECOND FORM's CARD OF 'stackyardlaw01.BitsAsks'. -/
def bitsAsksUptoCard : Claim7 := { stood := { row := bitsAsksUptoRow, standIns := [], harness := (true, "9c08cb625083be5458051ff0051952598c272a992d0f359c12da6ec73ec250fd"), looks := false }, kinds := [], alts := [], laidByText := true, laidKinds := [.data, .data, .data], laidTests := true, laidLooks := .later }
def BitsAsksUptoCardSaid : Prop := Claim7.holds Tryd.pinned (.plain (OpenSpec.upto bitsAsksSpec)) bitsAsksUptoCard

/-- THE SECOND FORM's CARD OF 'stackyardlaw01.BitsMoves'. -/
def bitsMovesUptoCard : Claim7 := { stood := { row := bitsMovesUptoRow, standIns := [], harness := (true, "9c08cb625083be5458051ff0051952598c272a992d0f359c12da6ec73ec250fd"), looks := false }, kinds := [], alts := [], laidByText := true, laidKinds := [.data, .data, .data], laidTests := true, laidLooks := .later }
def BitsMovesUptoCardSaid : Prop := Claim7.holds Tryd.pinned (.plain (OpenSpec.upto bitsMovesSpec)) bitsMovesUptoCard

/-- THE SECOND FORM's CARD OF 'stackyardlaw01.BitsTexts'. -/
def bitsTextsUptoCard : Claim7 := { stood := { row := bitsTextsUptoRow, standIns := [], harness := (true, "9c08cb625083be5458051ff0051952598c272a992d0f359c12da6ec73ec250fd"), looks := false }, kinds := [], alts := [], laidByText := true, laidKinds := [.data, .data, .data], laidTests := true, laidLooks := .later }
def BitsTextsUptoCardSaid : Prop := Claim7.holds Tryd.pinned (.plain (OpenSpec.upto bitsTextsSpec)) bitsTextsUptoCard

/-- THE SECOND FORM's CARD OF 'stackyardlaw01.BitsBack'. -/
def bitsBackUptoCard : Claim7 := { stood := { row := bitsBackUptoRow, standIns := [], harness := (true, "9c08cb625083be5458051ff0051952598c272a992d0f359c12da6ec73ec250fd"), looks := false }, kinds := [], alts := [], laidByText := true, laidKinds := [.data, .data, .data], laidTests := true, laidLooks := .later }
def BitsBackUptoCardSaid : Prop := Claim7.holds Tryd.pinned (.plain (OpenSpec.upto bitsBackSpec)) bitsBackUptoCard

/-- THE SECOND FORM's CARD OF 'stackyardlaw01.BitsThere'. -/
def bitsThereUptoCard : Claim7 := { stood := { row := bitsThereUptoRow, standIns := [], harness := (true, "9c08cb625083be5458051ff0051952598c272a992d0f359c12da6ec73ec250fd"), looks := false }, kinds := [], alts := [], laidByText := true, laidKinds := [.data, .data, .data], laidTests := true, laidLooks := .later }
def BitsThereUptoCardSaid : Prop := Claim7.holds Tryd.pinned (.plain (OpenSpec.upto bitsThereSpec)) bitsThereUptoCard

/-- THE SECOND FORM's CARD OF 'stackyardlaw02.CostLeasts'. -/
def costLeastsUptoCard : Claim7 := { stood := { row := costLeastsUptoRow, standIns := [], harness := (true, "9c08cb625083be5458051ff0051952598c272a992d0f359c12da6ec73ec250fd"), looks := false }, kinds := [], alts := [], laidByText := true, laidKinds := [.data, .data, .data], laidTests := true, laidLooks := .later }
def CostLeastsUptoCardSaid : Prop := Claim7.holds Tryd.pinned (.plain (OpenSpec.upto costLeastsSpec)) costLeastsUptoCard

/-- THE SECOND FORM's CARD OF 'stackyardlaw02.CostChecks'. -/
def costChecksUptoCard : Claim7 := { stood := { row := costChecksUptoRow, standIns := [], harness := (true, "9c08cb625083be5458051ff0051952598c272a992d0f359c12da6ec73ec250fd"), looks := false }, kinds := [], alts := [], laidByText := true, laidKinds := [.data, .data, .data], laidTests := true, laidLooks := .later }
def CostChecksUptoCardSaid : Prop := Claim7.holds Tryd.pinned (.plain (OpenSpec.upto costChecksSpec)) costChecksUptoCard

/-- THE SECOND FORM's CARD OF 'stackyardlaw02.CostTexts'. -/
def costTextsUptoCard : Claim7 := { stood := { row := costTextsUptoRow, standIns := [], harness := (true, "9c08cb625083be5458051ff0051952598c272a992d0f359c12da6ec73ec250fd"), looks := false }, kinds := [], alts := [], laidByText := true, laidKinds := [.data, .data, .data], laidTests := true, laidLooks := .later }
def CostTextsUptoCardSaid : Prop := Claim7.holds Tryd.pinned (.plain (OpenSpec.upto costTextsSpec)) costTextsUptoCard

/-- THE SECOND FORM's CARD OF 'stackyardlaw02.CostSemiring'. -/
def costSemiringUptoCard : Claim7 := { stood := { row := costSemiringUptoRow, standIns := [], harness := (true, "9c08cb625083be5458051ff0051952598c272a992d0f359c12da6ec73ec250fd"), looks := false }, kinds := [], alts := [], laidByText := true, laidKinds := [.data, .data, .data], laidTests := true, laidLooks := .later }
def CostSemiringUptoCardSaid : Prop := Claim7.holds Tryd.pinned (.plain (OpenSpec.upto costSemiringSpec)) costSemiringUptoCard

/-- THE SECOND FORM's CARD OF 'stackyardlaw02.CostOrder'. -/
def costOrderUptoCard : Claim7 := { stood := { row := costOrderUptoRow, standIns := [], harness := (true, "9c08cb625083be5458051ff0051952598c272a992d0f359c12da6ec73ec250fd"), looks := false }, kinds := [], alts := [], laidByText := true, laidKinds := [.data, .data, .data], laidTests := true, laidLooks := .later }
def CostOrderUptoCardSaid : Prop := Claim7.holds Tryd.pinned (.plain (OpenSpec.upto costOrderSpec)) costOrderUptoCard

/-- THE SECOND FORM's CARD OF 'stackyardlaw02.CostRow'. -/
def costRowUptoCard : Claim7 := { stood := { row := costRowUptoRow, standIns := [], harness := (true, "9c08cb625083be5458051ff0051952598c272a992d0f359c12da6ec73ec250fd"), looks := false }, kinds := [], alts := [], laidByText := true, laidKinds := [.data, .data, .data], laidTests := true, laidLooks := .later }
def CostRowUptoCardSaid : Prop := Claim7.holds Tryd.pinned (.plain (OpenSpec.upto costRowSpec)) costRowUptoCard
end Rows
end Go.Proofs.YtccmgbbpihaapaaDoor
