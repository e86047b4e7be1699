/-
  DERIVED. GIVEN WITH THE SEED: THE CARDS: each row of YtdaijibkafepcaaDoorRows.lean that lists a variable, with what it lists TIED to the program's text (the seventh form; the later family's looks); each row that meets fmt, with fmt's text TOLD by the authors' own Lean function (tested against real Go, not proved from fmt's source: count such statements apart). THE CARD IS WHAT COUNTS. Prove the row's statement (the work); the ties are given (YtdaijibkafepcaaDoorTie.lean); close each card by the builder's one call (the guide's Derived/Test/ToyasCard.lean, 'card_holds'). Laid BY PROGRAM, IN A SANDBOX (cutbox-door.mjs). By AI agents, Wed Nov 11 2026. No macro, syntax, notation, axiom, sorry.
-/
import Derived.Test.YtdaijibkafepcaaDoorRows
import GoSem.ClaimSeven
namespace Go.Proofs.YtdaijibkafepcaaDoor
namespace Rows

/-- THE TIED CARD OF 'stackyardlaw01.BitsSets'. -/
def bitsSetsCard : Claim7 := { stood := { row := bitsSetsRow, standIns := [], harness := (true, "4f9344e0802d84dc8389d9c6773e563ce47147fa1c8cb97575fe95899ad0f0ab"), looks := false }, kinds := [], alts := [], laidByText := true, laidKinds := [.data, .data, .data], laidTests := true, laidLooks := .later }
def BitsSetsCardSaid : Prop := Claim7.holds Tryd.pinned (.plain (OpenSpec.ofChange bitsSetsSpec)) bitsSetsCard

/-- THE TIED CARD OF 'stackyardlaw01.BitsAsks'. -/
def bitsAsksCard : Claim7 := { stood := { row := bitsAsksRow, standIns := [], harness := (true, "4f9344e0802d84dc8389d9c6773e563ce47147fa1c8cb97575fe95899ad0f0ab"), looks := false }, kinds := [], alts := [], laidByText := true, laidKinds := [.data, .data, .data], laidTests := true, laidLooks := .later }
def BitsAsksCardSaid : Prop := Claim7.holds Tryd.pinned (.plain (OpenSpec.ofChange bitsAsksSpec)) bitsAsksCard

/-- THE TIED CARD OF 'stackyardlaw01.BitsMoves'. -/
def bitsMovesCard : Claim7 := { stood := { row := bitsMovesRow, standIns := [], harness := (true, "4f9344e0802d84dc8389d9c6773e563ce47147fa1c8cb97575fe95899ad0f0ab"), looks := false }, kinds := [], alts := [], laidByText := true, laidKinds := [.data, .data, .data], laidTests := true, laidLooks := .later }
def BitsMovesCardSaid : Prop := Claim7.holds Tryd.pinned (.plain (OpenSpec.ofChange bitsMovesSpec)) bitsMovesCard

/-- THE TIED CARD OF 'stackyardlaw01.BitsTexts'. -/
def bitsTextsCard : Claim7 := { stood := { row := bitsTextsRow, standIns := [], harness := (true, "4f9344e0802d84dc8389d9c6773e563ce47147fa1c8cb97575fe95899ad0f0ab"), looks := false }, kinds := [], alts := [], laidByText := true, laidKinds := [.data, .data, .data], laidTests := true, laidLooks := .later }
def BitsTextsCardSaid : Prop := Claim7.holds Tryd.pinned (.plain (OpenSpec.ofChange bitsTextsSpec)) bitsTextsCard

/-- THE TIED CARD OF 'stackyardlaw01.BitsBack'. -/
def bitsBackCard : Claim7 := { stood := { row := bitsBackRow, standIns := [], harness := (true, "4f9344e0802d84dc8389d9c6773e563ce47147fa1c8cb97575fe95899ad0f0ab"), looks := false }, kinds := [], alts := [], laidByText := true, laidKinds := [.data, .data, .data], laidTests := true, laidLooks := .later }
def BitsBackCardSaid : Prop := Claim7.holds Tryd.pinned (.plain (OpenSpec.ofChange bitsBackSpec)) bitsBackCard

/-- THE TIED CARD OF 'stackyardlaw01.BitsThere'. -/
def bitsThereCard : Claim7 := { stood := { row := bitsThereRow, standIns := [], harness := (true, "4f9344e0802d84dc8389d9c6773e563ce47147fa1c8cb97575fe95899ad0f0ab"), looks := false }, kinds := [], alts := [], laidByText := true, laidKinds := [.data, .data, .data], laidTests := true, laidLooks := .later }
def BitsThereCardSaid : Prop := Claim7.holds Tryd.pinned (.plain (OpenSpec.ofChange bitsThereSpec)) bitsThereCard

/-- THE TIED CARD OF 'stackyardlaw03.FactsForms'. -/
def factsFormsCard : Claim7 := { stood := { row := factsFormsRow, standIns := [], harness := (true, "4f9344e0802d84dc8389d9c6773e563ce47147fa1c8cb97575fe95899ad0f0ab"), looks := false }, kinds := [], alts := [], laidByText := true, laidKinds := [.data], laidTests := true, laidLooks := .later }
def FactsFormsCardSaid : Prop := Claim7.holds Tryd.pinned (.plain (OpenSpec.ofChange factsFormsSpec)) factsFormsCard

/-- THE TIED CARD OF 'stackyardlaw03.FactsMakes'. -/
def factsMakesCard : Claim7 := { stood := { row := factsMakesRow, standIns := [], harness := (true, "4f9344e0802d84dc8389d9c6773e563ce47147fa1c8cb97575fe95899ad0f0ab"), looks := false }, kinds := [], alts := [], laidByText := true, laidKinds := [.data], laidTests := true, laidLooks := .later }
def FactsMakesCardSaid : Prop := Claim7.holds Tryd.pinned (.plain (OpenSpec.ofChange factsMakesSpec)) factsMakesCard

/-- THE TIED CARD OF 'stackyardlaw03.FactsRing'. -/
def factsRingCard : Claim7 := { stood := { row := factsRingRow, standIns := [], harness := (true, "4f9344e0802d84dc8389d9c6773e563ce47147fa1c8cb97575fe95899ad0f0ab"), looks := false }, kinds := [], alts := [], laidByText := true, laidKinds := [.data], laidTests := true, laidLooks := .later }
def FactsRingCardSaid : Prop := Claim7.holds Tryd.pinned (.plain (OpenSpec.ofChange factsRingSpec)) factsRingCard

/-- THE TIED CARD OF 'stackyardlaw03.FactsApply'. -/
def factsApplyCard : Claim7 := { stood := { row := factsApplyRow, standIns := [], harness := (true, "4f9344e0802d84dc8389d9c6773e563ce47147fa1c8cb97575fe95899ad0f0ab"), looks := false }, kinds := [], alts := [], laidByText := true, laidKinds := [.data], laidTests := true, laidLooks := .later }
def FactsApplyCardSaid : Prop := Claim7.holds Tryd.pinned (.plain (OpenSpec.ofChange factsApplySpec)) factsApplyCard

/-- THE TIED CARD OF 'stackyardlaw03.FactsOwn'. -/
def factsOwnCard : Claim7 := { stood := { row := factsOwnRow, standIns := [], harness := (true, "4f9344e0802d84dc8389d9c6773e563ce47147fa1c8cb97575fe95899ad0f0ab"), looks := false }, kinds := [], alts := [], laidByText := true, laidKinds := [.data], laidTests := true, laidLooks := .later }
def FactsOwnCardSaid : Prop := Claim7.holds Tryd.pinned (.plain (OpenSpec.ofChange factsOwnSpec)) factsOwnCard

/-- THE SECOND FORM's CARD OF 'stackyardlaw01.BitsSets'. -/
def bitsSetsUptoCard : Claim7 := { stood := { row := bitsSetsUptoRow, standIns := [], harness := (true, "4f9344e0802d84dc8389d9c6773e563ce47147fa1c8cb97575fe95899ad0f0ab"), looks := false }, kinds := [], alts := [], laidByText := true, laidKinds := [.data, .data, .data], laidTests := true, laidLooks := .later }
def BitsSetsUptoCardSaid : Prop := Claim7.holds Tryd.pinned (.plain (OpenSpec.upto bitsSetsSpec)) bitsSetsUptoCard

/-- THE SECOND FORM's CARD OF 'stackyardlaw01.BitsAsks'. -/
def bitsAsksUptoCard : Claim7 := { stood := { row := bitsAsksUptoRow, standIns := [], harness := (true, "4f9344e0802d84dc8389d9c6773e563ce47147fa1c8cb97575fe95899ad0f0ab"), looks := false }, kinds := [], alts := [], laidByText := true, laidKinds := [.data, .data, .data], laidTests := true, laidLooks := .later }
def BitsAsksUptoCardSaid : Prop := Claim7.holds Tryd.pinned (.plain (OpenSpec.upto bitsAsksSpec)) bitsAsksUptoCard

/-- THE SECOND FORM's CARD OF 'stackyardlaw01.BitsMoves'. -/
def bitsMovesUptoCard : Claim7 := { stood := { row := bitsMovesUptoRow, standIns := [], harness := (true, "4f9344e0802d84dc8389d9c6773e563ce47147fa1c8cb97575fe95899ad0f0ab"), looks := false }, kinds := [], alts := [], laidByText := true, laidKinds := [.data, .data, .data], laidTests := true, laidLooks := .later }
def BitsMovesUptoCardSaid : Prop := Claim7.holds Tryd.pinned (.plain (OpenSpec.upto bitsMovesSpec)) bitsMovesUptoCard

/-- THE SECOND FORM's CARD OF 'stackyardlaw01.BitsTexts'. -/
def bitsTextsUptoCard : Claim7 := { stood := { row := bitsTextsUptoRow, standIns := [], harness := (true, "4f9344e0802d84dc8389d9c6773e563ce47147fa1c8cb97575fe95899ad0f0ab"), looks := false }, kinds := [], alts := [], laidByText := true, laidKinds := [.data, .data, .data], laidTests := true, laidLooks := .later }
def BitsTextsUptoCardSaid : Prop := Claim7.holds Tryd.pinned (.plain (OpenSpec.upto bitsTextsSpec)) bitsTextsUptoCard

/-- THE SECOND FORM's CARD OF 'stackyardlaw01.BitsBack'. -/
def bitsBackUptoCard : Claim7 := { stood := { row := bitsBackUptoRow, standIns := [], harness := (true, "4f9344e0802d84dc8389d9c6773e563ce47147fa1c8cb97575fe95899ad0f0ab"), looks := false }, kinds := [], alts := [], laidByText := true, laidKinds := [.data, .data, .data], laidTests := true, laidLooks := .later }
def BitsBackUptoCardSaid : Prop := Claim7.holds Tryd.pinned (.plain (OpenSpec.upto bitsBackSpec)) bitsBackUptoCard

/-- THE SECOND FORM's CARD OF 'stackyardlaw01.BitsThere'. -/
def bitsThereUptoCard : Claim7 := { stood := { row := bitsThereUptoRow, standIns := [], harness := (true, "4f9344e0802d84dc8389d9c6773e563ce47147fa1c8cb97575fe95899ad0f0ab"), looks := false }, kinds := [], alts := [], laidByText := true, laidKinds := [.data, .data, .data], laidTests := true, laidLooks := .later }
def BitsThereUptoCardSaid : Prop := Claim7.holds Tryd.pinned (.plain (OpenSpec.upto bitsThereSpec)) bitsThereUptoCard

/-- THE SECOND FORM's CARD OF 'stackyardlaw03.FactsForms'. -/
def factsFormsUptoCard : Claim7 := { stood := { row := factsFormsUptoRow, standIns := [], harness := (true, "4f9344e0802d84dc8389d9c6773e563ce47147fa1c8cb97575fe95899ad0f0ab"), looks := false }, kinds := [], alts := [], laidByText := true, laidKinds := [.data], laidTests := true, laidLooks := .later }
def FactsFormsUptoCardSaid : Prop := Claim7.holds Tryd.pinned (.plain (OpenSpec.upto factsFormsSpec)) factsFormsUptoCard

/-- THE SECOND FORM's CARD OF 'stackyardlaw03.FactsMakes'. -/
def factsMakesUptoCard : Claim7 := { stood := { row := factsMakesUptoRow, standIns := [], harness := (true, "4f9344e0802d84dc8389d9c6773e563ce47147fa1c8cb97575fe95899ad0f0ab"), looks := false }, kinds := [], alts := [], laidByText := true, laidKinds := [.data], laidTests := true, laidLooks := .later }
def FactsMakesUptoCardSaid : Prop := Claim7.holds Tryd.pinned (.plain (OpenSpec.upto factsMakesSpec)) factsMakesUptoCard

/-- THE SECOND FORM's CARD OF 'stackyardlaw03.FactsRing'. -/
def factsRingUptoCard : Claim7 := { stood := { row := factsRingUptoRow, standIns := [], harness := (true, "4f9344e0802d84dc8389d9c6773e563ce47147fa1c8cb97575fe95899ad0f0ab"), looks := false }, kinds := [], alts := [], laidByText := true, laidKinds := [.data], laidTests := true, laidLooks := .later }
def FactsRingUptoCardSaid : Prop := Claim7.holds Tryd.pinned (.plain (OpenSpec.upto factsRingSpec)) factsRingUptoCard

/-- THE SECOND FORM's CARD OF 'stackyardlaw03.FactsApply'. -/
def factsApplyUptoCard : Claim7 := { stood := { row := factsApplyUptoRow, standIns := [], harness := (true, "4f9344e0802d84dc8389d9c6773e563ce47147fa1c8cb97575fe95899ad0f0ab"), looks := false }, kinds := [], alts := [], laidByText := true, laidKinds := [.data], laidTests := true, laidLooks := .later }
def FactsApplyUptoCardSaid : Prop := Claim7.holds Tryd.pinned (.plain (OpenSpec.upto factsApplySpec)) factsApplyUptoCard

/-- THE SECOND FORM's CARD OF 'stackyardlaw03.FactsOwn'. -/
def factsOwnUptoCard : Claim7 := { stood := { row := factsOwnUptoRow, standIns := [], harness := (true, "4f9344e0802d84dc8389d9c6773e563ce47147fa1c8cb97575fe95899ad0f0ab"), looks := false }, kinds := [], alts := [], laidByText := true, laidKinds := [.data], laidTests := true, laidLooks := .later }
def FactsOwnUptoCardSaid : Prop := Claim7.holds Tryd.pinned (.plain (OpenSpec.upto factsOwnSpec)) factsOwnUptoCard
end Rows
end Go.Proofs.YtdaijibkafepcaaDoor
