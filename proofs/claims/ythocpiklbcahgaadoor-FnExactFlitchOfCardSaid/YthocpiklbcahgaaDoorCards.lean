/-
  DERIVED. GIVEN WITH THE SEED: THE CARDS: each row of YthocpiklbcahgaaDoorRows.lean that lists a variable, with what it lists TIED to the program's text (the seventh form; the later family's looks); each row that meets fmt, with fmt's text TOLD by the authors' own Lean function (tested against real Go, not proved from fmt's source: count such statements apart). THE CARD IS WHAT COUNTS. Prove the row's statement (the work); the ties are given (YthocpiklbcahgaaDoorTie.lean); close each card by the builder's one call (the guide's Derived/Test/ToyasCard.lean, 'card_holds'). Laid BY PROGRAM, IN A SANDBOX (cutbox-door.mjs). By AI agents, Wed Nov 11 2026. No macro, syntax, notation, axiom, sorry.
-/
import Derived.Test.YthocpiklbcahgaaDoorRows
import GoSem.ClaimSeven
namespace Go.Proofs.YthocpiklbcahgaaDoor
namespace Rows

/-- THE TIED CARD OF 'laws.FnExactLeavesOf'. -/
def fnExactLeavesOfCard : Claim7 := { stood := { row := fnExactLeavesOfRow, standIns := [], harness := (true, "bc5d91eb11ca60d1ba4046c2e01692bb4194e93abf360385357de821e6bec282"), looks := true }, kinds := [], alts := [], laidByText := true, laidKinds := [.data, .sentinel, .sentinel, .sentinel, .sentinel, .sentinel], laidTests := true, laidLooks := .later }
def FnExactLeavesOfCardSaid : Prop := Claim7.holds Tryd.pinned (.plain (OpenSpec.ofChange fnExactLeavesOfSpec)) fnExactLeavesOfCard

/-- THE TIED CARD OF 'laws.FnExactFlitchOf'. -/
def fnExactFlitchOfCard : Claim7 := { stood := { row := fnExactFlitchOfRow, standIns := [], harness := (true, "bc5d91eb11ca60d1ba4046c2e01692bb4194e93abf360385357de821e6bec282"), looks := true }, kinds := [], alts := [], laidByText := true, laidKinds := [.data, .sentinel, .sentinel, .sentinel, .sentinel, .sentinel], laidTests := true, laidLooks := .later }
def FnExactFlitchOfCardSaid : Prop := Claim7.holds Tryd.pinned (.plain (OpenSpec.ofChange fnExactFlitchOfSpec)) fnExactFlitchOfCard

/-- THE TIED CARD OF 'laws.FnExactTrimLeaf'. -/
def fnExactTrimLeafCard : Claim7 := { stood := { row := fnExactTrimLeafRow, standIns := [], harness := (true, "bc5d91eb11ca60d1ba4046c2e01692bb4194e93abf360385357de821e6bec282"), looks := true }, kinds := [], alts := [], laidByText := true, laidKinds := [.data, .sentinel, .sentinel, .sentinel, .sentinel, .sentinel], laidTests := true, laidLooks := .later }
def FnExactTrimLeafCardSaid : Prop := Claim7.holds Tryd.pinned (.plain (OpenSpec.ofChange fnExactTrimLeafSpec)) fnExactTrimLeafCard

/-- THE TIED CARD OF 'laws.FnExactLeafText'. -/
def fnExactLeafTextCard : Claim7 := { stood := { row := fnExactLeafTextRow, standIns := [], harness := (true, "bc5d91eb11ca60d1ba4046c2e01692bb4194e93abf360385357de821e6bec282"), looks := true }, kinds := [], alts := [], laidByText := true, laidKinds := [.data, .data, .data, .data], laidTests := true, laidLooks := .later }
def FnExactLeafTextCardSaid : Prop := Claim7.holds Tryd.pinned (.plain (OpenSpec.ofChange fnExactLeafTextSpec)) fnExactLeafTextCard

/-- THE TIED CARD OF 'laws.FnExactAddLeaf'. -/
def fnExactAddLeafCard : Claim7 := { stood := { row := fnExactAddLeafRow, standIns := [], harness := (true, "bc5d91eb11ca60d1ba4046c2e01692bb4194e93abf360385357de821e6bec282"), looks := true }, kinds := [], alts := [], laidByText := true, laidKinds := [.data, .sentinel, .sentinel, .sentinel, .sentinel, .sentinel], laidTests := true, laidLooks := .later }
def FnExactAddLeafCardSaid : Prop := Claim7.holds Tryd.pinned (.plain (OpenSpec.ofChange fnExactAddLeafSpec)) fnExactAddLeafCard

/-- THE TIED CARD OF 'laws.FnExactDropLeaf'. -/
def fnExactDropLeafCard : Claim7 := { stood := { row := fnExactDropLeafRow, standIns := [], harness := (true, "bc5d91eb11ca60d1ba4046c2e01692bb4194e93abf360385357de821e6bec282"), looks := true }, kinds := [], alts := [], laidByText := true, laidKinds := [.data, .sentinel, .sentinel, .sentinel, .sentinel, .sentinel], laidTests := true, laidLooks := .later }
def FnExactDropLeafCardSaid : Prop := Claim7.holds Tryd.pinned (.plain (OpenSpec.ofChange fnExactDropLeafSpec)) fnExactDropLeafCard

/-- THE TIED CARD OF 'laws.FnExactUsableArea'. -/
def fnExactUsableAreaCard : Claim7 := { stood := { row := fnExactUsableAreaRow, standIns := [], harness := (true, "bc5d91eb11ca60d1ba4046c2e01692bb4194e93abf360385357de821e6bec282"), looks := true }, kinds := [], alts := [], laidByText := true, laidKinds := [.data], laidTests := true, laidLooks := .later }
def FnExactUsableAreaCardSaid : Prop := Claim7.holds Tryd.pinned (.plain (OpenSpec.ofChange fnExactUsableAreaSpec)) fnExactUsableAreaCard

/-- THE SECOND FORM's CARD OF 'laws.FnExactLeavesOf'. -/
def fnExactLeavesOfUptoCard : Claim7 := { stood := { row := fnExactLeavesOfUptoRow, standIns := [], harness := (true, "bc5d91eb11ca60d1ba4046c2e01692bb4194e93abf360385357de821e6bec282"), looks := true }, kinds := [], alts := [], laidByText := true, laidKinds := [.data, .sentinel, .sentinel, .sentinel, .sentinel, .sentinel], laidTests := true, laidLooks := .later }
def FnExactLeavesOfUptoCardSaid : Prop := Claim7.holds Tryd.pinned (.plain (OpenSpec.upto fnExactLeavesOfSpec)) fnExactLeavesOfUptoCard

/-- THE SECOND FORM's CARD OF 'laws.FnExactFlitchOf'. -/
def fnExactFlitchOfUptoCard : Claim7 := { stood := { row := fnExactFlitchOfUptoRow, standIns := [], harness := (true, "bc5d91eb11ca60d1ba4046c2e01692bb4194e93abf360385357de821e6bec282"), looks := true }, kinds := [], alts := [], laidByText := true, laidKinds := [.data, .sentinel, .sentinel, .sentinel, .sentinel, .sentinel], laidTests := true, laidLooks := .later }
def FnExactFlitchOfUptoCardSaid : Prop := Claim7.holds Tryd.pinned (.plain (OpenSpec.upto fnExactFlitchOfSpec)) fnExactFlitchOfUptoCard

/-- THE SECOND FORM's CARD OF 'laws.FnExactTrimLeaf'. -/
def fnExactTrimLeafUptoCard : Claim7 := { stood := { row := fnExactTrimLeafUptoRow, standIns := [], harness := (true, "bc5d91eb11ca60d1ba4046c2e01692bb4194e93abf360385357de821e6bec282"), looks := true }, kinds := [], alts := [], laidByText := true, laidKinds := [.data, .sentinel, .sentinel, .sentinel, .sentinel, .sentinel], laidTests := true, laidLooks := .later }
def FnExactTrimLeafUptoCardSaid : Prop := Claim7.holds Tryd.pinned (.plain (OpenSpec.upto fnExactTrimLeafSpec)) fnExactTrimLeafUptoCard

/-- THE SECOND FORM's CARD OF 'laws.FnExactLeafText'. -/
def fnExactLeafTextUptoCard : Claim7 := { stood := { row := fnExactLeafTextUptoRow, standIns := [], harness := (true, "bc5d91eb11ca60d1ba4046c2e01692bb4194e93abf360385357de821e6bec282"), looks := true }, kinds := [], alts := [], laidByText := true, laidKinds := [.data, .data, .data, .data], laidTests := true, laidLooks := .later }
def FnExactLeafTextUptoCardSaid : Prop := Claim7.holds Tryd.pinned (.plain (OpenSpec.upto fnExactLeafTextSpec)) fnExactLeafTextUptoCard

/-- THE SECOND FORM's CARD OF 'laws.FnExactAddLeaf'. -/
def fnExactAddLeafUptoCard : Claim7 := { stood := { row := fnExactAddLeafUptoRow, standIns := [], harness := (true, "bc5d91eb11ca60d1ba4046c2e01692bb4194e93abf360385357de821e6bec282"), looks := true }, kinds := [], alts := [], laidByText := true, laidKinds := [.data, .sentinel, .sentinel, .sentinel, .sentinel, .sentinel], laidTests := true, laidLooks := .later }
def FnExactAddLeafUptoCardSaid : Prop := Claim7.holds Tryd.pinned (.plain (OpenSpec.upto fnExactAddLeafSpec)) fnExactAddLeafUptoCard

/-- THE SECOND FORM's CARD OF 'laws.FnExactDropLeaf'. -/
def fnExactDropLeafUptoCard : Claim7 := { stood := { row := fnExactDropLeafUptoRow, standIns := [], harness := (true, "bc5d91eb11ca60d1ba4046c2e01692bb4194e93abf360385357de821e6bec282"), looks := true }, kinds := [], alts := [], laidByText := true, laidKinds := [.data, .sentinel, .sentinel, .sentinel, .sentinel, .sentinel], laidTests := true, laidLooks := .later }
def FnExactDropLeafUptoCardSaid : Prop := Claim7.holds Tryd.pinned (.plain (OpenSpec.upto fnExactDropLeafSpec)) fnExactDropLeafUptoCard

/-- THE SECOND FORM's CARD OF 'laws.FnExactUsableArea'. -/
def fnExactUsableAreaUptoCard : Claim7 := { stood := { row := fnExactUsableAreaUptoRow, standIns := [], harness := (true, "bc5d91eb11ca60d1ba4046c2e01692bb4194e93abf360385357de821e6bec282"), looks := true }, kinds := [], alts := [], laidByText := true, laidKinds := [.data], laidTests := true, laidLooks := .later }
def FnExactUsableAreaUptoCardSaid : Prop := Claim7.holds Tryd.pinned (.plain (OpenSpec.upto fnExactUsableAreaSpec)) fnExactUsableAreaUptoCard
end Rows
end Go.Proofs.YthocpiklbcahgaaDoor
