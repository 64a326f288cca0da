/-
  DERIVED. GIVEN WITH THE SEED: THE CARDS: each row of YtonpenccppcgjaaDoorRows.lean that lists a variable, with what it lists TIED to the program's text (the seventh form; the later family's looks); each row that meets fmt, with fmt's text TOLD by the authors' own Lean function (tested against real Go, not proved from fmt's source: count such statements apart). THE CARD IS WHAT COUNTS. Prove the row's statement (the work); the ties are given (YtonpenccppcgjaaDoorTie.lean); close each card by the builder's one call (the guide's Derived/Test/ToyasCard.lean, 'card_holds'). Laid BY PROGRAM, IN A SANDBOX (cutbox-door.mjs). By AI agents, Wed Nov 11 2026. No macro, syntax, notation, axiom, sorry.
-/
import Derived.Test.YtonpenccppcgjaaDoorRows
import GoSem.ClaimSeven
namespace Go.Proofs.YtonpenccppcgjaaDoor
namespace Rows

/-- THE TIED CARD OF 'laws.FnExactValidLeaf'. -/
def fnExactValidLeafCard : Claim7 := { stood := { row := fnExactValidLeafRow, standIns := [], harness := (true, "f45d2fc67b44bc9877fe24f50691ea9839834dc094808039ac4a7b573e7660c7"), looks := true }, kinds := [], alts := [], laidByText := true, laidKinds := [.data], laidTests := true, laidLooks := .later }
def FnExactValidLeafCardSaid : Prop := Claim7.holds Tryd.pinned (.plain (OpenSpec.ofChange fnExactValidLeafSpec)) fnExactValidLeafCard

/-- THE TIED CARD OF 'laws.FnExactValidLeaves'. -/
def fnExactValidLeavesCard : Claim7 := { stood := { row := fnExactValidLeavesRow, standIns := [], harness := (true, "f45d2fc67b44bc9877fe24f50691ea9839834dc094808039ac4a7b573e7660c7"), looks := true }, kinds := [], alts := [], laidByText := true, laidKinds := [.data], laidTests := true, laidLooks := .later }
def FnExactValidLeavesCardSaid : Prop := Claim7.holds Tryd.pinned (.plain (OpenSpec.ofChange fnExactValidLeavesSpec)) fnExactValidLeavesCard

/-- THE TIED CARD OF 'laws.FnExactDefectAt'. -/
def fnExactDefectAtCard : Claim7 := { stood := { row := fnExactDefectAtRow, standIns := [], harness := (true, "f45d2fc67b44bc9877fe24f50691ea9839834dc094808039ac4a7b573e7660c7"), looks := true }, kinds := [], alts := [], laidByText := true, laidKinds := [.data, .sentinel, .sentinel, .sentinel, .sentinel, .sentinel], laidTests := true, laidLooks := .later }
def FnExactDefectAtCardSaid : Prop := Claim7.holds Tryd.pinned (.plain (OpenSpec.ofChange fnExactDefectAtSpec)) fnExactDefectAtCard

/-- THE TIED CARD OF 'laws.FnExactUsableArea'. -/
def fnExactUsableAreaCard : Claim7 := { stood := { row := fnExactUsableAreaRow, standIns := [], harness := (true, "f45d2fc67b44bc9877fe24f50691ea9839834dc094808039ac4a7b573e7660c7"), looks := true }, kinds := [], alts := [], laidByText := true, laidKinds := [.data], laidTests := true, laidLooks := .later }
def FnExactUsableAreaCardSaid : Prop := Claim7.holds Tryd.pinned (.plain (OpenSpec.ofChange fnExactUsableAreaSpec)) fnExactUsableAreaCard

/-- THE TIED CARD OF 'laws.FnExactLeavesOf'. -/
def fnExactLeavesOfCard : Claim7 := { stood := { row := fnExactLeavesOfRow, standIns := [], harness := (true, "f45d2fc67b44bc9877fe24f50691ea9839834dc094808039ac4a7b573e7660c7"), looks := true }, kinds := [], alts := [], laidByText := true, laidKinds := [.data, .sentinel, .sentinel, .sentinel, .sentinel, .sentinel], laidTests := true, laidLooks := .later }
def FnExactLeavesOfCardSaid : Prop := Claim7.holds Tryd.pinned (.plain (OpenSpec.ofChange fnExactLeavesOfSpec)) fnExactLeavesOfCard

/-- THE TIED CARD OF 'laws.FnExactFlitchOf'. -/
def fnExactFlitchOfCard : Claim7 := { stood := { row := fnExactFlitchOfRow, standIns := [], harness := (true, "f45d2fc67b44bc9877fe24f50691ea9839834dc094808039ac4a7b573e7660c7"), looks := true }, kinds := [], alts := [], laidByText := true, laidKinds := [.data, .sentinel, .sentinel, .sentinel, .sentinel, .sentinel], laidTests := true, laidLooks := .later }
def FnExactFlitchOfCardSaid : Prop := Claim7.holds Tryd.pinned (.plain (OpenSpec.ofChange fnExactFlitchOfSpec)) fnExactFlitchOfCard

/-- THE TIED CARD OF 'laws.FnExactAddLeaf'. -/
def fnExactAddLeafCard : Claim7 := { stood := { row := fnExactAddLeafRow, standIns := [], harness := (true, "f45d2fc67b44bc9877fe24f50691ea9839834dc094808039ac4a7b573e7660c7"), looks := true }, kinds := [], alts := [], laidByText := true, laidKinds := [.data, .sentinel, .sentinel, .sentinel, .sentinel, .sentinel], laidTests := true, laidLooks := .later }
def FnExactAddLeafCardSaid : Prop := Claim7.holds Tryd.pinned (.plain (OpenSpec.ofChange fnExactAddLeafSpec)) fnExactAddLeafCard

/-- THE TIED CARD OF 'laws.FnExactDropLeaf'. -/
def fnExactDropLeafCard : Claim7 := { stood := { row := fnExactDropLeafRow, standIns := [], harness := (true, "f45d2fc67b44bc9877fe24f50691ea9839834dc094808039ac4a7b573e7660c7"), looks := true }, kinds := [], alts := [], laidByText := true, laidKinds := [.data, .sentinel, .sentinel, .sentinel, .sentinel, .sentinel], laidTests := true, laidLooks := .later }
def FnExactDropLeafCardSaid : Prop := Claim7.holds Tryd.pinned (.plain (OpenSpec.ofChange fnExactDropLeafSpec)) fnExactDropLeafCard

/-- THE TIED CARD OF 'laws.FnExactTrimLeaf'. -/
def fnExactTrimLeafCard : Claim7 := { stood := { row := fnExactTrimLeafRow, standIns := [], harness := (true, "f45d2fc67b44bc9877fe24f50691ea9839834dc094808039ac4a7b573e7660c7"), looks := true }, kinds := [], alts := [], laidByText := true, laidKinds := [.data, .sentinel, .sentinel, .sentinel, .sentinel, .sentinel], laidTests := true, laidLooks := .later }
def FnExactTrimLeafCardSaid : Prop := Claim7.holds Tryd.pinned (.plain (OpenSpec.ofChange fnExactTrimLeafSpec)) fnExactTrimLeafCard

/-- THE TIED CARD OF 'laws.FnExactLeafText'. -/
def fnExactLeafTextCard : Claim7 := { stood := { row := fnExactLeafTextRow, standIns := [], harness := (true, "f45d2fc67b44bc9877fe24f50691ea9839834dc094808039ac4a7b573e7660c7"), looks := true }, kinds := [], alts := [], laidByText := true, laidKinds := [.data, .data, .data, .data], laidTests := true, laidLooks := .later }
def FnExactLeafTextCardSaid : Prop := Claim7.holds Tryd.pinned (.plain (OpenSpec.ofChange fnExactLeafTextSpec)) fnExactLeafTextCard

/-- THE SECOND FORM's CARD OF 'laws.FnExactValidLeaf'. -/
def fnExactValidLeafUptoCard : Claim7 := { stood := { row := fnExactValidLeafUptoRow, standIns := [], harness := (true, "f45d2fc67b44bc9877fe24f50691ea9839834dc094808039ac4a7b573e7660c7"), looks := true }, kinds := [], alts := [], laidByText := true, laidKinds := [.data], laidTests := true, laidLooks := .later }
def FnExactValidLeafUptoCardSaid : Prop := Claim7.holds Tryd.pinned (.plain (OpenSpec.upto fnExactValidLeafSpec)) fnExactValidLeafUptoCard

/-- THE SECOND FORM's CARD OF 'laws.FnExactValidLeaves'. -/
def fnExactValidLeavesUptoCard : Claim7 := { stood := { row := fnExactValidLeavesUptoRow, standIns := [], harness := (true, "f45d2fc67b44bc9877fe24f50691ea9839834dc094808039ac4a7b573e7660c7"), looks := true }, kinds := [], alts := [], laidByText := true, laidKinds := [.data], laidTests := true, laidLooks := .later }
def FnExactValidLeavesUptoCardSaid : Prop := Claim7.holds Tryd.pinned (.plain (OpenSpec.upto fnExactValidLeavesSpec)) fnExactValidLeavesUptoCard

/-- THE SECOND FORM's CARD OF 'laws.FnExactDefectAt'. -/
def fnExactDefectAtUptoCard : Claim7 := { stood := { row := fnExactDefectAtUptoRow, standIns := [], harness := (true, "f45d2fc67b44bc9877fe24f50691ea9839834dc094808039ac4a7b573e7660c7"), looks := true }, kinds := [], alts := [], laidByText := true, laidKinds := [.data, .sentinel, .sentinel, .sentinel, .sentinel, .sentinel], laidTests := true, laidLooks := .later }
def FnExactDefectAtUptoCardSaid : Prop := Claim7.holds Tryd.pinned (.plain (OpenSpec.upto fnExactDefectAtSpec)) fnExactDefectAtUptoCard

/-- THE SECOND FORM's CARD OF 'laws.FnExactUsableArea'. -/
def fnExactUsableAreaUptoCard : Claim7 := { stood := { row := fnExactUsableAreaUptoRow, standIns := [], harness := (true, "f45d2fc67b44bc9877fe24f50691ea9839834dc094808039ac4a7b573e7660c7"), looks := true }, kinds := [], alts := [], laidByText := true, laidKinds := [.data], laidTests := true, laidLooks := .later }
def FnExactUsableAreaUptoCardSaid : Prop := Claim7.holds Tryd.pinned (.plain (OpenSpec.upto fnExactUsableAreaSpec)) fnExactUsableAreaUptoCard

/-- THE SECOND FORM's CARD OF 'laws.FnExactLeavesOf'. -/
def fnExactLeavesOfUptoCard : Claim7 := { stood := { row := fnExactLeavesOfUptoRow, standIns := [], harness := (true, "f45d2fc67b44bc9877fe24f50691ea9839834dc094808039ac4a7b573e7660c7"), looks := true }, kinds := [], alts := [], laidByText := true, laidKinds := [.data, .sentinel, .sentinel, .sentinel, .sentinel, .sentinel], laidTests := true, laidLooks := .later }
def FnExactLeavesOfUptoCardSaid : Prop := Claim7.holds Tryd.pinned (.plain (OpenSpec.upto fnExactLeavesOfSpec)) fnExactLeavesOfUptoCard

/-- THE SECOND FORM's CARD OF 'laws.FnExactFlitchOf'. -/
def fnExactFlitchOfUptoCard : Claim7 := { stood := { row := fnExactFlitchOfUptoRow, standIns := [], harness := (true, "f45d2fc67b44bc9877fe24f50691ea9839834dc094808039ac4a7b573e7660c7"), looks := true }, kinds := [], alts := [], laidByText := true, laidKinds := [.data, .sentinel, .sentinel, .sentinel, .sentinel, .sentinel], laidTests := true, laidLooks := .later }
def FnExactFlitchOfUptoCardSaid : Prop := Claim7.holds Tryd.pinned (.plain (OpenSpec.upto fnExactFlitchOfSpec)) fnExactFlitchOfUptoCard

/-- THE SECOND FORM's CARD OF 'laws.FnExactAddLeaf'. -/
def fnExactAddLeafUptoCard : Claim7 := { stood := { row := fnExactAddLeafUptoRow, standIns := [], harness := (true, "f45d2fc67b44bc9877fe24f50691ea9839834dc094808039ac4a7b573e7660c7"), looks := true }, kinds := [], alts := [], laidByText := true, laidKinds := [.data, .sentinel, .sentinel, .sentinel, .sentinel, .sentinel], laidTests := true, laidLooks := .later }
def FnExactAddLeafUptoCardSaid : Prop := Claim7.holds Tryd.pinned (.plain (OpenSpec.upto fnExactAddLeafSpec)) fnExactAddLeafUptoCard

/-- THE SECOND FORM's CARD OF 'laws.FnExactDropLeaf'. -/
def fnExactDropLeafUptoCard : Claim7 := { stood := { row := fnExactDropLeafUptoRow, standIns := [], harness := (true, "f45d2fc67b44bc9877fe24f50691ea9839834dc094808039ac4a7b573e7660c7"), looks := true }, kinds := [], alts := [], laidByText := true, laidKinds := [.data, .sentinel, .sentinel, .sentinel, .sentinel, .sentinel], laidTests := true, laidLooks := .later }
def FnExactDropLeafUptoCardSaid : Prop := Claim7.holds Tryd.pinned (.plain (OpenSpec.upto fnExactDropLeafSpec)) fnExactDropLeafUptoCard

/-- THE SECOND FORM's CARD OF 'laws.FnExactTrimLeaf'. -/
def fnExactTrimLeafUptoCard : Claim7 := { stood := { row := fnExactTrimLeafUptoRow, standIns := [], harness := (true, "f45d2fc67b44bc9877fe24f50691ea9839834dc094808039ac4a7b573e7660c7"), looks := true }, kinds := [], alts := [], laidByText := true, laidKinds := [.data, .sentinel, .sentinel, .sentinel, .sentinel, .sentinel], laidTests := true, laidLooks := .later }
def FnExactTrimLeafUptoCardSaid : Prop := Claim7.holds Tryd.pinned (.plain (OpenSpec.upto fnExactTrimLeafSpec)) fnExactTrimLeafUptoCard

/-- THE SECOND FORM's CARD OF 'laws.FnExactLeafText'. -/
def fnExactLeafTextUptoCard : Claim7 := { stood := { row := fnExactLeafTextUptoRow, standIns := [], harness := (true, "f45d2fc67b44bc9877fe24f50691ea9839834dc094808039ac4a7b573e7660c7"), looks := true }, kinds := [], alts := [], laidByText := true, laidKinds := [.data, .data, .data, .data], laidTests := true, laidLooks := .later }
def FnExactLeafTextUptoCardSaid : Prop := Claim7.holds Tryd.pinned (.plain (OpenSpec.upto fnExactLeafTextSpec)) fnExactLeafTextUptoCard
end Rows
end Go.Proofs.YtonpenccppcgjaaDoor
