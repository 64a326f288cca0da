/-
  DERIVED. GIVEN WITH THE SEED: THE CARDS: each row of YtcjpplijbdfgbaaDoorRows.lean that lists a variable, with what it lists TIED to the program's text (the seventh form; the later family's looks); each row that meets fmt, with fmt's text TOLD by the authors' own Lean function (tested against real Go, not proved from fmt's source: count such statements apart). THE CARD IS WHAT COUNTS. Prove the row's statement (the work); the ties are given (YtcjpplijbdfgbaaDoorTie.lean); close each card by the builder's one call (the guide's Derived/Test/ToyasCard.lean, 'card_holds'). Laid BY PROGRAM, IN A SANDBOX (cutbox-door.mjs). By AI agents, Wed Nov 11 2026. No macro, syntax, notation, axiom, sorry.
-/
import Derived.Test.YtcjpplijbdfgbaaDoorRows
import GoSem.ClaimSeven
namespace Go.Proofs.YtcjpplijbdfgbaaDoor
namespace Rows

/-- THE TIED CARD OF 'laws.FnExactTrimLeaf'. -/
def fnExactTrimLeafCard : Claim7 := { stood := { row := fnExactTrimLeafRow, standIns := [], harness := (true, "512f1bc128696a6987142df1bfdc0d6a1c32be8aa0d0e254ea9f2996f02e6a5c"), looks := true }, kinds := [], alts := [], laidByText := true, laidKinds := [.data, .sentinel, .sentinel, .sentinel, .sentinel, .sentinel], laidTests := true, laidLooks := .later }
def FnExactTrimLeafCardSaid : Prop := Claim7.holds Tryd.pinned (.plain (OpenSpec.ofChange fnExactTrimLeafSpec)) fnExactTrimLeafCard

/-- THE TIED CARD OF 'laws.FnExactMirrorLeaf'. -/
def fnExactMirrorLeafCard : Claim7 := { stood := { row := fnExactMirrorLeafRow, standIns := [], harness := (true, "512f1bc128696a6987142df1bfdc0d6a1c32be8aa0d0e254ea9f2996f02e6a5c"), looks := true }, kinds := [], alts := [], laidByText := true, laidKinds := [.data], laidTests := true, laidLooks := .later }
def FnExactMirrorLeafCardSaid : Prop := Claim7.holds Tryd.pinned (.plain (OpenSpec.ofChange fnExactMirrorLeafSpec)) fnExactMirrorLeafCard

/-- THE TIED CARD OF 'laws.FnExactMatchScore'. -/
def fnExactMatchScoreCard : Claim7 := { stood := { row := fnExactMatchScoreRow, standIns := [], harness := (true, "512f1bc128696a6987142df1bfdc0d6a1c32be8aa0d0e254ea9f2996f02e6a5c"), looks := true }, kinds := [], alts := [], laidByText := true, laidKinds := [.data], laidTests := true, laidLooks := .later }
def FnExactMatchScoreCardSaid : Prop := Claim7.holds Tryd.pinned (.plain (OpenSpec.ofChange fnExactMatchScoreSpec)) fnExactMatchScoreCard

/-- THE TIED CARD OF 'laws.FnExactBestMatch'. -/
def fnExactBestMatchCard : Claim7 := { stood := { row := fnExactBestMatchRow, standIns := [], harness := (true, "512f1bc128696a6987142df1bfdc0d6a1c32be8aa0d0e254ea9f2996f02e6a5c"), looks := true }, kinds := [], alts := [], laidByText := true, laidKinds := [.data, .sentinel, .sentinel, .sentinel, .sentinel, .sentinel], laidTests := true, laidLooks := .later }
def FnExactBestMatchCardSaid : Prop := Claim7.holds Tryd.pinned (.plain (OpenSpec.ofChange fnExactBestMatchSpec)) fnExactBestMatchCard

/-- THE TIED CARD OF 'laws.FnExactIsSequence'. -/
def fnExactIsSequenceCard : Claim7 := { stood := { row := fnExactIsSequenceRow, standIns := [], harness := (true, "512f1bc128696a6987142df1bfdc0d6a1c32be8aa0d0e254ea9f2996f02e6a5c"), looks := true }, kinds := [], alts := [], laidByText := true, laidKinds := [.data], laidTests := true, laidLooks := .later }
def FnExactIsSequenceCardSaid : Prop := Claim7.holds Tryd.pinned (.plain (OpenSpec.ofChange fnExactIsSequenceSpec)) fnExactIsSequenceCard

/-- THE TIED CARD OF 'laws.FnExactLongestRun'. -/
def fnExactLongestRunCard : Claim7 := { stood := { row := fnExactLongestRunRow, standIns := [], harness := (true, "512f1bc128696a6987142df1bfdc0d6a1c32be8aa0d0e254ea9f2996f02e6a5c"), looks := true }, kinds := [], alts := [], laidByText := true, laidKinds := [.data, .sentinel, .sentinel, .sentinel, .sentinel, .sentinel], laidTests := true, laidLooks := .later }
def FnExactLongestRunCardSaid : Prop := Claim7.holds Tryd.pinned (.plain (OpenSpec.ofChange fnExactLongestRunSpec)) fnExactLongestRunCard

/-- THE TIED CARD OF 'laws.FnExactMissingNumbers'. -/
def fnExactMissingNumbersCard : Claim7 := { stood := { row := fnExactMissingNumbersRow, standIns := [], harness := (true, "512f1bc128696a6987142df1bfdc0d6a1c32be8aa0d0e254ea9f2996f02e6a5c"), looks := true }, kinds := [], alts := [], laidByText := true, laidKinds := [.data, .sentinel, .sentinel, .sentinel, .sentinel, .sentinel], laidTests := true, laidLooks := .later }
def FnExactMissingNumbersCardSaid : Prop := Claim7.holds Tryd.pinned (.plain (OpenSpec.ofChange fnExactMissingNumbersSpec)) fnExactMissingNumbersCard

/-- THE TIED CARD OF 'laws.FnExactBookPairs'. -/
def fnExactBookPairsCard : Claim7 := { stood := { row := fnExactBookPairsRow, standIns := [], harness := (true, "512f1bc128696a6987142df1bfdc0d6a1c32be8aa0d0e254ea9f2996f02e6a5c"), looks := true }, kinds := [], alts := [], laidByText := true, laidKinds := [.data, .sentinel, .sentinel, .sentinel, .sentinel, .sentinel], laidTests := true, laidLooks := .later }
def FnExactBookPairsCardSaid : Prop := Claim7.holds Tryd.pinned (.plain (OpenSpec.ofChange fnExactBookPairsSpec)) fnExactBookPairsCard

/-- THE SECOND FORM's CARD OF 'laws.FnExactTrimLeaf'. -/
def fnExactTrimLeafUptoCard : Claim7 := { stood := { row := fnExactTrimLeafUptoRow, standIns := [], harness := (true, "512f1bc128696a6987142df1bfdc0d6a1c32be8aa0d0e254ea9f2996f02e6a5c"), looks := true }, kinds := [], alts := [], laidByText := true, laidKinds := [.data, .sentinel, .sentinel, .sentinel, .sentinel, .sentinel], laidTests := true, laidLooks := .later }
def FnExactTrimLeafUptoCardSaid : Prop := Claim7.holds Tryd.pinned (.plain (OpenSpec.upto fnExactTrimLeafSpec)) fnExactTrimLeafUptoCard

/-- THE SECOND FORM's CARD OF 'laws.FnExactMirrorLeaf'. -/
def fnExactMirrorLeafUptoCard : Claim7 := { stood := { row := fnExactMirrorLeafUptoRow, standIns := [], harness := (true, "512f1bc128696a6987142df1bfdc0d6a1c32be8aa0d0e254ea9f2996f02e6a5c"), looks := true }, kinds := [], alts := [], laidByText := true, laidKinds := [.data], laidTests := true, laidLooks := .later }
def FnExactMirrorLeafUptoCardSaid : Prop := Claim7.holds Tryd.pinned (.plain (OpenSpec.upto fnExactMirrorLeafSpec)) fnExactMirrorLeafUptoCard

/-- THE SECOND FORM's CARD OF 'laws.FnExactMatchScore'. -/
def fnExactMatchScoreUptoCard : Claim7 := { stood := { row := fnExactMatchScoreUptoRow, standIns := [], harness := (true, "512f1bc128696a6987142df1bfdc0d6a1c32be8aa0d0e254ea9f2996f02e6a5c"), looks := true }, kinds := [], alts := [], laidByText := true, laidKinds := [.data], laidTests := true, laidLooks := .later }
def FnExactMatchScoreUptoCardSaid : Prop := Claim7.holds Tryd.pinned (.plain (OpenSpec.upto fnExactMatchScoreSpec)) fnExactMatchScoreUptoCard

/-- THE SECOND FORM's CARD OF 'laws.FnExactBestMatch'. -/
def fnExactBestMatchUptoCard : Claim7 := { stood := { row := fnExactBestMatchUptoRow, standIns := [], harness := (true, "512f1bc128696a6987142df1bfdc0d6a1c32be8aa0d0e254ea9f2996f02e6a5c"), looks := true }, kinds := [], alts := [], laidByText := true, laidKinds := [.data, .sentinel, .sentinel, .sentinel, .sentinel, .sentinel], laidTests := true, laidLooks := .later }
def FnExactBestMatchUptoCardSaid : Prop := Claim7.holds Tryd.pinned (.plain (OpenSpec.upto fnExactBestMatchSpec)) fnExactBestMatchUptoCard

/-- THE SECOND FORM's CARD OF 'laws.FnExactIsSequence'. -/
def fnExactIsSequenceUptoCard : Claim7 := { stood := { row := fnExactIsSequenceUptoRow, standIns := [], harness := (true, "512f1bc128696a6987142df1bfdc0d6a1c32be8aa0d0e254ea9f2996f02e6a5c"), looks := true }, kinds := [], alts := [], laidByText := true, laidKinds := [.data], laidTests := true, laidLooks := .later }
def FnExactIsSequenceUptoCardSaid : Prop := Claim7.holds Tryd.pinned (.plain (OpenSpec.upto fnExactIsSequenceSpec)) fnExactIsSequenceUptoCard

/-- THE SECOND FORM's CARD OF 'laws.FnExactLongestRun'. -/
def fnExactLongestRunUptoCard : Claim7 := { stood := { row := fnExactLongestRunUptoRow, standIns := [], harness := (true, "512f1bc128696a6987142df1bfdc0d6a1c32be8aa0d0e254ea9f2996f02e6a5c"), looks := true }, kinds := [], alts := [], laidByText := true, laidKinds := [.data, .sentinel, .sentinel, .sentinel, .sentinel, .sentinel], laidTests := true, laidLooks := .later }
def FnExactLongestRunUptoCardSaid : Prop := Claim7.holds Tryd.pinned (.plain (OpenSpec.upto fnExactLongestRunSpec)) fnExactLongestRunUptoCard

/-- THE SECOND FORM's CARD OF 'laws.FnExactMissingNumbers'. -/
def fnExactMissingNumbersUptoCard : Claim7 := { stood := { row := fnExactMissingNumbersUptoRow, standIns := [], harness := (true, "512f1bc128696a6987142df1bfdc0d6a1c32be8aa0d0e254ea9f2996f02e6a5c"), looks := true }, kinds := [], alts := [], laidByText := true, laidKinds := [.data, .sentinel, .sentinel, .sentinel, .sentinel, .sentinel], laidTests := true, laidLooks := .later }
def FnExactMissingNumbersUptoCardSaid : Prop := Claim7.holds Tryd.pinned (.plain (OpenSpec.upto fnExactMissingNumbersSpec)) fnExactMissingNumbersUptoCard

/-- THE SECOND FORM's CARD OF 'laws.FnExactBookPairs'. -/
def fnExactBookPairsUptoCard : Claim7 := { stood := { row := fnExactBookPairsUptoRow, standIns := [], harness := (true, "512f1bc128696a6987142df1bfdc0d6a1c32be8aa0d0e254ea9f2996f02e6a5c"), looks := true }, kinds := [], alts := [], laidByText := true, laidKinds := [.data, .sentinel, .sentinel, .sentinel, .sentinel, .sentinel], laidTests := true, laidLooks := .later }
def FnExactBookPairsUptoCardSaid : Prop := Claim7.holds Tryd.pinned (.plain (OpenSpec.upto fnExactBookPairsSpec)) fnExactBookPairsUptoCard
end Rows
end Go.Proofs.YtcjpplijbdfgbaaDoor
