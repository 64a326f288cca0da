/-
  DERIVED. GIVEN WITH THE SEED: THE CARDS: each row of YthjimogeimigmaaDoorRows.lean that lists a variable, with what it lists TIED to the program's text (the seventh form; the later family's looks); each row that meets fmt, with fmt's text TOLD by the authors' own Lean function (tested against real Go, not proved from fmt's source: count such statements apart). THE CARD IS WHAT COUNTS. Prove the row's statement (the work); the ties are given (YthjimogeimigmaaDoorTie.lean); close each card by the builder's one call (the guide's Derived/Test/ToyasCard.lean, 'card_holds'). Laid BY PROGRAM, IN A SANDBOX (cutbox-door.mjs). By AI agents, Wed Nov 11 2026. No macro, syntax, notation, axiom, sorry.
-/
import Derived.Test.YthjimogeimigmaaDoorRows
import GoSem.ClaimSeven
namespace Go.Proofs.YthjimogeimigmaaDoor
namespace Rows

/-- THE TIED CARD OF 'laws.FnExactSpeciesNames'. -/
def fnExactSpeciesNamesCard : Claim7 := { stood := { row := fnExactSpeciesNamesRow, standIns := [], harness := (true, "2439e0cf89204e65e1d15ca050c045413a8dda20e38d70268cddaaad71386545"), looks := true }, kinds := [], alts := [], laidByText := true, laidKinds := [.data], laidTests := true, laidLooks := .later }
def FnExactSpeciesNamesCardSaid : Prop := Claim7.holds Tryd.pinned (.plain (OpenSpec.ofChange fnExactSpeciesNamesSpec)) fnExactSpeciesNamesCard

/-- THE TIED CARD OF 'laws.FnExactSpeciesData'. -/
def fnExactSpeciesDataCard : Claim7 := { stood := { row := fnExactSpeciesDataRow, standIns := [], harness := (true, "2439e0cf89204e65e1d15ca050c045413a8dda20e38d70268cddaaad71386545"), looks := true }, kinds := [], alts := [], laidByText := true, laidKinds := [.data], laidTests := true, laidLooks := .later }
def FnExactSpeciesDataCardSaid : Prop := Claim7.holds Tryd.pinned (.plain (OpenSpec.ofChange fnExactSpeciesDataSpec)) fnExactSpeciesDataCard

/-- THE TIED CARD OF 'laws.FnExactValidVeneer'. -/
def fnExactValidVeneerCard : Claim7 := { stood := { row := fnExactValidVeneerRow, standIns := [], harness := (true, "2439e0cf89204e65e1d15ca050c045413a8dda20e38d70268cddaaad71386545"), looks := true }, kinds := [], alts := [], laidByText := true, laidKinds := [.data], laidTests := true, laidLooks := .later }
def FnExactValidVeneerCardSaid : Prop := Claim7.holds Tryd.pinned (.plain (OpenSpec.ofChange fnExactValidVeneerSpec)) fnExactValidVeneerCard

/-- THE TIED CARD OF 'laws.FnExactContrastOf'. -/
def fnExactContrastOfCard : Claim7 := { stood := { row := fnExactContrastOfRow, standIns := [], harness := (true, "2439e0cf89204e65e1d15ca050c045413a8dda20e38d70268cddaaad71386545"), looks := true }, kinds := [], alts := [], laidByText := true, laidKinds := [.data], laidTests := true, laidLooks := .later }
def FnExactContrastOfCardSaid : Prop := Claim7.holds Tryd.pinned (.plain (OpenSpec.ofChange fnExactContrastOfSpec)) fnExactContrastOfCard

/-- THE TIED CARD OF 'laws.FnExactNearestSpecies'. -/
def fnExactNearestSpeciesCard : Claim7 := { stood := { row := fnExactNearestSpeciesRow, standIns := [], harness := (true, "2439e0cf89204e65e1d15ca050c045413a8dda20e38d70268cddaaad71386545"), looks := true }, kinds := [], alts := [], laidByText := true, laidKinds := [.data], laidTests := true, laidLooks := .later }
def FnExactNearestSpeciesCardSaid : Prop := Claim7.holds Tryd.pinned (.plain (OpenSpec.ofChange fnExactNearestSpeciesSpec)) fnExactNearestSpeciesCard

/-- THE TIED CARD OF 'laws.FnExactSpeciesWithin'. -/
def fnExactSpeciesWithinCard : Claim7 := { stood := { row := fnExactSpeciesWithinRow, standIns := [], harness := (true, "2439e0cf89204e65e1d15ca050c045413a8dda20e38d70268cddaaad71386545"), looks := true }, kinds := [], alts := [], laidByText := true, laidKinds := [.data], laidTests := true, laidLooks := .later }
def FnExactSpeciesWithinCardSaid : Prop := Claim7.holds Tryd.pinned (.plain (OpenSpec.ofChange fnExactSpeciesWithinSpec)) fnExactSpeciesWithinCard

/-- THE TIED CARD OF 'laws.FnExactWithShade'. -/
def fnExactWithShadeCard : Claim7 := { stood := { row := fnExactWithShadeRow, standIns := [], harness := (true, "2439e0cf89204e65e1d15ca050c045413a8dda20e38d70268cddaaad71386545"), looks := true }, kinds := [], alts := [], laidByText := true, laidKinds := [.data], laidTests := true, laidLooks := .later }
def FnExactWithShadeCardSaid : Prop := Claim7.holds Tryd.pinned (.plain (OpenSpec.ofChange fnExactWithShadeSpec)) fnExactWithShadeCard

/-- THE TIED CARD OF 'laws.FnExactMeanShade'. -/
def fnExactMeanShadeCard : Claim7 := { stood := { row := fnExactMeanShadeRow, standIns := [], harness := (true, "2439e0cf89204e65e1d15ca050c045413a8dda20e38d70268cddaaad71386545"), looks := true }, kinds := [], alts := [], laidByText := true, laidKinds := [.data], laidTests := true, laidLooks := .later }
def FnExactMeanShadeCardSaid : Prop := Claim7.holds Tryd.pinned (.plain (OpenSpec.ofChange fnExactMeanShadeSpec)) fnExactMeanShadeCard

/-- THE TIED CARD OF 'laws.FnExactVeneerText'. -/
def fnExactVeneerTextCard : Claim7 := { stood := { row := fnExactVeneerTextRow, standIns := [], harness := (true, "2439e0cf89204e65e1d15ca050c045413a8dda20e38d70268cddaaad71386545"), looks := true }, kinds := [], alts := [], laidByText := true, laidKinds := [.data, .data, .data, .data], laidTests := true, laidLooks := .later }
def FnExactVeneerTextCardSaid : Prop := Claim7.holds Tryd.pinned (.plain (OpenSpec.ofChange fnExactVeneerTextSpec)) fnExactVeneerTextCard

/-- THE TIED CARD OF 'laws.FnExactReadVeneer'. -/
def fnExactReadVeneerCard : Claim7 := { stood := { row := fnExactReadVeneerRow, standIns := [], harness := (true, "2439e0cf89204e65e1d15ca050c045413a8dda20e38d70268cddaaad71386545"), looks := true }, kinds := [], alts := [], laidByText := true, laidKinds := [.data, .data, .data, .data, .sentinel, .sentinel, .data, .pinned], laidTests := true, laidLooks := .later }
def FnExactReadVeneerCardSaid : Prop := Claim7.holds Tryd.pinned (.plain (OpenSpec.ofChange fnExactReadVeneerSpec)) fnExactReadVeneerCard

/-- THE TIED CARD OF 'laws.FnVeneers'. -/
def fnVeneersCard : Claim7 := { stood := { row := fnVeneersRow, standIns := [], harness := (true, "2439e0cf89204e65e1d15ca050c045413a8dda20e38d70268cddaaad71386545"), looks := true }, kinds := [], alts := [], laidByText := true, laidKinds := [.data, .data, .data, .data, .sentinel, .sentinel, .data, .pinned], laidTests := true, laidLooks := .later }
def FnVeneersCardSaid : Prop := Claim7.holds Tryd.pinned (.plain (OpenSpec.ofChange fnVeneersSpec)) fnVeneersCard

/-- THE SECOND FORM's CARD OF 'laws.FnExactSpeciesNames'. -/
def fnExactSpeciesNamesUptoCard : Claim7 := { stood := { row := fnExactSpeciesNamesUptoRow, standIns := [], harness := (true, "2439e0cf89204e65e1d15ca050c045413a8dda20e38d70268cddaaad71386545"), looks := true }, kinds := [], alts := [], laidByText := true, laidKinds := [.data], laidTests := true, laidLooks := .later }
def FnExactSpeciesNamesUptoCardSaid : Prop := Claim7.holds Tryd.pinned (.plain (OpenSpec.upto fnExactSpeciesNamesSpec)) fnExactSpeciesNamesUptoCard

/-- THE SECOND FORM's CARD OF 'laws.FnExactSpeciesData'. -/
def fnExactSpeciesDataUptoCard : Claim7 := { stood := { row := fnExactSpeciesDataUptoRow, standIns := [], harness := (true, "2439e0cf89204e65e1d15ca050c045413a8dda20e38d70268cddaaad71386545"), looks := true }, kinds := [], alts := [], laidByText := true, laidKinds := [.data], laidTests := true, laidLooks := .later }
def FnExactSpeciesDataUptoCardSaid : Prop := Claim7.holds Tryd.pinned (.plain (OpenSpec.upto fnExactSpeciesDataSpec)) fnExactSpeciesDataUptoCard

/-- THE SECOND FORM's CARD OF 'laws.FnExactValidVeneer'. -/
def fnExactValidVeneerUptoCard : Claim7 := { stood := { row := fnExactValidVeneerUptoRow, standIns := [], harness := (true, "2439e0cf89204e65e1d15ca050c045413a8dda20e38d70268cddaaad71386545"), looks := true }, kinds := [], alts := [], laidByText := true, laidKinds := [.data], laidTests := true, laidLooks := .later }
def FnExactValidVeneerUptoCardSaid : Prop := Claim7.holds Tryd.pinned (.plain (OpenSpec.upto fnExactValidVeneerSpec)) fnExactValidVeneerUptoCard

/-- THE SECOND FORM's CARD OF 'laws.FnExactContrastOf'. -/
def fnExactContrastOfUptoCard : Claim7 := { stood := { row := fnExactContrastOfUptoRow, standIns := [], harness := (true, "2439e0cf89204e65e1d15ca050c045413a8dda20e38d70268cddaaad71386545"), looks := true }, kinds := [], alts := [], laidByText := true, laidKinds := [.data], laidTests := true, laidLooks := .later }
def FnExactContrastOfUptoCardSaid : Prop := Claim7.holds Tryd.pinned (.plain (OpenSpec.upto fnExactContrastOfSpec)) fnExactContrastOfUptoCard

/-- THE SECOND FORM's CARD OF 'laws.FnExactNearestSpecies'. -/
def fnExactNearestSpeciesUptoCard : Claim7 := { stood := { row := fnExactNearestSpeciesUptoRow, standIns := [], harness := (true, "2439e0cf89204e65e1d15ca050c045413a8dda20e38d70268cddaaad71386545"), looks := true }, kinds := [], alts := [], laidByText := true, laidKinds := [.data], laidTests := true, laidLooks := .later }
def FnExactNearestSpeciesUptoCardSaid : Prop := Claim7.holds Tryd.pinned (.plain (OpenSpec.upto fnExactNearestSpeciesSpec)) fnExactNearestSpeciesUptoCard

/-- THE SECOND FORM's CARD OF 'laws.FnExactSpeciesWithin'. -/
def fnExactSpeciesWithinUptoCard : Claim7 := { stood := { row := fnExactSpeciesWithinUptoRow, standIns := [], harness := (true, "2439e0cf89204e65e1d15ca050c045413a8dda20e38d70268cddaaad71386545"), looks := true }, kinds := [], alts := [], laidByText := true, laidKinds := [.data], laidTests := true, laidLooks := .later }
def FnExactSpeciesWithinUptoCardSaid : Prop := Claim7.holds Tryd.pinned (.plain (OpenSpec.upto fnExactSpeciesWithinSpec)) fnExactSpeciesWithinUptoCard

/-- THE SECOND FORM's CARD OF 'laws.FnExactWithShade'. -/
def fnExactWithShadeUptoCard : Claim7 := { stood := { row := fnExactWithShadeUptoRow, standIns := [], harness := (true, "2439e0cf89204e65e1d15ca050c045413a8dda20e38d70268cddaaad71386545"), looks := true }, kinds := [], alts := [], laidByText := true, laidKinds := [.data], laidTests := true, laidLooks := .later }
def FnExactWithShadeUptoCardSaid : Prop := Claim7.holds Tryd.pinned (.plain (OpenSpec.upto fnExactWithShadeSpec)) fnExactWithShadeUptoCard

/-- THE SECOND FORM's CARD OF 'laws.FnExactMeanShade'. -/
def fnExactMeanShadeUptoCard : Claim7 := { stood := { row := fnExactMeanShadeUptoRow, standIns := [], harness := (true, "2439e0cf89204e65e1d15ca050c045413a8dda20e38d70268cddaaad71386545"), looks := true }, kinds := [], alts := [], laidByText := true, laidKinds := [.data], laidTests := true, laidLooks := .later }
def FnExactMeanShadeUptoCardSaid : Prop := Claim7.holds Tryd.pinned (.plain (OpenSpec.upto fnExactMeanShadeSpec)) fnExactMeanShadeUptoCard

/-- THE SECOND FORM's CARD OF 'laws.FnExactVeneerText'. -/
def fnExactVeneerTextUptoCard : Claim7 := { stood := { row := fnExactVeneerTextUptoRow, standIns := [], harness := (true, "2439e0cf89204e65e1d15ca050c045413a8dda20e38d70268cddaaad71386545"), looks := true }, kinds := [], alts := [], laidByText := true, laidKinds := [.data, .data, .data, .data], laidTests := true, laidLooks := .later }
def FnExactVeneerTextUptoCardSaid : Prop := Claim7.holds Tryd.pinned (.plain (OpenSpec.upto fnExactVeneerTextSpec)) fnExactVeneerTextUptoCard

/-- THE SECOND FORM's CARD OF 'laws.FnExactReadVeneer'. -/
def fnExactReadVeneerUptoCard : Claim7 := { stood := { row := fnExactReadVeneerUptoRow, standIns := [], harness := (true, "2439e0cf89204e65e1d15ca050c045413a8dda20e38d70268cddaaad71386545"), looks := true }, kinds := [], alts := [], laidByText := true, laidKinds := [.data, .data, .data, .data, .sentinel, .sentinel, .data, .pinned], laidTests := true, laidLooks := .later }
def FnExactReadVeneerUptoCardSaid : Prop := Claim7.holds Tryd.pinned (.plain (OpenSpec.upto fnExactReadVeneerSpec)) fnExactReadVeneerUptoCard

/-- THE SECOND FORM's CARD OF 'laws.FnVeneers'. -/
def fnVeneersUptoCard : Claim7 := { stood := { row := fnVeneersUptoRow, standIns := [], harness := (true, "2439e0cf89204e65e1d15ca050c045413a8dda20e38d70268cddaaad71386545"), looks := true }, kinds := [], alts := [], laidByText := true, laidKinds := [.data, .data, .data, .data, .sentinel, .sentinel, .data, .pinned], laidTests := true, laidLooks := .later }
def FnVeneersUptoCardSaid : Prop := Claim7.holds Tryd.pinned (.plain (OpenSpec.upto fnVeneersSpec)) fnVeneersUptoCard
end Rows
end Go.Proofs.YthjimogeimigmaaDoor
