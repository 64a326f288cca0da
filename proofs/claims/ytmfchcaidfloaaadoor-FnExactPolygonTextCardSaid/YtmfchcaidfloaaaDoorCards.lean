/-
  DERIVED. GIVEN WITH THE SEED: THE CARDS: each row of YtmfchcaidfloaaaDoorRows.lean that lists a variable, with what it lists TIED to the program's text (the seventh form; the later family's looks); each row that meets fmt, with fmt's text TOLD by the authors' own Lean function (tested against real Go, not proved from fmt's source: count such statements apart). THE CARD IS WHAT COUNTS. Prove the row's statement (the work); the ties are given (YtmfchcaidfloaaaDoorTie.lean); close each card by the builder's one call (the guide's Derived/Test/ToyasCard.lean, 'card_holds'). Laid BY PROGRAM, IN A SANDBOX (cutbox-door.mjs). By AI agents, Wed Nov 11 2026. No macro, syntax, notation, axiom, sorry.
-/
import Derived.Test.YtmfchcaidfloaaaDoorRows
import GoSem.ClaimSeven
namespace Go.Proofs.YtmfchcaidfloaaaDoor
namespace Rows

/-- THE TIED CARD OF 'laws.FnExactPlacementText'. -/
def fnExactPlacementTextCard : Claim7 := { stood := { row := fnExactPlacementTextRow, standIns := [], harness := (true, "8c99aac403860005ee41603e905378e44e04375adefa0521c430ca49d47eda58"), looks := true }, kinds := [], alts := [], laidByText := true, laidKinds := [.data, .data, .data], laidTests := true, laidLooks := .later }
def FnExactPlacementTextCardSaid : Prop := Claim7.holds Tryd.pinned (.plain (OpenSpec.ofChange fnExactPlacementTextSpec)) fnExactPlacementTextCard

/-- THE TIED CARD OF 'laws.FnExactReadPlacement'. -/
def fnExactReadPlacementCard : Claim7 := { stood := { row := fnExactReadPlacementRow, standIns := [], harness := (true, "8c99aac403860005ee41603e905378e44e04375adefa0521c430ca49d47eda58"), looks := true }, kinds := [], alts := [], laidByText := true, laidKinds := [.data, .data, .data, .data, .sentinel, .sentinel, .pinned], laidTests := true, laidLooks := .later }
def FnExactReadPlacementCardSaid : Prop := Claim7.holds Tryd.pinned (.plain (OpenSpec.ofChange fnExactReadPlacementSpec)) fnExactReadPlacementCard

/-- THE TIED CARD OF 'laws.FnExactVeneerFault'. -/
def fnExactVeneerFaultCard : Claim7 := { stood := { row := fnExactVeneerFaultRow, standIns := [], harness := (true, "8c99aac403860005ee41603e905378e44e04375adefa0521c430ca49d47eda58"), looks := true }, kinds := [], alts := [], laidByText := true, laidKinds := [.data, .sentinel, .sentinel, .sentinel, .sentinel, .sentinel], laidTests := true, laidLooks := .later }
def FnExactVeneerFaultCardSaid : Prop := Claim7.holds Tryd.pinned (.plain (OpenSpec.ofChange fnExactVeneerFaultSpec)) fnExactVeneerFaultCard

/-- THE TIED CARD OF 'laws.FnExactPolygonText'. -/
def fnExactPolygonTextCard : Claim7 := { stood := { row := fnExactPolygonTextRow, standIns := [], harness := (true, "8c99aac403860005ee41603e905378e44e04375adefa0521c430ca49d47eda58"), looks := true }, kinds := [], alts := [], laidByText := true, laidKinds := [.data, .data, .data], laidTests := true, laidLooks := .later }
def FnExactPolygonTextCardSaid : Prop := Claim7.holds Tryd.pinned (.plain (OpenSpec.ofChange fnExactPolygonTextSpec)) fnExactPolygonTextCard

/-- THE SECOND FORM's CARD OF 'laws.FnExactPlacementText'. -/
def fnExactPlacementTextUptoCard : Claim7 := { stood := { row := fnExactPlacementTextUptoRow, standIns := [], harness := (true, "8c99aac403860005ee41603e905378e44e04375adefa0521c430ca49d47eda58"), looks := true }, kinds := [], alts := [], laidByText := true, laidKinds := [.data, .data, .data], laidTests := true, laidLooks := .later }
def FnExactPlacementTextUptoCardSaid : Prop := Claim7.holds Tryd.pinned (.plain (OpenSpec.upto fnExactPlacementTextSpec)) fnExactPlacementTextUptoCard

/-- THE SECOND FORM's CARD OF 'laws.FnExactReadPlacement'. -/
def fnExactReadPlacementUptoCard : Claim7 := { stood := { row := fnExactReadPlacementUptoRow, standIns := [], harness := (true, "8c99aac403860005ee41603e905378e44e04375adefa0521c430ca49d47eda58"), looks := true }, kinds := [], alts := [], laidByText := true, laidKinds := [.data, .data, .data, .data, .sentinel, .sentinel, .pinned], laidTests := true, laidLooks := .later }
def FnExactReadPlacementUptoCardSaid : Prop := Claim7.holds Tryd.pinned (.plain (OpenSpec.upto fnExactReadPlacementSpec)) fnExactReadPlacementUptoCard

/-- THE SECOND FORM's CARD OF 'laws.FnExactVeneerFault'. -/
def fnExactVeneerFaultUptoCard : Claim7 := { stood := { row := fnExactVeneerFaultUptoRow, standIns := [], harness := (true, "8c99aac403860005ee41603e905378e44e04375adefa0521c430ca49d47eda58"), looks := true }, kinds := [], alts := [], laidByText := true, laidKinds := [.data, .sentinel, .sentinel, .sentinel, .sentinel, .sentinel], laidTests := true, laidLooks := .later }
def FnExactVeneerFaultUptoCardSaid : Prop := Claim7.holds Tryd.pinned (.plain (OpenSpec.upto fnExactVeneerFaultSpec)) fnExactVeneerFaultUptoCard

/-- THE SECOND FORM's CARD OF 'laws.FnExactPolygonText'. -/
def fnExactPolygonTextUptoCard : Claim7 := { stood := { row := fnExactPolygonTextUptoRow, standIns := [], harness := (true, "8c99aac403860005ee41603e905378e44e04375adefa0521c430ca49d47eda58"), looks := true }, kinds := [], alts := [], laidByText := true, laidKinds := [.data, .data, .data], laidTests := true, laidLooks := .later }
def FnExactPolygonTextUptoCardSaid : Prop := Claim7.holds Tryd.pinned (.plain (OpenSpec.upto fnExactPolygonTextSpec)) fnExactPolygonTextUptoCard
end Rows
end Go.Proofs.YtmfchcaidfloaaaDoor
