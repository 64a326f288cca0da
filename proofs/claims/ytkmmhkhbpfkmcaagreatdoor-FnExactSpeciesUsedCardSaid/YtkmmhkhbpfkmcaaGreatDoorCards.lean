/-
  DERIVED. GIVEN WITH THE SEED: THE CARDS: each row of YtkmmhkhbpfkmcaaGreatDoorRows.lean that lists a variable, with what it lists TIED to the program's text (the seventh form; the later family's looks); each row that meets fmt, with fmt's text TOLD by the authors' own Lean function (tested against real Go, not proved from fmt's source: count such statements apart). THE CARD IS WHAT COUNTS. Prove the row's statement (the work); the ties are given (YtkmmhkhbpfkmcaaGreatDoorTie.lean); close each card by the builder's one call (the guide's Derived/Test/ToyasCard.lean, 'card_holds'). Laid BY PROGRAM, IN A SANDBOX (cutbox-door.mjs). By AI agents, Wed Nov 11 2026. No macro, syntax, notation, axiom, sorry.
-/
import Derived.Test.YtkmmhkhbpfkmcaaGreatDoorRows
import GoSem.ClaimSeven
namespace Go.Proofs.YtkmmhkhbpfkmcaaGreatDoor
namespace Rows

/-- THE TIED CARD OF 'laws.FnExactValidPicture'. -/
def fnExactValidPictureCard : Claim7 := { stood := { row := fnExactValidPictureRow, standIns := [], harness := (true, "5038ffe1d1418d796706dae12f2483f8b9d19214f635eee8324baf4c507059ee"), looks := false }, kinds := [], alts := [], laidByText := true, laidKinds := [.data], laidTests := true, laidLooks := .later }
def FnExactValidPictureCardSaid : Prop := Claim7.holds Tryz.pinned (.plain (OpenSpec.ofChange fnExactValidPictureSpec)) fnExactValidPictureCard

/-- THE TIED CARD OF 'laws.FnExactSpeciesUsed'. -/
def fnExactSpeciesUsedCard : Claim7 := { stood := { row := fnExactSpeciesUsedRow, standIns := [], harness := (true, "5038ffe1d1418d796706dae12f2483f8b9d19214f635eee8324baf4c507059ee"), looks := false }, kinds := [], alts := [], laidByText := true, laidKinds := [.data], laidTests := true, laidLooks := .later }
def FnExactSpeciesUsedCardSaid : Prop := Claim7.holds Tryz.pinned (.plain (OpenSpec.ofChange fnExactSpeciesUsedSpec)) fnExactSpeciesUsedCard

/-- THE TIED CARD OF 'laws.FnExactPictureShade'. -/
def fnExactPictureShadeCard : Claim7 := { stood := { row := fnExactPictureShadeRow, standIns := [], harness := (true, "5038ffe1d1418d796706dae12f2483f8b9d19214f635eee8324baf4c507059ee"), looks := false }, kinds := [], alts := [], laidByText := true, laidKinds := [.data], laidTests := true, laidLooks := .later }
def FnExactPictureShadeCardSaid : Prop := Claim7.holds Tryz.pinned (.plain (OpenSpec.ofChange fnExactPictureShadeSpec)) fnExactPictureShadeCard

/-- THE TIED CARD OF 'laws.FnExactRecolor'. -/
def fnExactRecolorCard : Claim7 := { stood := { row := fnExactRecolorRow, standIns := [], harness := (true, "5038ffe1d1418d796706dae12f2483f8b9d19214f635eee8324baf4c507059ee"), looks := false }, kinds := [], alts := [], laidByText := true, laidKinds := [.data], laidTests := true, laidLooks := .later }
def FnExactRecolorCardSaid : Prop := Claim7.holds Tryz.pinned (.plain (OpenSpec.ofChange fnExactRecolorSpec)) fnExactRecolorCard

/-- THE TIED CARD OF 'laws.FnExactTurnPicture'. -/
def fnExactTurnPictureCard : Claim7 := { stood := { row := fnExactTurnPictureRow, standIns := [], harness := (true, "5038ffe1d1418d796706dae12f2483f8b9d19214f635eee8324baf4c507059ee"), looks := false }, kinds := [], alts := [], laidByText := true, laidKinds := [.data], laidTests := true, laidLooks := .later }
def FnExactTurnPictureCardSaid : Prop := Claim7.holds Tryz.pinned (.plain (OpenSpec.ofChange fnExactTurnPictureSpec)) fnExactTurnPictureCard

/-- THE SECOND FORM's CARD OF 'laws.FnExactValidPicture'. -/
def fnExactValidPictureUptoCard : Claim7 := { stood := { row := fnExactValidPictureUptoRow, standIns := [], harness := (true, "5038ffe1d1418d796706dae12f2483f8b9d19214f635eee8324baf4c507059ee"), looks := false }, kinds := [], alts := [], laidByText := true, laidKinds := [.data], laidTests := true, laidLooks := .later }
def FnExactValidPictureUptoCardSaid : Prop := Claim7.holds Tryz.pinned (.plain (OpenSpec.upto fnExactValidPictureSpec)) fnExactValidPictureUptoCard

/-- THE SECOND FORM's CARD OF 'laws.FnExactSpeciesUsed'. -/
def fnExactSpeciesUsedUptoCard : Claim7 := { stood := { row := fnExactSpeciesUsedUptoRow, standIns := [], harness := (true, "5038ffe1d1418d796706dae12f2483f8b9d19214f635eee8324baf4c507059ee"), looks := false }, kinds := [], alts := [], laidByText := true, laidKinds := [.data], laidTests := true, laidLooks := .later }
def FnExactSpeciesUsedUptoCardSaid : Prop := Claim7.holds Tryz.pinned (.plain (OpenSpec.upto fnExactSpeciesUsedSpec)) fnExactSpeciesUsedUptoCard

/-- THE SECOND FORM's CARD OF 'laws.FnExactPictureShade'. -/
def fnExactPictureShadeUptoCard : Claim7 := { stood := { row := fnExactPictureShadeUptoRow, standIns := [], harness := (true, "5038ffe1d1418d796706dae12f2483f8b9d19214f635eee8324baf4c507059ee"), looks := false }, kinds := [], alts := [], laidByText := true, laidKinds := [.data], laidTests := true, laidLooks := .later }
def FnExactPictureShadeUptoCardSaid : Prop := Claim7.holds Tryz.pinned (.plain (OpenSpec.upto fnExactPictureShadeSpec)) fnExactPictureShadeUptoCard

/-- THE SECOND FORM's CARD OF 'laws.FnExactRecolor'. -/
def fnExactRecolorUptoCard : Claim7 := { stood := { row := fnExactRecolorUptoRow, standIns := [], harness := (true, "5038ffe1d1418d796706dae12f2483f8b9d19214f635eee8324baf4c507059ee"), looks := false }, kinds := [], alts := [], laidByText := true, laidKinds := [.data], laidTests := true, laidLooks := .later }
def FnExactRecolorUptoCardSaid : Prop := Claim7.holds Tryz.pinned (.plain (OpenSpec.upto fnExactRecolorSpec)) fnExactRecolorUptoCard

/-- THE SECOND FORM's CARD OF 'laws.FnExactTurnPicture'. -/
def fnExactTurnPictureUptoCard : Claim7 := { stood := { row := fnExactTurnPictureUptoRow, standIns := [], harness := (true, "5038ffe1d1418d796706dae12f2483f8b9d19214f635eee8324baf4c507059ee"), looks := false }, kinds := [], alts := [], laidByText := true, laidKinds := [.data], laidTests := true, laidLooks := .later }
def FnExactTurnPictureUptoCardSaid : Prop := Claim7.holds Tryz.pinned (.plain (OpenSpec.upto fnExactTurnPictureSpec)) fnExactTurnPictureUptoCard
end Rows
end Go.Proofs.YtkmmhkhbpfkmcaaGreatDoor
