/-
  No cell of these rows narrows 'for every input' (looked for: loops, veiled, ifaces, maps, wideKeys, modest, calm, conditions, laid).
  DERIVED. THE GIVEN ROWS OF THIS SEAT. 13 by the template 'for every input the law returns true; each argument reads behind the call as it read before'; 0 by the template 'total and deterministic' (their statements: YtfaahcbdglbcjaaTotals.lean).
  GIVEN WITH THE SEED: the statements are not yours to turn. If you find one false, say at which input.
  Laid BY PROGRAM, IN A SANDBOX (cutbox-rows.mjs): the forced cells as the released guide's own fill.sh prints them over the translation cf4d751bc4a4a1bf… (all of the seat's roots in one cut). By AI agents, Wed Nov 11 2026. No macro, syntax, notation, axiom, sorry.
-/
import Derived.Test.YtfaahcbdglbcjaaChecked
import GoSem.Claim
import GoSem.ClaimJoined
import GoSem.ClaimMapViews
import Derived.JoinedTies
import Derived.KernelRfl
namespace Go.Proofs.Ytfaahcbdglbcjaa
/- THE CELL 'sum', in the pinned program and in every row, IS THE sha256 OF THE DUMP (.gsa) THAT YtfaahcbdglbcjaaProg.lean LOADS. Nothing in Lean hashes anything: it is a label: what it is worth is what the hold of that sum in a sandbox is worth. -/
noncomputable def Try.pinned : Pinned := { name := "ytfaahcbdglbcjaa", sum := "cf4d751bc4a4a1bf2e0a15ff7a760a022971d8896ddf701e191eca25d7eb96ec", checked := Try.checked }
namespace Rows
def none {H : Type} : Left H := { results := [], args := [] }

/-- 'laws.FnSegments': WHATEVER THE INPUT: true; the input reads as it did. -/
def fnSegmentsSpec : ChangeSpec := { name := "fnSegments", fn := fun _ => fun
  | [d1, d2] => { results := [.lit (.bool true)], args := [d1, d2] }
  | _ => none }
def fnSegmentsRow : OpenClaim := { program := "ytfaahcbdglbcjaa", sum := "cf4d751bc4a4a1bf2e0a15ff7a760a022971d8896ddf701e191eca25d7eb96ec", func := "loop.example/g00956/laws.FnSegments", spec := "fnSegments", unfollowed := true, recurses := true, apart := false }
def FnSegmentsSaid : Prop := fnSegmentsRow.holds Try.pinned (OpenSpec.ofChange fnSegmentsSpec)

/-- ITS FALSE NEIGHBOUR: 'it returns false'. Refute it at one input. -/
def fnSegmentsWrong : ChangeSpec := { name := "fnSegments", fn := fun _ => fun
  | [d1, d2] => { results := [.lit (.bool false)], args := [d1, d2] }
  | _ => none }
def FnSegmentsWrongFalsely : Prop := fnSegmentsRow.holds Try.pinned (OpenSpec.ofChange fnSegmentsWrong)

/-- 'laws.FnExactValidPoint': WHATEVER THE INPUT: true; the input reads as it did. -/
def fnExactValidPointSpec : ChangeSpec := { name := "fnExactValidPoint", fn := fun _ => fun
  | [d] => { results := [.lit (.bool true)], args := [d] }
  | _ => none }
def fnExactValidPointRow : OpenClaim := { program := "ytfaahcbdglbcjaa", sum := "cf4d751bc4a4a1bf2e0a15ff7a760a022971d8896ddf701e191eca25d7eb96ec", func := "loop.example/g00956/laws.FnExactValidPoint", spec := "fnExactValidPoint", apart := false }
def FnExactValidPointSaid : Prop := fnExactValidPointRow.holds Try.pinned (OpenSpec.ofChange fnExactValidPointSpec)

/-- ITS FALSE NEIGHBOUR: 'it returns false'. Refute it at one input. -/
def fnExactValidPointWrong : ChangeSpec := { name := "fnExactValidPoint", fn := fun _ => fun
  | [d] => { results := [.lit (.bool false)], args := [d] }
  | _ => none }
def FnExactValidPointWrongFalsely : Prop := fnExactValidPointRow.holds Try.pinned (OpenSpec.ofChange fnExactValidPointWrong)

/-- 'laws.FnExactSideOf': WHATEVER THE INPUT: true; the input reads as it did. -/
def fnExactSideOfSpec : ChangeSpec := { name := "fnExactSideOf", fn := fun _ => fun
  | [d1, d2, d3] => { results := [.lit (.bool true)], args := [d1, d2, d3] }
  | _ => none }
def fnExactSideOfRow : OpenClaim := { program := "ytfaahcbdglbcjaa", sum := "cf4d751bc4a4a1bf2e0a15ff7a760a022971d8896ddf701e191eca25d7eb96ec", func := "loop.example/g00956/laws.FnExactSideOf", spec := "fnExactSideOf", apart := false }
def FnExactSideOfSaid : Prop := fnExactSideOfRow.holds Try.pinned (OpenSpec.ofChange fnExactSideOfSpec)

/-- ITS FALSE NEIGHBOUR: 'it returns false'. Refute it at one input. -/
def fnExactSideOfWrong : ChangeSpec := { name := "fnExactSideOf", fn := fun _ => fun
  | [d1, d2, d3] => { results := [.lit (.bool false)], args := [d1, d2, d3] }
  | _ => none }
def FnExactSideOfWrongFalsely : Prop := fnExactSideOfRow.holds Try.pinned (OpenSpec.ofChange fnExactSideOfWrong)

/-- 'laws.FnExactOnSegment': WHATEVER THE INPUT: true; the input reads as it did. -/
def fnExactOnSegmentSpec : ChangeSpec := { name := "fnExactOnSegment", fn := fun _ => fun
  | [d1, d2, d3] => { results := [.lit (.bool true)], args := [d1, d2, d3] }
  | _ => none }
def fnExactOnSegmentRow : OpenClaim := { program := "ytfaahcbdglbcjaa", sum := "cf4d751bc4a4a1bf2e0a15ff7a760a022971d8896ddf701e191eca25d7eb96ec", func := "loop.example/g00956/laws.FnExactOnSegment", spec := "fnExactOnSegment", apart := false }
def FnExactOnSegmentSaid : Prop := fnExactOnSegmentRow.holds Try.pinned (OpenSpec.ofChange fnExactOnSegmentSpec)

/-- ITS FALSE NEIGHBOUR: 'it returns false'. Refute it at one input. -/
def fnExactOnSegmentWrong : ChangeSpec := { name := "fnExactOnSegment", fn := fun _ => fun
  | [d1, d2, d3] => { results := [.lit (.bool false)], args := [d1, d2, d3] }
  | _ => none }
def FnExactOnSegmentWrongFalsely : Prop := fnExactOnSegmentRow.holds Try.pinned (OpenSpec.ofChange fnExactOnSegmentWrong)

/-- 'laws.FnExactCrosses': WHATEVER THE INPUT: true; the input reads as it did. -/
def fnExactCrossesSpec : ChangeSpec := { name := "fnExactCrosses", fn := fun _ => fun
  | [d1, d2, d3, d4] => { results := [.lit (.bool true)], args := [d1, d2, d3, d4] }
  | _ => none }
def fnExactCrossesRow : OpenClaim := { program := "ytfaahcbdglbcjaa", sum := "cf4d751bc4a4a1bf2e0a15ff7a760a022971d8896ddf701e191eca25d7eb96ec", func := "loop.example/g00956/laws.FnExactCrosses", spec := "fnExactCrosses", apart := false }
def FnExactCrossesSaid : Prop := fnExactCrossesRow.holds Try.pinned (OpenSpec.ofChange fnExactCrossesSpec)

/-- ITS FALSE NEIGHBOUR: 'it returns false'. Refute it at one input. -/
def fnExactCrossesWrong : ChangeSpec := { name := "fnExactCrosses", fn := fun _ => fun
  | [d1, d2, d3, d4] => { results := [.lit (.bool false)], args := [d1, d2, d3, d4] }
  | _ => none }
def FnExactCrossesWrongFalsely : Prop := fnExactCrossesRow.holds Try.pinned (OpenSpec.ofChange fnExactCrossesWrong)

/-- 'laws.FnExactTouches': WHATEVER THE INPUT: true; the input reads as it did. -/
def fnExactTouchesSpec : ChangeSpec := { name := "fnExactTouches", fn := fun _ => fun
  | [d1, d2, d3, d4] => { results := [.lit (.bool true)], args := [d1, d2, d3, d4] }
  | _ => none }
def fnExactTouchesRow : OpenClaim := { program := "ytfaahcbdglbcjaa", sum := "cf4d751bc4a4a1bf2e0a15ff7a760a022971d8896ddf701e191eca25d7eb96ec", func := "loop.example/g00956/laws.FnExactTouches", spec := "fnExactTouches", unfollowed := true, recurses := true, apart := false }
def FnExactTouchesSaid : Prop := fnExactTouchesRow.holds Try.pinned (OpenSpec.ofChange fnExactTouchesSpec)

/-- ITS FALSE NEIGHBOUR: 'it returns false'. Refute it at one input. -/
def fnExactTouchesWrong : ChangeSpec := { name := "fnExactTouches", fn := fun _ => fun
  | [d1, d2, d3, d4] => { results := [.lit (.bool false)], args := [d1, d2, d3, d4] }
  | _ => none }
def FnExactTouchesWrongFalsely : Prop := fnExactTouchesRow.holds Try.pinned (OpenSpec.ofChange fnExactTouchesWrong)

/-- 'laws.FnExactDistance': WHATEVER THE INPUT: true; the input reads as it did. -/
def fnExactDistanceSpec : ChangeSpec := { name := "fnExactDistance", fn := fun _ => fun
  | [d1, d2] => { results := [.lit (.bool true)], args := [d1, d2] }
  | _ => none }
def fnExactDistanceRow : OpenClaim := { program := "ytfaahcbdglbcjaa", sum := "cf4d751bc4a4a1bf2e0a15ff7a760a022971d8896ddf701e191eca25d7eb96ec", func := "loop.example/g00956/laws.FnExactDistance", spec := "fnExactDistance", apart := false }
def FnExactDistanceSaid : Prop := fnExactDistanceRow.holds Try.pinned (OpenSpec.ofChange fnExactDistanceSpec)

/-- ITS FALSE NEIGHBOUR: 'it returns false'. Refute it at one input. -/
def fnExactDistanceWrong : ChangeSpec := { name := "fnExactDistance", fn := fun _ => fun
  | [d1, d2] => { results := [.lit (.bool false)], args := [d1, d2] }
  | _ => none }
def FnExactDistanceWrongFalsely : Prop := fnExactDistanceRow.holds Try.pinned (OpenSpec.ofChange fnExactDistanceWrong)

/-- 'laws.FnExactDistanceToSegment': WHATEVER THE INPUT: true; the input reads as it did. -/
def fnExactDistanceToSegmentSpec : ChangeSpec := { name := "fnExactDistanceToSegment", fn := fun _ => fun
  | [d1, d2, d3] => { results := [.lit (.bool true)], args := [d1, d2, d3] }
  | _ => none }
def fnExactDistanceToSegmentRow : OpenClaim := { program := "ytfaahcbdglbcjaa", sum := "cf4d751bc4a4a1bf2e0a15ff7a760a022971d8896ddf701e191eca25d7eb96ec", func := "loop.example/g00956/laws.FnExactDistanceToSegment", spec := "fnExactDistanceToSegment", apart := false }
def FnExactDistanceToSegmentSaid : Prop := fnExactDistanceToSegmentRow.holds Try.pinned (OpenSpec.ofChange fnExactDistanceToSegmentSpec)

/-- ITS FALSE NEIGHBOUR: 'it returns false'. Refute it at one input. -/
def fnExactDistanceToSegmentWrong : ChangeSpec := { name := "fnExactDistanceToSegment", fn := fun _ => fun
  | [d1, d2, d3] => { results := [.lit (.bool false)], args := [d1, d2, d3] }
  | _ => none }
def FnExactDistanceToSegmentWrongFalsely : Prop := fnExactDistanceToSegmentRow.holds Try.pinned (OpenSpec.ofChange fnExactDistanceToSegmentWrong)

/-- 'laws.FnExactSegmentDistance': WHATEVER THE INPUT: true; the input reads as it did. -/
def fnExactSegmentDistanceSpec : ChangeSpec := { name := "fnExactSegmentDistance", fn := fun _ => fun
  | [d1, d2, d3, d4] => { results := [.lit (.bool true)], args := [d1, d2, d3, d4] }
  | _ => none }
def fnExactSegmentDistanceRow : OpenClaim := { program := "ytfaahcbdglbcjaa", sum := "cf4d751bc4a4a1bf2e0a15ff7a760a022971d8896ddf701e191eca25d7eb96ec", func := "loop.example/g00956/laws.FnExactSegmentDistance", spec := "fnExactSegmentDistance", unfollowed := true, recurses := true, apart := false }
def FnExactSegmentDistanceSaid : Prop := fnExactSegmentDistanceRow.holds Try.pinned (OpenSpec.ofChange fnExactSegmentDistanceSpec)

/-- ITS FALSE NEIGHBOUR: 'it returns false'. Refute it at one input. -/
def fnExactSegmentDistanceWrong : ChangeSpec := { name := "fnExactSegmentDistance", fn := fun _ => fun
  | [d1, d2, d3, d4] => { results := [.lit (.bool false)], args := [d1, d2, d3, d4] }
  | _ => none }
def FnExactSegmentDistanceWrongFalsely : Prop := fnExactSegmentDistanceRow.holds Try.pinned (OpenSpec.ofChange fnExactSegmentDistanceWrong)

/-- 'laws.FnExactCrossPoint': WHATEVER THE INPUT: true; the input reads as it did. -/
def fnExactCrossPointSpec : ChangeSpec := { name := "fnExactCrossPoint", fn := fun _ => fun
  | [d1, d2, d3, d4] => { results := [.lit (.bool true)], args := [d1, d2, d3, d4] }
  | _ => none }
def fnExactCrossPointRow : OpenClaim := { program := "ytfaahcbdglbcjaa", sum := "cf4d751bc4a4a1bf2e0a15ff7a760a022971d8896ddf701e191eca25d7eb96ec", func := "loop.example/g00956/laws.FnExactCrossPoint", spec := "fnExactCrossPoint", apart := false }
def FnExactCrossPointSaid : Prop := fnExactCrossPointRow.holds Try.pinned (OpenSpec.ofChange fnExactCrossPointSpec)

/-- ITS FALSE NEIGHBOUR: 'it returns false'. Refute it at one input. -/
def fnExactCrossPointWrong : ChangeSpec := { name := "fnExactCrossPoint", fn := fun _ => fun
  | [d1, d2, d3, d4] => { results := [.lit (.bool false)], args := [d1, d2, d3, d4] }
  | _ => none }
def FnExactCrossPointWrongFalsely : Prop := fnExactCrossPointRow.holds Try.pinned (OpenSpec.ofChange fnExactCrossPointWrong)

/-- 'laws.FnExactTurned': WHATEVER THE INPUT: true; the input reads as it did. -/
def fnExactTurnedSpec : ChangeSpec := { name := "fnExactTurned", fn := fun _ => fun
  | [d1, d2] => { results := [.lit (.bool true)], args := [d1, d2] }
  | _ => none }
def fnExactTurnedRow : OpenClaim := { program := "ytfaahcbdglbcjaa", sum := "cf4d751bc4a4a1bf2e0a15ff7a760a022971d8896ddf701e191eca25d7eb96ec", func := "loop.example/g00956/laws.FnExactTurned", spec := "fnExactTurned", apart := false }
def FnExactTurnedSaid : Prop := fnExactTurnedRow.holds Try.pinned (OpenSpec.ofChange fnExactTurnedSpec)

/-- ITS FALSE NEIGHBOUR: 'it returns false'. Refute it at one input. -/
def fnExactTurnedWrong : ChangeSpec := { name := "fnExactTurned", fn := fun _ => fun
  | [d1, d2] => { results := [.lit (.bool false)], args := [d1, d2] }
  | _ => none }
def FnExactTurnedWrongFalsely : Prop := fnExactTurnedRow.holds Try.pinned (OpenSpec.ofChange fnExactTurnedWrong)

/-- 'laws.FnExactInverseTurn': WHATEVER THE INPUT: true; the input reads as it did. -/
def fnExactInverseTurnSpec : ChangeSpec := { name := "fnExactInverseTurn", fn := fun _ => fun
  | [d] => { results := [.lit (.bool true)], args := [d] }
  | _ => none }
def fnExactInverseTurnRow : OpenClaim := { program := "ytfaahcbdglbcjaa", sum := "cf4d751bc4a4a1bf2e0a15ff7a760a022971d8896ddf701e191eca25d7eb96ec", func := "loop.example/g00956/laws.FnExactInverseTurn", spec := "fnExactInverseTurn", unfollowed := true, recurses := true, apart := false }
def FnExactInverseTurnSaid : Prop := fnExactInverseTurnRow.holds Try.pinned (OpenSpec.ofChange fnExactInverseTurnSpec)

/-- ITS FALSE NEIGHBOUR: 'it returns false'. Refute it at one input. -/
def fnExactInverseTurnWrong : ChangeSpec := { name := "fnExactInverseTurn", fn := fun _ => fun
  | [d] => { results := [.lit (.bool false)], args := [d] }
  | _ => none }
def FnExactInverseTurnWrongFalsely : Prop := fnExactInverseTurnRow.holds Try.pinned (OpenSpec.ofChange fnExactInverseTurnWrong)

/-- 'laws.FnExactComposeTurns': WHATEVER THE INPUT: true; the input reads as it did. -/
def fnExactComposeTurnsSpec : ChangeSpec := { name := "fnExactComposeTurns", fn := fun _ => fun
  | [d1, d2] => { results := [.lit (.bool true)], args := [d1, d2] }
  | _ => none }
def fnExactComposeTurnsRow : OpenClaim := { program := "ytfaahcbdglbcjaa", sum := "cf4d751bc4a4a1bf2e0a15ff7a760a022971d8896ddf701e191eca25d7eb96ec", func := "loop.example/g00956/laws.FnExactComposeTurns", spec := "fnExactComposeTurns", unfollowed := true, recurses := true, apart := false }
def FnExactComposeTurnsSaid : Prop := fnExactComposeTurnsRow.holds Try.pinned (OpenSpec.ofChange fnExactComposeTurnsSpec)

/-- ITS FALSE NEIGHBOUR: 'it returns false'. Refute it at one input. -/
def fnExactComposeTurnsWrong : ChangeSpec := { name := "fnExactComposeTurns", fn := fun _ => fun
  | [d1, d2] => { results := [.lit (.bool false)], args := [d1, d2] }
  | _ => none }
def FnExactComposeTurnsWrongFalsely : Prop := fnExactComposeTurnsRow.holds Try.pinned (OpenSpec.ofChange fnExactComposeTurnsWrong)

/- THE SECOND FORM. 'bulk': how many values and letters a reading holds, each counted each time it is reached (what is shared counts as often as it is met; a slice's spare places count too). A statement '..UptoSaid' is the law's where the arguments, and the package variables that the reading takes, are together of bulk at most 1048576: NARROWER than '..Said'. Prove '..Said' where nothing that the law and all that it calls make is longer than what came in: it says more and counts as full. Else prove '..UptoSaid'. A law counts once. -/
mutual
def uptoBulk {H : Type} : DataW H → Nat
  | .lit (.string bytes) => bytes.length + 1
  | .lit _ => 1
  | .nil => 1
  | .ptr d => uptoBulk d + 1
  | .slice elems spare => uptoBulkAll elems + uptoBulkAll spare + 1
  | .agg parts => uptoBulkAll parts + 1
  | .iface _ d => uptoBulk d + 1
  | .map entries => uptoBulkEntries entries + 1
  | .held _ => 1
def uptoBulkAll {H : Type} : List (DataW H) → Nat
  | [] => 0
  | d :: r => uptoBulk d + uptoBulkAll r
def uptoBulkEntries {H : Type} : List (Lit × DataW H) → Nat
  | [] => 0
  | x :: r => uptoBulkEntry x + uptoBulkEntries r
def uptoBulkEntry {H : Type} : Lit × DataW H → Nat
  | (.string bytes, d) => bytes.length + uptoBulk d + 1
  | (_, d) => uptoBulk d + 1
 end
def uptoSmall : (H : Type) → List (DataW H) → Bool := fun _ ds => decide (uptoBulkAll ds ≤ 1048576)
def OpenSpec.upto (s : _root_.Go.ChangeSpec) : _root_.Go.OpenSpec := { _root_.Go.OpenSpec.ofChange s with cond := some uptoSmall }

/-- 'laws.FnSegments', WHERE WHAT IT READS IS OF BULK AT MOST 1048576: true; the input reads as it did. -/
def fnSegmentsUptoRow : OpenClaim := { program := "ytfaahcbdglbcjaa", sum := "cf4d751bc4a4a1bf2e0a15ff7a760a022971d8896ddf701e191eca25d7eb96ec", func := "loop.example/g00956/laws.FnSegments", spec := "fnSegments", unfollowed := true, recurses := true, apart := false, narrowed := true }
def FnSegmentsUptoSaid : Prop := fnSegmentsUptoRow.holds Try.pinned (OpenSpec.upto fnSegmentsSpec)

/-- 'laws.FnExactValidPoint', WHERE WHAT IT READS IS OF BULK AT MOST 1048576: true; the input reads as it did. -/
def fnExactValidPointUptoRow : OpenClaim := { program := "ytfaahcbdglbcjaa", sum := "cf4d751bc4a4a1bf2e0a15ff7a760a022971d8896ddf701e191eca25d7eb96ec", func := "loop.example/g00956/laws.FnExactValidPoint", spec := "fnExactValidPoint", apart := false, narrowed := true }
def FnExactValidPointUptoSaid : Prop := fnExactValidPointUptoRow.holds Try.pinned (OpenSpec.upto fnExactValidPointSpec)

/-- 'laws.FnExactSideOf', WHERE WHAT IT READS IS OF BULK AT MOST 1048576: true; the input reads as it did. -/
def fnExactSideOfUptoRow : OpenClaim := { program := "ytfaahcbdglbcjaa", sum := "cf4d751bc4a4a1bf2e0a15ff7a760a022971d8896ddf701e191eca25d7eb96ec", func := "loop.example/g00956/laws.FnExactSideOf", spec := "fnExactSideOf", apart := false, narrowed := true }
def FnExactSideOfUptoSaid : Prop := fnExactSideOfUptoRow.holds Try.pinned (OpenSpec.upto fnExactSideOfSpec)

/-- 'laws.FnExactOnSegment', WHERE WHAT IT READS IS OF BULK AT MOST 1048576: true; the input reads as it did. -/
def fnExactOnSegmentUptoRow : OpenClaim := { program := "ytfaahcbdglbcjaa", sum := "cf4d751bc4a4a1bf2e0a15ff7a760a022971d8896ddf701e191eca25d7eb96ec", func := "loop.example/g00956/laws.FnExactOnSegment", spec := "fnExactOnSegment", apart := false, narrowed := true }
def FnExactOnSegmentUptoSaid : Prop := fnExactOnSegmentUptoRow.holds Try.pinned (OpenSpec.upto fnExactOnSegmentSpec)

/-- 'laws.FnExactCrosses', WHERE WHAT IT READS IS OF BULK AT MOST 1048576: true; the input reads as it did. -/
def fnExactCrossesUptoRow : OpenClaim := { program := "ytfaahcbdglbcjaa", sum := "cf4d751bc4a4a1bf2e0a15ff7a760a022971d8896ddf701e191eca25d7eb96ec", func := "loop.example/g00956/laws.FnExactCrosses", spec := "fnExactCrosses", apart := false, narrowed := true }
def FnExactCrossesUptoSaid : Prop := fnExactCrossesUptoRow.holds Try.pinned (OpenSpec.upto fnExactCrossesSpec)

/-- 'laws.FnExactTouches', WHERE WHAT IT READS IS OF BULK AT MOST 1048576: true; the input reads as it did. -/
def fnExactTouchesUptoRow : OpenClaim := { program := "ytfaahcbdglbcjaa", sum := "cf4d751bc4a4a1bf2e0a15ff7a760a022971d8896ddf701e191eca25d7eb96ec", func := "loop.example/g00956/laws.FnExactTouches", spec := "fnExactTouches", unfollowed := true, recurses := true, apart := false, narrowed := true }
def FnExactTouchesUptoSaid : Prop := fnExactTouchesUptoRow.holds Try.pinned (OpenSpec.upto fnExactTouchesSpec)

/-- 'laws.FnExactDistance', WHERE WHAT IT READS IS OF BULK AT MOST 1048576: true; the input reads as it did. -/
def fnExactDistanceUptoRow : OpenClaim := { program := "ytfaahcbdglbcjaa", sum := "cf4d751bc4a4a1bf2e0a15ff7a760a022971d8896ddf701e191eca25d7eb96ec", func := "loop.example/g00956/laws.FnExactDistance", spec := "fnExactDistance", apart := false, narrowed := true }
def FnExactDistanceUptoSaid : Prop := fnExactDistanceUptoRow.holds Try.pinned (OpenSpec.upto fnExactDistanceSpec)

/-- 'laws.FnExactDistanceToSegment', WHERE WHAT IT READS IS OF BULK AT MOST 1048576: true; the input reads as it did. -/
def fnExactDistanceToSegmentUptoRow : OpenClaim := { program := "ytfaahcbdglbcjaa", sum := "cf4d751bc4a4a1bf2e0a15ff7a760a022971d8896ddf701e191eca25d7eb96ec", func := "loop.example/g00956/laws.FnExactDistanceToSegment", spec := "fnExactDistanceToSegment", apart := false, narrowed := true }
def FnExactDistanceToSegmentUptoSaid : Prop := fnExactDistanceToSegmentUptoRow.holds Try.pinned (OpenSpec.upto fnExactDistanceToSegmentSpec)

/-- 'laws.FnExactSegmentDistance', WHERE WHAT IT READS IS OF BULK AT MOST 1048576: true; the input reads as it did. -/
def fnExactSegmentDistanceUptoRow : OpenClaim := { program := "ytfaahcbdglbcjaa", sum := "cf4d751bc4a4a1bf2e0a15ff7a760a022971d8896ddf701e191eca25d7eb96ec", func := "loop.example/g00956/laws.FnExactSegmentDistance", spec := "fnExactSegmentDistance", unfollowed := true, recurses := true, apart := false, narrowed := true }
def FnExactSegmentDistanceUptoSaid : Prop := fnExactSegmentDistanceUptoRow.holds Try.pinned (OpenSpec.upto fnExactSegmentDistanceSpec)

/-- 'laws.FnExactCrossPoint', WHERE WHAT IT READS IS OF BULK AT MOST 1048576: true; the input reads as it did. -/
def fnExactCrossPointUptoRow : OpenClaim := { program := "ytfaahcbdglbcjaa", sum := "cf4d751bc4a4a1bf2e0a15ff7a760a022971d8896ddf701e191eca25d7eb96ec", func := "loop.example/g00956/laws.FnExactCrossPoint", spec := "fnExactCrossPoint", apart := false, narrowed := true }
def FnExactCrossPointUptoSaid : Prop := fnExactCrossPointUptoRow.holds Try.pinned (OpenSpec.upto fnExactCrossPointSpec)

/-- 'laws.FnExactTurned', WHERE WHAT IT READS IS OF BULK AT MOST 1048576: true; the input reads as it did. -/
def fnExactTurnedUptoRow : OpenClaim := { program := "ytfaahcbdglbcjaa", sum := "cf4d751bc4a4a1bf2e0a15ff7a760a022971d8896ddf701e191eca25d7eb96ec", func := "loop.example/g00956/laws.FnExactTurned", spec := "fnExactTurned", apart := false, narrowed := true }
def FnExactTurnedUptoSaid : Prop := fnExactTurnedUptoRow.holds Try.pinned (OpenSpec.upto fnExactTurnedSpec)

/-- 'laws.FnExactInverseTurn', WHERE WHAT IT READS IS OF BULK AT MOST 1048576: true; the input reads as it did. -/
def fnExactInverseTurnUptoRow : OpenClaim := { program := "ytfaahcbdglbcjaa", sum := "cf4d751bc4a4a1bf2e0a15ff7a760a022971d8896ddf701e191eca25d7eb96ec", func := "loop.example/g00956/laws.FnExactInverseTurn", spec := "fnExactInverseTurn", unfollowed := true, recurses := true, apart := false, narrowed := true }
def FnExactInverseTurnUptoSaid : Prop := fnExactInverseTurnUptoRow.holds Try.pinned (OpenSpec.upto fnExactInverseTurnSpec)

/-- 'laws.FnExactComposeTurns', WHERE WHAT IT READS IS OF BULK AT MOST 1048576: true; the input reads as it did. -/
def fnExactComposeTurnsUptoRow : OpenClaim := { program := "ytfaahcbdglbcjaa", sum := "cf4d751bc4a4a1bf2e0a15ff7a760a022971d8896ddf701e191eca25d7eb96ec", func := "loop.example/g00956/laws.FnExactComposeTurns", spec := "fnExactComposeTurns", unfollowed := true, recurses := true, apart := false, narrowed := true }
def FnExactComposeTurnsUptoSaid : Prop := fnExactComposeTurnsUptoRow.holds Try.pinned (OpenSpec.upto fnExactComposeTurnsSpec)

end Rows
end Go.Proofs.Ytfaahcbdglbcjaa
