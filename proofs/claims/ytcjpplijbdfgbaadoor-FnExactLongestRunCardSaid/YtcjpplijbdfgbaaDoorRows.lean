/-
  NARROWER THAN 'FOR EVERY INPUT', by the rows' own cells (each row's printed sentence says how): FnExactTrimLeaf: ifaces, laid · FnExactMirrorLeaf: laid · FnExactMatchScore: laid · FnExactBestMatch: ifaces, laid · FnExactIsSequence: laid · FnExactLongestRun: ifaces, laid · FnExactMissingNumbers: ifaces, laid · FnExactBookPairs: ifaces, laid.
  DERIVED. THE GIVEN ROWS OF THIS SEAT. 8 by the template 'for every input the law returns true; each argument reads behind the call as it read before'; 0 by the template 'total and deterministic' (their statements: YtcjpplijbdfgbaaDoorTotals.lean).
  GIVEN WITH THE SEED: the statements are not yours to turn. If you find one false, say at which input.
  Laid BY PROGRAM, IN A SANDBOX (cutbox-rows.mjs): the forced cells as the released guide's own fill.sh prints them over the translation 954275cf59591e3e… (all of the seat's roots in one cut). By AI agents, Wed Nov 11 2026. No macro, syntax, notation, axiom, sorry.
-/
import Derived.Test.YtcjpplijbdfgbaaDoorChecked
import GoSem.Claim
import GoSem.ClaimJoined
import GoSem.ClaimMapViews
import Derived.JoinedTies
import Derived.KernelRfl
namespace Go.Proofs.YtcjpplijbdfgbaaDoor
/- THE CELL 'sum', in the pinned program and in every row, IS THE sha256 OF THE DUMP (.gsa) THAT YtcjpplijbdfgbaaDoorProg.lean LOADS. Nothing in Lean hashes anything: it is a label: what it is worth is what the hold of that sum in a sandbox is worth. -/
noncomputable def Tryd.pinned : Pinned := { name := "ytcjpplijbdfgbaadoor", sum := "954275cf59591e3e54f9988e97859ed3575699eaada9054e914f6ce225e2b5a3", checked := Tryd.checked }
namespace Rows
def none {H : Type} : Left H := { results := [], args := [] }

/- WHAT THE LISTED PACKAGE-LEVEL VARIABLES READ AS WHEN THE CALL BEGINS. Each datum BY PROGRAM (the guide's laid-datum.mjs) off the statement by which the dump's own 'gosem.cut.vars' lays the variable. In a bare row this is a premise. The card (YtcjpplijbdfgbaaDoorCards.lean) ties it to the program's text. -/
def laid_loop_example_g00956_impl_speciesTable {H : Type} : DataW H := .agg [.agg [.lit (.string [97, 115, 104]), .lit (.int .i64 20), .lit (.int .i64 40), .lit (.int .i64 310)], .agg [.lit (.string [98, 101, 101, 99, 104]), .lit (.int .i64 35), .lit (.int .i64 45), .lit (.int .i64 410)], .agg [.lit (.string [98, 105, 114, 99, 104]), .lit (.int .i64 15), .lit (.int .i64 33), .lit (.int .i64 280)], .agg [.lit (.string [99, 104, 101, 114, 114, 121]), .lit (.int .i64 50), .lit (.int .i64 36), .lit (.int .i64 240)], .agg [.lit (.string [101, 98, 111, 110, 121]), .lit (.int .i64 95), .lit (.int .i64 85), .lit (.int .i64 270)], .agg [.lit (.string [104, 111, 108, 108, 121]), .lit (.int .i64 5), .lit (.int .i64 35), .lit (.int .i64 370)], .agg [.lit (.string [109, 97, 112, 108, 101]), .lit (.int .i64 10), .lit (.int .i64 42), .lit (.int .i64 290)], .agg [.lit (.string [111, 97, 107]), .lit (.int .i64 40), .lit (.int .i64 40), .lit (.int .i64 330)], .agg [.lit (.string [114, 111, 115, 101, 119, 111, 111, 100]), .lit (.int .i64 80), .lit (.int .i64 60), .lit (.int .i64 220)], .agg [.lit (.string [119, 97, 108, 110, 117, 116]), .lit (.int .i64 70), .lit (.int .i64 38), .lit (.int .i64 260)]]
def laid_loop_example_g00956_impl_errRange {H : Type} : DataW H := .iface "*errors.errorString" (.ptr (.agg [.lit (.string [97, 110, 32, 97, 114, 103, 117, 109, 101, 110, 116, 32, 105, 115, 32, 111, 117, 116, 32, 111, 102, 32, 114, 97, 110, 103, 101])]))
def laid_loop_example_g00956_impl_errNotFound {H : Type} : DataW H := .iface "*errors.errorString" (.ptr (.agg [.lit (.string [116, 104, 101, 114, 101, 32, 105, 115, 32, 110, 111, 110, 101])]))
def laid_loop_example_g00956_impl_errExists {H : Type} : DataW H := .iface "*errors.errorString" (.ptr (.agg [.lit (.string [116, 104, 101, 114, 101, 32, 105, 115, 32, 111, 110, 101, 32, 97, 108, 114, 101, 97, 100, 121])]))
def laid_loop_example_g00956_impl_errFull {H : Type} : DataW H := .iface "*errors.errorString" (.ptr (.agg [.lit (.string [116, 104, 101, 114, 101, 32, 105, 115, 32, 110, 111, 32, 112, 108, 97, 99, 101, 32, 108, 101, 102, 116])]))
def laid_loop_example_g00956_impl_errState {H : Type} : DataW H := .iface "*errors.errorString" (.ptr (.agg [.lit (.string [116, 104, 101, 32, 114, 101, 115, 117, 108, 116, 32, 119, 111, 117, 108, 100, 32, 110, 111, 116, 32, 98, 101, 32, 118, 97, 108, 105, 100])]))

/-- 'laws.FnExactTrimLeaf': WHATEVER THE INPUT: true; the input reads as it did. -/
def fnExactTrimLeafSpec : ChangeSpec := { name := "fnExactTrimLeaf", vars := ["loop.example/g00956/impl.speciesTable", "loop.example/g00956/impl.errRange", "loop.example/g00956/impl.errState", "loop.example/g00956/impl.errNotFound", "loop.example/g00956/impl.errExists", "loop.example/g00956/impl.errFull"], fn := fun _ => fun
  | [d1, d2, g1, g2, g3, g4, g5, g6] => { results := [.lit (.bool true)], args := [d1, d2], vars := [g1, g2, g3, g4, g5, g6] }
  | _ => none }
def fnExactTrimLeafRow : OpenClaim := { program := "ytcjpplijbdfgbaadoor", sum := "954275cf59591e3e54f9988e97859ed3575699eaada9054e914f6ce225e2b5a3", func := "loop.example/g00956/laws.FnExactTrimLeaf", spec := "fnExactTrimLeaf", inPlace := ["internal/reflectlite.TypeOf"], unfollowed := true, recurses := true, named := ["loop.example/g00956/impl.speciesTable", "loop.example/g00956/impl.errRange", "loop.example/g00956/impl.errState", "loop.example/g00956/impl.errNotFound", "loop.example/g00956/impl.errExists", "loop.example/g00956/impl.errFull"], ifaces := true, apart := false, laid := [("loop.example/g00956/impl.speciesTable", laid_loop_example_g00956_impl_speciesTable), ("loop.example/g00956/impl.errRange", laid_loop_example_g00956_impl_errRange), ("loop.example/g00956/impl.errNotFound", laid_loop_example_g00956_impl_errNotFound), ("loop.example/g00956/impl.errExists", laid_loop_example_g00956_impl_errExists), ("loop.example/g00956/impl.errFull", laid_loop_example_g00956_impl_errFull), ("loop.example/g00956/impl.errState", laid_loop_example_g00956_impl_errState)] }
def FnExactTrimLeafSaid : Prop := fnExactTrimLeafRow.holds Tryd.pinned (OpenSpec.ofChange fnExactTrimLeafSpec)

/-- ITS FALSE NEIGHBOUR: 'it returns false'. Refute it at one input. -/
def fnExactTrimLeafWrong : ChangeSpec := { name := "fnExactTrimLeaf", vars := ["loop.example/g00956/impl.speciesTable", "loop.example/g00956/impl.errRange", "loop.example/g00956/impl.errState", "loop.example/g00956/impl.errNotFound", "loop.example/g00956/impl.errExists", "loop.example/g00956/impl.errFull"], fn := fun _ => fun
  | [d1, d2, g1, g2, g3, g4, g5, g6] => { results := [.lit (.bool false)], args := [d1, d2], vars := [g1, g2, g3, g4, g5, g6] }
  | _ => none }
def FnExactTrimLeafWrongFalsely : Prop := fnExactTrimLeafRow.holds Tryd.pinned (OpenSpec.ofChange fnExactTrimLeafWrong)

/-- 'laws.FnExactMirrorLeaf': WHATEVER THE INPUT: true; the input reads as it did. -/
def fnExactMirrorLeafSpec : ChangeSpec := { name := "fnExactMirrorLeaf", vars := ["loop.example/g00956/impl.speciesTable"], fn := fun _ => fun
  | [d, g1] => { results := [.lit (.bool true)], args := [d], vars := [g1] }
  | _ => none }
def fnExactMirrorLeafRow : OpenClaim := { program := "ytcjpplijbdfgbaadoor", sum := "954275cf59591e3e54f9988e97859ed3575699eaada9054e914f6ce225e2b5a3", func := "loop.example/g00956/laws.FnExactMirrorLeaf", spec := "fnExactMirrorLeaf", named := ["loop.example/g00956/impl.speciesTable"], apart := false, laid := [("loop.example/g00956/impl.speciesTable", laid_loop_example_g00956_impl_speciesTable)] }
def FnExactMirrorLeafSaid : Prop := fnExactMirrorLeafRow.holds Tryd.pinned (OpenSpec.ofChange fnExactMirrorLeafSpec)

/-- ITS FALSE NEIGHBOUR: 'it returns false'. Refute it at one input. -/
def fnExactMirrorLeafWrong : ChangeSpec := { name := "fnExactMirrorLeaf", vars := ["loop.example/g00956/impl.speciesTable"], fn := fun _ => fun
  | [d, g1] => { results := [.lit (.bool false)], args := [d], vars := [g1] }
  | _ => none }
def FnExactMirrorLeafWrongFalsely : Prop := fnExactMirrorLeafRow.holds Tryd.pinned (OpenSpec.ofChange fnExactMirrorLeafWrong)

/-- 'laws.FnExactMatchScore': WHATEVER THE INPUT: true; the input reads as it did. -/
def fnExactMatchScoreSpec : ChangeSpec := { name := "fnExactMatchScore", vars := ["loop.example/g00956/impl.speciesTable"], fn := fun _ => fun
  | [d1, d2, d3, g1] => { results := [.lit (.bool true)], args := [d1, d2, d3], vars := [g1] }
  | _ => none }
def fnExactMatchScoreRow : OpenClaim := { program := "ytcjpplijbdfgbaadoor", sum := "954275cf59591e3e54f9988e97859ed3575699eaada9054e914f6ce225e2b5a3", func := "loop.example/g00956/laws.FnExactMatchScore", spec := "fnExactMatchScore", named := ["loop.example/g00956/impl.speciesTable"], apart := false, laid := [("loop.example/g00956/impl.speciesTable", laid_loop_example_g00956_impl_speciesTable)] }
def FnExactMatchScoreSaid : Prop := fnExactMatchScoreRow.holds Tryd.pinned (OpenSpec.ofChange fnExactMatchScoreSpec)

/-- ITS FALSE NEIGHBOUR: 'it returns false'. Refute it at one input. -/
def fnExactMatchScoreWrong : ChangeSpec := { name := "fnExactMatchScore", vars := ["loop.example/g00956/impl.speciesTable"], fn := fun _ => fun
  | [d1, d2, d3, g1] => { results := [.lit (.bool false)], args := [d1, d2, d3], vars := [g1] }
  | _ => none }
def FnExactMatchScoreWrongFalsely : Prop := fnExactMatchScoreRow.holds Tryd.pinned (OpenSpec.ofChange fnExactMatchScoreWrong)

/-- 'laws.FnExactBestMatch': WHATEVER THE INPUT: true; the input reads as it did. -/
def fnExactBestMatchSpec : ChangeSpec := { name := "fnExactBestMatch", vars := ["loop.example/g00956/impl.speciesTable", "loop.example/g00956/impl.errRange", "loop.example/g00956/impl.errNotFound", "loop.example/g00956/impl.errExists", "loop.example/g00956/impl.errFull", "loop.example/g00956/impl.errState"], fn := fun _ => fun
  | [d1, d2, d3, g1, g2, g3, g4, g5, g6] => { results := [.lit (.bool true)], args := [d1, d2, d3], vars := [g1, g2, g3, g4, g5, g6] }
  | _ => none }
def fnExactBestMatchRow : OpenClaim := { program := "ytcjpplijbdfgbaadoor", sum := "954275cf59591e3e54f9988e97859ed3575699eaada9054e914f6ce225e2b5a3", func := "loop.example/g00956/laws.FnExactBestMatch", spec := "fnExactBestMatch", inPlace := ["internal/reflectlite.TypeOf"], unfollowed := true, recurses := true, named := ["loop.example/g00956/impl.speciesTable", "loop.example/g00956/impl.errRange", "loop.example/g00956/impl.errNotFound", "loop.example/g00956/impl.errExists", "loop.example/g00956/impl.errFull", "loop.example/g00956/impl.errState"], ifaces := true, apart := false, laid := [("loop.example/g00956/impl.speciesTable", laid_loop_example_g00956_impl_speciesTable), ("loop.example/g00956/impl.errRange", laid_loop_example_g00956_impl_errRange), ("loop.example/g00956/impl.errNotFound", laid_loop_example_g00956_impl_errNotFound), ("loop.example/g00956/impl.errExists", laid_loop_example_g00956_impl_errExists), ("loop.example/g00956/impl.errFull", laid_loop_example_g00956_impl_errFull), ("loop.example/g00956/impl.errState", laid_loop_example_g00956_impl_errState)] }
def FnExactBestMatchSaid : Prop := fnExactBestMatchRow.holds Tryd.pinned (OpenSpec.ofChange fnExactBestMatchSpec)

/-- ITS FALSE NEIGHBOUR: 'it returns false'. Refute it at one input. -/
def fnExactBestMatchWrong : ChangeSpec := { name := "fnExactBestMatch", vars := ["loop.example/g00956/impl.speciesTable", "loop.example/g00956/impl.errRange", "loop.example/g00956/impl.errNotFound", "loop.example/g00956/impl.errExists", "loop.example/g00956/impl.errFull", "loop.example/g00956/impl.errState"], fn := fun _ => fun
  | [d1, d2, d3, g1, g2, g3, g4, g5, g6] => { results := [.lit (.bool false)], args := [d1, d2, d3], vars := [g1, g2, g3, g4, g5, g6] }
  | _ => none }
def FnExactBestMatchWrongFalsely : Prop := fnExactBestMatchRow.holds Tryd.pinned (OpenSpec.ofChange fnExactBestMatchWrong)

/-- 'laws.FnExactIsSequence': WHATEVER THE INPUT: true; the input reads as it did. -/
def fnExactIsSequenceSpec : ChangeSpec := { name := "fnExactIsSequence", vars := ["loop.example/g00956/impl.speciesTable"], fn := fun _ => fun
  | [d1, d2, g1] => { results := [.lit (.bool true)], args := [d1, d2], vars := [g1] }
  | _ => none }
def fnExactIsSequenceRow : OpenClaim := { program := "ytcjpplijbdfgbaadoor", sum := "954275cf59591e3e54f9988e97859ed3575699eaada9054e914f6ce225e2b5a3", func := "loop.example/g00956/laws.FnExactIsSequence", spec := "fnExactIsSequence", named := ["loop.example/g00956/impl.speciesTable"], apart := false, laid := [("loop.example/g00956/impl.speciesTable", laid_loop_example_g00956_impl_speciesTable)] }
def FnExactIsSequenceSaid : Prop := fnExactIsSequenceRow.holds Tryd.pinned (OpenSpec.ofChange fnExactIsSequenceSpec)

/-- ITS FALSE NEIGHBOUR: 'it returns false'. Refute it at one input. -/
def fnExactIsSequenceWrong : ChangeSpec := { name := "fnExactIsSequence", vars := ["loop.example/g00956/impl.speciesTable"], fn := fun _ => fun
  | [d1, d2, g1] => { results := [.lit (.bool false)], args := [d1, d2], vars := [g1] }
  | _ => none }
def FnExactIsSequenceWrongFalsely : Prop := fnExactIsSequenceRow.holds Tryd.pinned (OpenSpec.ofChange fnExactIsSequenceWrong)

/-- 'laws.FnExactLongestRun': WHATEVER THE INPUT: true; the input reads as it did. -/
def fnExactLongestRunSpec : ChangeSpec := { name := "fnExactLongestRun", vars := ["loop.example/g00956/impl.speciesTable", "loop.example/g00956/impl.errNotFound", "loop.example/g00956/impl.errRange", "loop.example/g00956/impl.errExists", "loop.example/g00956/impl.errFull", "loop.example/g00956/impl.errState"], fn := fun _ => fun
  | [d1, d2, g1, g2, g3, g4, g5, g6] => { results := [.lit (.bool true)], args := [d1, d2], vars := [g1, g2, g3, g4, g5, g6] }
  | _ => none }
def fnExactLongestRunRow : OpenClaim := { program := "ytcjpplijbdfgbaadoor", sum := "954275cf59591e3e54f9988e97859ed3575699eaada9054e914f6ce225e2b5a3", func := "loop.example/g00956/laws.FnExactLongestRun", spec := "fnExactLongestRun", inPlace := ["internal/reflectlite.TypeOf"], unfollowed := true, recurses := true, named := ["loop.example/g00956/impl.speciesTable", "loop.example/g00956/impl.errNotFound", "loop.example/g00956/impl.errRange", "loop.example/g00956/impl.errExists", "loop.example/g00956/impl.errFull", "loop.example/g00956/impl.errState"], ifaces := true, apart := false, laid := [("loop.example/g00956/impl.speciesTable", laid_loop_example_g00956_impl_speciesTable), ("loop.example/g00956/impl.errRange", laid_loop_example_g00956_impl_errRange), ("loop.example/g00956/impl.errNotFound", laid_loop_example_g00956_impl_errNotFound), ("loop.example/g00956/impl.errExists", laid_loop_example_g00956_impl_errExists), ("loop.example/g00956/impl.errFull", laid_loop_example_g00956_impl_errFull), ("loop.example/g00956/impl.errState", laid_loop_example_g00956_impl_errState)] }
def FnExactLongestRunSaid : Prop := fnExactLongestRunRow.holds Tryd.pinned (OpenSpec.ofChange fnExactLongestRunSpec)

/-- ITS FALSE NEIGHBOUR: 'it returns false'. Refute it at one input. -/
def fnExactLongestRunWrong : ChangeSpec := { name := "fnExactLongestRun", vars := ["loop.example/g00956/impl.speciesTable", "loop.example/g00956/impl.errNotFound", "loop.example/g00956/impl.errRange", "loop.example/g00956/impl.errExists", "loop.example/g00956/impl.errFull", "loop.example/g00956/impl.errState"], fn := fun _ => fun
  | [d1, d2, g1, g2, g3, g4, g5, g6] => { results := [.lit (.bool false)], args := [d1, d2], vars := [g1, g2, g3, g4, g5, g6] }
  | _ => none }
def FnExactLongestRunWrongFalsely : Prop := fnExactLongestRunRow.holds Tryd.pinned (OpenSpec.ofChange fnExactLongestRunWrong)

/-- 'laws.FnExactMissingNumbers': WHATEVER THE INPUT: true; the input reads as it did. -/
def fnExactMissingNumbersSpec : ChangeSpec := { name := "fnExactMissingNumbers", vars := ["loop.example/g00956/impl.speciesTable", "loop.example/g00956/impl.errFull", "loop.example/g00956/impl.errNotFound", "loop.example/g00956/impl.errRange", "loop.example/g00956/impl.errExists", "loop.example/g00956/impl.errState"], fn := fun _ => fun
  | [d1, d2, g1, g2, g3, g4, g5, g6] => { results := [.lit (.bool true)], args := [d1, d2], vars := [g1, g2, g3, g4, g5, g6] }
  | _ => none }
def fnExactMissingNumbersRow : OpenClaim := { program := "ytcjpplijbdfgbaadoor", sum := "954275cf59591e3e54f9988e97859ed3575699eaada9054e914f6ce225e2b5a3", func := "loop.example/g00956/laws.FnExactMissingNumbers", spec := "fnExactMissingNumbers", inPlace := ["internal/reflectlite.TypeOf"], unfollowed := true, recurses := true, named := ["loop.example/g00956/impl.speciesTable", "loop.example/g00956/impl.errFull", "loop.example/g00956/impl.errNotFound", "loop.example/g00956/impl.errRange", "loop.example/g00956/impl.errExists", "loop.example/g00956/impl.errState"], ifaces := true, apart := false, laid := [("loop.example/g00956/impl.speciesTable", laid_loop_example_g00956_impl_speciesTable), ("loop.example/g00956/impl.errRange", laid_loop_example_g00956_impl_errRange), ("loop.example/g00956/impl.errNotFound", laid_loop_example_g00956_impl_errNotFound), ("loop.example/g00956/impl.errExists", laid_loop_example_g00956_impl_errExists), ("loop.example/g00956/impl.errFull", laid_loop_example_g00956_impl_errFull), ("loop.example/g00956/impl.errState", laid_loop_example_g00956_impl_errState)] }
def FnExactMissingNumbersSaid : Prop := fnExactMissingNumbersRow.holds Tryd.pinned (OpenSpec.ofChange fnExactMissingNumbersSpec)

/-- ITS FALSE NEIGHBOUR: 'it returns false'. Refute it at one input. -/
def fnExactMissingNumbersWrong : ChangeSpec := { name := "fnExactMissingNumbers", vars := ["loop.example/g00956/impl.speciesTable", "loop.example/g00956/impl.errFull", "loop.example/g00956/impl.errNotFound", "loop.example/g00956/impl.errRange", "loop.example/g00956/impl.errExists", "loop.example/g00956/impl.errState"], fn := fun _ => fun
  | [d1, d2, g1, g2, g3, g4, g5, g6] => { results := [.lit (.bool false)], args := [d1, d2], vars := [g1, g2, g3, g4, g5, g6] }
  | _ => none }
def FnExactMissingNumbersWrongFalsely : Prop := fnExactMissingNumbersRow.holds Tryd.pinned (OpenSpec.ofChange fnExactMissingNumbersWrong)

/-- 'laws.FnExactBookPairs': WHATEVER THE INPUT: true; the input reads as it did. -/
def fnExactBookPairsSpec : ChangeSpec := { name := "fnExactBookPairs", vars := ["loop.example/g00956/impl.speciesTable", "loop.example/g00956/impl.errNotFound", "loop.example/g00956/impl.errRange", "loop.example/g00956/impl.errExists", "loop.example/g00956/impl.errFull", "loop.example/g00956/impl.errState"], fn := fun _ => fun
  | [d1, d2, g1, g2, g3, g4, g5, g6] => { results := [.lit (.bool true)], args := [d1, d2], vars := [g1, g2, g3, g4, g5, g6] }
  | _ => none }
def fnExactBookPairsRow : OpenClaim := { program := "ytcjpplijbdfgbaadoor", sum := "954275cf59591e3e54f9988e97859ed3575699eaada9054e914f6ce225e2b5a3", func := "loop.example/g00956/laws.FnExactBookPairs", spec := "fnExactBookPairs", inPlace := ["internal/reflectlite.TypeOf"], unfollowed := true, recurses := true, named := ["loop.example/g00956/impl.speciesTable", "loop.example/g00956/impl.errNotFound", "loop.example/g00956/impl.errRange", "loop.example/g00956/impl.errExists", "loop.example/g00956/impl.errFull", "loop.example/g00956/impl.errState"], ifaces := true, apart := false, laid := [("loop.example/g00956/impl.speciesTable", laid_loop_example_g00956_impl_speciesTable), ("loop.example/g00956/impl.errRange", laid_loop_example_g00956_impl_errRange), ("loop.example/g00956/impl.errNotFound", laid_loop_example_g00956_impl_errNotFound), ("loop.example/g00956/impl.errExists", laid_loop_example_g00956_impl_errExists), ("loop.example/g00956/impl.errFull", laid_loop_example_g00956_impl_errFull), ("loop.example/g00956/impl.errState", laid_loop_example_g00956_impl_errState)] }
def FnExactBookPairsSaid : Prop := fnExactBookPairsRow.holds Tryd.pinned (OpenSpec.ofChange fnExactBookPairsSpec)

/-- ITS FALSE NEIGHBOUR: 'it returns false'. Refute it at one input. -/
def fnExactBookPairsWrong : ChangeSpec := { name := "fnExactBookPairs", vars := ["loop.example/g00956/impl.speciesTable", "loop.example/g00956/impl.errNotFound", "loop.example/g00956/impl.errRange", "loop.example/g00956/impl.errExists", "loop.example/g00956/impl.errFull", "loop.example/g00956/impl.errState"], fn := fun _ => fun
  | [d1, d2, g1, g2, g3, g4, g5, g6] => { results := [.lit (.bool false)], args := [d1, d2], vars := [g1, g2, g3, g4, g5, g6] }
  | _ => none }
def FnExactBookPairsWrongFalsely : Prop := fnExactBookPairsRow.holds Tryd.pinned (OpenSpec.ofChange fnExactBookPairsWrong)

/- THE SECOND FORM. 'bulk': how many values and letters a reading holds, each counted each time it is reached (what is shared counts as often as it is met; a slice's spare places count too). A statement '..UptoSaid' is the law's where the arguments, and the package variables that the reading takes, are together of bulk at most 1048576: NARROWER than '..Said'. Prove '..Said' where nothing that the law and all that it calls make is longer than what came in: it says more and counts as full. Else prove '..UptoSaid'. A law counts once. -/
mutual
def uptoBulk {H : Type} : DataW H → Nat
  | .lit (.string bytes) => bytes.length + 1
  | .lit _ => 1
  | .nil => 1
  | .ptr d => uptoBulk d + 1
  | .slice elems spare => uptoBulkAll elems + uptoBulkAll spare + 1
  | .agg parts => uptoBulkAll parts + 1
  | .iface _ d => uptoBulk d + 1
  | .map entries => uptoBulkEntries entries + 1
  | .held _ => 1
def uptoBulkAll {H : Type} : List (DataW H) → Nat
  | [] => 0
  | d :: r => uptoBulk d + uptoBulkAll r
def uptoBulkEntries {H : Type} : List (Lit × DataW H) → Nat
  | [] => 0
  | x :: r => uptoBulkEntry x + uptoBulkEntries r
def uptoBulkEntry {H : Type} : Lit × DataW H → Nat
  | (.string bytes, d) => bytes.length + uptoBulk d + 1
  | (_, d) => uptoBulk d + 1
 end
def uptoSmall : (H : Type) → List (DataW H) → Bool := fun _ ds => decide (uptoBulkAll ds ≤ 1048576)
def OpenSpec.upto (s : _root_.Go.ChangeSpec) : _root_.Go.OpenSpec := { _root_.Go.OpenSpec.ofChange s with cond := some uptoSmall }

/-- 'laws.FnExactTrimLeaf', WHERE WHAT IT READS IS OF BULK AT MOST 1048576: true; the input reads as it did. -/
def fnExactTrimLeafUptoRow : OpenClaim := { program := "ytcjpplijbdfgbaadoor", sum := "954275cf59591e3e54f9988e97859ed3575699eaada9054e914f6ce225e2b5a3", func := "loop.example/g00956/laws.FnExactTrimLeaf", spec := "fnExactTrimLeaf", inPlace := ["internal/reflectlite.TypeOf"], unfollowed := true, recurses := true, named := ["loop.example/g00956/impl.speciesTable", "loop.example/g00956/impl.errRange", "loop.example/g00956/impl.errState", "loop.example/g00956/impl.errNotFound", "loop.example/g00956/impl.errExists", "loop.example/g00956/impl.errFull"], ifaces := true, apart := false, laid := [("loop.example/g00956/impl.speciesTable", laid_loop_example_g00956_impl_speciesTable), ("loop.example/g00956/impl.errRange", laid_loop_example_g00956_impl_errRange), ("loop.example/g00956/impl.errNotFound", laid_loop_example_g00956_impl_errNotFound), ("loop.example/g00956/impl.errExists", laid_loop_example_g00956_impl_errExists), ("loop.example/g00956/impl.errFull", laid_loop_example_g00956_impl_errFull), ("loop.example/g00956/impl.errState", laid_loop_example_g00956_impl_errState)], narrowed := true }
def FnExactTrimLeafUptoSaid : Prop := fnExactTrimLeafUptoRow.holds Tryd.pinned (OpenSpec.upto fnExactTrimLeafSpec)

/-- 'laws.FnExactMirrorLeaf', WHERE WHAT IT READS IS OF BULK AT MOST 1048576: true; the input reads as it did. -/
def fnExactMirrorLeafUptoRow : OpenClaim := { program := "ytcjpplijbdfgbaadoor", sum := "954275cf59591e3e54f9988e97859ed3575699eaada9054e914f6ce225e2b5a3", func := "loop.example/g00956/laws.FnExactMirrorLeaf", spec := "fnExactMirrorLeaf", named := ["loop.example/g00956/impl.speciesTable"], apart := false, laid := [("loop.example/g00956/impl.speciesTable", laid_loop_example_g00956_impl_speciesTable)], narrowed := true }
def FnExactMirrorLeafUptoSaid : Prop := fnExactMirrorLeafUptoRow.holds Tryd.pinned (OpenSpec.upto fnExactMirrorLeafSpec)

/-- 'laws.FnExactMatchScore', WHERE WHAT IT READS IS OF BULK AT MOST 1048576: true; the input reads as it did. -/
def fnExactMatchScoreUptoRow : OpenClaim := { program := "ytcjpplijbdfgbaadoor", sum := "954275cf59591e3e54f9988e97859ed3575699eaada9054e914f6ce225e2b5a3", func := "loop.example/g00956/laws.FnExactMatchScore", spec := "fnExactMatchScore", named := ["loop.example/g00956/impl.speciesTable"], apart := false, laid := [("loop.example/g00956/impl.speciesTable", laid_loop_example_g00956_impl_speciesTable)], narrowed := true }
def FnExactMatchScoreUptoSaid : Prop := fnExactMatchScoreUptoRow.holds Tryd.pinned (OpenSpec.upto fnExactMatchScoreSpec)

/-- 'laws.FnExactBestMatch', WHERE WHAT IT READS IS OF BULK AT MOST 1048576: true; the input reads as it did. -/
def fnExactBestMatchUptoRow : OpenClaim := { program := "ytcjpplijbdfgbaadoor", sum := "954275cf59591e3e54f9988e97859ed3575699eaada9054e914f6ce225e2b5a3", func := "loop.example/g00956/laws.FnExactBestMatch", spec := "fnExactBestMatch", inPlace := ["internal/reflectlite.TypeOf"], unfollowed := true, recurses := true, named := ["loop.example/g00956/impl.speciesTable", "loop.example/g00956/impl.errRange", "loop.example/g00956/impl.errNotFound", "loop.example/g00956/impl.errExists", "loop.example/g00956/impl.errFull", "loop.example/g00956/impl.errState"], ifaces := true, apart := false, laid := [("loop.example/g00956/impl.speciesTable", laid_loop_example_g00956_impl_speciesTable), ("loop.example/g00956/impl.errRange", laid_loop_example_g00956_impl_errRange), ("loop.example/g00956/impl.errNotFound", laid_loop_example_g00956_impl_errNotFound), ("loop.example/g00956/impl.errExists", laid_loop_example_g00956_impl_errExists), ("loop.example/g00956/impl.errFull", laid_loop_example_g00956_impl_errFull), ("loop.example/g00956/impl.errState", laid_loop_example_g00956_impl_errState)], narrowed := true }
def FnExactBestMatchUptoSaid : Prop := fnExactBestMatchUptoRow.holds Tryd.pinned (OpenSpec.upto fnExactBestMatchSpec)

/-- 'laws.FnExactIsSequence', WHERE WHAT IT READS IS OF BULK AT MOST 1048576: true; the input reads as it did. -/
def fnExactIsSequenceUptoRow : OpenClaim := { program := "ytcjpplijbdfgbaadoor", sum := "954275cf59591e3e54f9988e97859ed3575699eaada9054e914f6ce225e2b5a3", func := "loop.example/g00956/laws.FnExactIsSequence", spec := "fnExactIsSequence", named := ["loop.example/g00956/impl.speciesTable"], apart := false, laid := [("loop.example/g00956/impl.speciesTable", laid_loop_example_g00956_impl_speciesTable)], narrowed := true }
def FnExactIsSequenceUptoSaid : Prop := fnExactIsSequenceUptoRow.holds Tryd.pinned (OpenSpec.upto fnExactIsSequenceSpec)

/-- 'laws.FnExactLongestRun', WHERE WHAT IT READS IS OF BULK AT MOST 1048576: true; the input reads as it did. -/
def fnExactLongestRunUptoRow : OpenClaim := { program := "ytcjpplijbdfgbaadoor", sum := "954275cf59591e3e54f9988e97859ed3575699eaada9054e914f6ce225e2b5a3", func := "loop.example/g00956/laws.FnExactLongestRun", spec := "fnExactLongestRun", inPlace := ["internal/reflectlite.TypeOf"], unfollowed := true, recurses := true, named := ["loop.example/g00956/impl.speciesTable", "loop.example/g00956/impl.errNotFound", "loop.example/g00956/impl.errRange", "loop.example/g00956/impl.errExists", "loop.example/g00956/impl.errFull", "loop.example/g00956/impl.errState"], ifaces := true, apart := false, laid := [("loop.example/g00956/impl.speciesTable", laid_loop_example_g00956_impl_speciesTable), ("loop.example/g00956/impl.errRange", laid_loop_example_g00956_impl_errRange), ("loop.example/g00956/impl.errNotFound", laid_loop_example_g00956_impl_errNotFound), ("loop.example/g00956/impl.errExists", laid_loop_example_g00956_impl_errExists), ("loop.example/g00956/impl.errFull", laid_loop_example_g00956_impl_errFull), ("loop.example/g00956/impl.errState", laid_loop_example_g00956_impl_errState)], narrowed := true }
def FnExactLongestRunUptoSaid : Prop := fnExactLongestRunUptoRow.holds Tryd.pinned (OpenSpec.upto fnExactLongestRunSpec)

/-- 'laws.FnExactMissingNumbers', WHERE WHAT IT READS IS OF BULK AT MOST 1048576: true; the input reads as it did. -/
def fnExactMissingNumbersUptoRow : OpenClaim := { program := "ytcjpplijbdfgbaadoor", sum := "954275cf59591e3e54f9988e97859ed3575699eaada9054e914f6ce225e2b5a3", func := "loop.example/g00956/laws.FnExactMissingNumbers", spec := "fnExactMissingNumbers", inPlace := ["internal/reflectlite.TypeOf"], unfollowed := true, recurses := true, named := ["loop.example/g00956/impl.speciesTable", "loop.example/g00956/impl.errFull", "loop.example/g00956/impl.errNotFound", "loop.example/g00956/impl.errRange", "loop.example/g00956/impl.errExists", "loop.example/g00956/impl.errState"], ifaces := true, apart := false, laid := [("loop.example/g00956/impl.speciesTable", laid_loop_example_g00956_impl_speciesTable), ("loop.example/g00956/impl.errRange", laid_loop_example_g00956_impl_errRange), ("loop.example/g00956/impl.errNotFound", laid_loop_example_g00956_impl_errNotFound), ("loop.example/g00956/impl.errExists", laid_loop_example_g00956_impl_errExists), ("loop.example/g00956/impl.errFull", laid_loop_example_g00956_impl_errFull), ("loop.example/g00956/impl.errState", laid_loop_example_g00956_impl_errState)], narrowed := true }
def FnExactMissingNumbersUptoSaid : Prop := fnExactMissingNumbersUptoRow.holds Tryd.pinned (OpenSpec.upto fnExactMissingNumbersSpec)

/-- 'laws.FnExactBookPairs', WHERE WHAT IT READS IS OF BULK AT MOST 1048576: true; the input reads as it did. -/
def fnExactBookPairsUptoRow : OpenClaim := { program := "ytcjpplijbdfgbaadoor", sum := "954275cf59591e3e54f9988e97859ed3575699eaada9054e914f6ce225e2b5a3", func := "loop.example/g00956/laws.FnExactBookPairs", spec := "fnExactBookPairs", inPlace := ["internal/reflectlite.TypeOf"], unfollowed := true, recurses := true, named := ["loop.example/g00956/impl.speciesTable", "loop.example/g00956/impl.errNotFound", "loop.example/g00956/impl.errRange", "loop.example/g00956/impl.errExists", "loop.example/g00956/impl.errFull", "loop.example/g00956/impl.errState"], ifaces := true, apart := false, laid := [("loop.example/g00956/impl.speciesTable", laid_loop_example_g00956_impl_speciesTable), ("loop.example/g00956/impl.errRange", laid_loop_example_g00956_impl_errRange), ("loop.example/g00956/impl.errNotFound", laid_loop_example_g00956_impl_errNotFound), ("loop.example/g00956/impl.errExists", laid_loop_example_g00956_impl_errExists), ("loop.example/g00956/impl.errFull", laid_loop_example_g00956_impl_errFull), ("loop.example/g00956/impl.errState", laid_loop_example_g00956_impl_errState)], narrowed := true }
def FnExactBookPairsUptoSaid : Prop := fnExactBookPairsUptoRow.holds Tryd.pinned (OpenSpec.upto fnExactBookPairsSpec)

end Rows
end Go.Proofs.YtcjpplijbdfgbaaDoor
