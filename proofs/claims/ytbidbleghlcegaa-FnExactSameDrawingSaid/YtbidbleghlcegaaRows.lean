/-
  No cell of these rows narrows 'for every input' (looked for: loops, veiled, ifaces, maps, wideKeys, modest, calm, conditions, laid).
  DERIVED. THE GIVEN ROWS OF THIS SEAT. 14 by the template 'for every input the law returns true; each argument reads behind the call as it read before'; 0 by the template 'total and deterministic' (their statements: YtbidbleghlcegaaTotals.lean).
  GIVEN WITH THE SEED: the statements are not yours to turn. If you find one false, say at which input.
  Laid BY PROGRAM, IN A SANDBOX (cutbox-rows.mjs): the forced cells as the released guide's own fill.sh prints them over the translation 8dac37ed7060d762… (all of the seat's roots in one cut). By AI agents, Wed Nov 11 2026. No macro, syntax, notation, axiom, sorry.
-/
import Derived.Test.YtbidbleghlcegaaChecked
import GoSem.Claim
import GoSem.ClaimJoined
import GoSem.ClaimMapViews
import Derived.JoinedTies
import Derived.KernelRfl
namespace Go.Proofs.Ytbidbleghlcegaa
/- THE CELL 'sum', in the pinned program and in every row, IS THE sha256 OF THE DUMP (.gsa) THAT YtbidbleghlcegaaProg.lean LOADS. Nothing in Lean hashes anything: it is a label: what it is worth is what the hold of that sum in a sandbox is worth. -/
noncomputable def Try.pinned : Pinned := { name := "ytbidbleghlcegaa", sum := "8dac37ed7060d762809ede8d9fa18f6b91056a1ed853e46d6d4f280e323e5655", checked := Try.checked }
namespace Rows
def none {H : Type} : Left H := { results := [], args := [] }

/-- 'laws.FnExactValidDrawing': WHATEVER THE INPUT: true; the input reads as it did. -/
def fnExactValidDrawingSpec : ChangeSpec := { name := "fnExactValidDrawing", fn := fun _ => fun
  | [d] => { results := [.lit (.bool true)], args := [d] }
  | _ => none }
def fnExactValidDrawingRow : OpenClaim := { program := "ytbidbleghlcegaa", sum := "8dac37ed7060d762809ede8d9fa18f6b91056a1ed853e46d6d4f280e323e5655", func := "loop.example/g00956/laws.FnExactValidDrawing", spec := "fnExactValidDrawing", unfollowed := true, recurses := true, plainKeys := false, apart := false }
def FnExactValidDrawingSaid : Prop := fnExactValidDrawingRow.holds Try.pinned (OpenSpec.ofChange fnExactValidDrawingSpec)

/-- ITS FALSE NEIGHBOUR: 'it returns false'. Refute it at one input. -/
def fnExactValidDrawingWrong : ChangeSpec := { name := "fnExactValidDrawing", fn := fun _ => fun
  | [d] => { results := [.lit (.bool false)], args := [d] }
  | _ => none }
def FnExactValidDrawingWrongFalsely : Prop := fnExactValidDrawingRow.holds Try.pinned (OpenSpec.ofChange fnExactValidDrawingWrong)

/-- 'laws.FnExactSameDrawing': WHATEVER THE INPUT: true; the input reads as it did. -/
def fnExactSameDrawingSpec : ChangeSpec := { name := "fnExactSameDrawing", fn := fun _ => fun
  | [d1, d2] => { results := [.lit (.bool true)], args := [d1, d2] }
  | _ => none }
def fnExactSameDrawingRow : OpenClaim := { program := "ytbidbleghlcegaa", sum := "8dac37ed7060d762809ede8d9fa18f6b91056a1ed853e46d6d4f280e323e5655", func := "loop.example/g00956/laws.FnExactSameDrawing", spec := "fnExactSameDrawing", unfollowed := true, recurses := true, plainKeys := false, apart := false }
def FnExactSameDrawingSaid : Prop := fnExactSameDrawingRow.holds Try.pinned (OpenSpec.ofChange fnExactSameDrawingSpec)

/-- ITS FALSE NEIGHBOUR: 'it returns false'. Refute it at one input. -/
def fnExactSameDrawingWrong : ChangeSpec := { name := "fnExactSameDrawing", fn := fun _ => fun
  | [d1, d2] => { results := [.lit (.bool false)], args := [d1, d2] }
  | _ => none }
def FnExactSameDrawingWrongFalsely : Prop := fnExactSameDrawingRow.holds Try.pinned (OpenSpec.ofChange fnExactSameDrawingWrong)

/-- 'laws.FnExactFacePolygon': WHATEVER THE INPUT: true; the input reads as it did. -/
def fnExactFacePolygonSpec : ChangeSpec := { name := "fnExactFacePolygon", fn := fun _ => fun
  | [d1, d2] => { results := [.lit (.bool true)], args := [d1, d2] }
  | _ => none }
def fnExactFacePolygonRow : OpenClaim := { program := "ytbidbleghlcegaa", sum := "8dac37ed7060d762809ede8d9fa18f6b91056a1ed853e46d6d4f280e323e5655", func := "loop.example/g00956/laws.FnExactFacePolygon", spec := "fnExactFacePolygon", unfollowed := true, recurses := true, plainKeys := false, apart := false }
def FnExactFacePolygonSaid : Prop := fnExactFacePolygonRow.holds Try.pinned (OpenSpec.ofChange fnExactFacePolygonSpec)

/-- ITS FALSE NEIGHBOUR: 'it returns false'. Refute it at one input. -/
def fnExactFacePolygonWrong : ChangeSpec := { name := "fnExactFacePolygon", fn := fun _ => fun
  | [d1, d2] => { results := [.lit (.bool false)], args := [d1, d2] }
  | _ => none }
def FnExactFacePolygonWrongFalsely : Prop := fnExactFacePolygonRow.holds Try.pinned (OpenSpec.ofChange fnExactFacePolygonWrong)

/-- 'laws.FnExactFaceNamed': WHATEVER THE INPUT: true; the input reads as it did. -/
def fnExactFaceNamedSpec : ChangeSpec := { name := "fnExactFaceNamed", fn := fun _ => fun
  | [d1, d2] => { results := [.lit (.bool true)], args := [d1, d2] }
  | _ => none }
def fnExactFaceNamedRow : OpenClaim := { program := "ytbidbleghlcegaa", sum := "8dac37ed7060d762809ede8d9fa18f6b91056a1ed853e46d6d4f280e323e5655", func := "loop.example/g00956/laws.FnExactFaceNamed", spec := "fnExactFaceNamed", unfollowed := true, recurses := true, plainKeys := false, apart := false }
def FnExactFaceNamedSaid : Prop := fnExactFaceNamedRow.holds Try.pinned (OpenSpec.ofChange fnExactFaceNamedSpec)

/-- ITS FALSE NEIGHBOUR: 'it returns false'. Refute it at one input. -/
def fnExactFaceNamedWrong : ChangeSpec := { name := "fnExactFaceNamed", fn := fun _ => fun
  | [d1, d2] => { results := [.lit (.bool false)], args := [d1, d2] }
  | _ => none }
def FnExactFaceNamedWrongFalsely : Prop := fnExactFaceNamedRow.holds Try.pinned (OpenSpec.ofChange fnExactFaceNamedWrong)

/-- 'laws.FnExactFacesOfEdge': WHATEVER THE INPUT: true; the input reads as it did. -/
def fnExactFacesOfEdgeSpec : ChangeSpec := { name := "fnExactFacesOfEdge", fn := fun _ => fun
  | [d1, d2, d3] => { results := [.lit (.bool true)], args := [d1, d2, d3] }
  | _ => none }
def fnExactFacesOfEdgeRow : OpenClaim := { program := "ytbidbleghlcegaa", sum := "8dac37ed7060d762809ede8d9fa18f6b91056a1ed853e46d6d4f280e323e5655", func := "loop.example/g00956/laws.FnExactFacesOfEdge", spec := "fnExactFacesOfEdge", unfollowed := true, recurses := true, plainKeys := false, apart := false }
def FnExactFacesOfEdgeSaid : Prop := fnExactFacesOfEdgeRow.holds Try.pinned (OpenSpec.ofChange fnExactFacesOfEdgeSpec)

/-- ITS FALSE NEIGHBOUR: 'it returns false'. Refute it at one input. -/
def fnExactFacesOfEdgeWrong : ChangeSpec := { name := "fnExactFacesOfEdge", fn := fun _ => fun
  | [d1, d2, d3] => { results := [.lit (.bool false)], args := [d1, d2, d3] }
  | _ => none }
def FnExactFacesOfEdgeWrongFalsely : Prop := fnExactFacesOfEdgeRow.holds Try.pinned (OpenSpec.ofChange fnExactFacesOfEdgeWrong)

/-- 'laws.FnExactUncoveredArea': WHATEVER THE INPUT: true; the input reads as it did. -/
def fnExactUncoveredAreaSpec : ChangeSpec := { name := "fnExactUncoveredArea", fn := fun _ => fun
  | [d] => { results := [.lit (.bool true)], args := [d] }
  | _ => none }
def fnExactUncoveredAreaRow : OpenClaim := { program := "ytbidbleghlcegaa", sum := "8dac37ed7060d762809ede8d9fa18f6b91056a1ed853e46d6d4f280e323e5655", func := "loop.example/g00956/laws.FnExactUncoveredArea", spec := "fnExactUncoveredArea", unfollowed := true, recurses := true, plainKeys := false, apart := false }
def FnExactUncoveredAreaSaid : Prop := fnExactUncoveredAreaRow.holds Try.pinned (OpenSpec.ofChange fnExactUncoveredAreaSpec)

/-- ITS FALSE NEIGHBOUR: 'it returns false'. Refute it at one input. -/
def fnExactUncoveredAreaWrong : ChangeSpec := { name := "fnExactUncoveredArea", fn := fun _ => fun
  | [d] => { results := [.lit (.bool false)], args := [d] }
  | _ => none }
def FnExactUncoveredAreaWrongFalsely : Prop := fnExactUncoveredAreaRow.holds Try.pinned (OpenSpec.ofChange fnExactUncoveredAreaWrong)

/-- 'laws.FnExactFaceAt': WHATEVER THE INPUT: true; the input reads as it did. -/
def fnExactFaceAtSpec : ChangeSpec := { name := "fnExactFaceAt", fn := fun _ => fun
  | [d1, d2] => { results := [.lit (.bool true)], args := [d1, d2] }
  | _ => none }
def fnExactFaceAtRow : OpenClaim := { program := "ytbidbleghlcegaa", sum := "8dac37ed7060d762809ede8d9fa18f6b91056a1ed853e46d6d4f280e323e5655", func := "loop.example/g00956/laws.FnExactFaceAt", spec := "fnExactFaceAt", unfollowed := true, recurses := true, plainKeys := false, apart := false }
def FnExactFaceAtSaid : Prop := fnExactFaceAtRow.holds Try.pinned (OpenSpec.ofChange fnExactFaceAtSpec)

/-- ITS FALSE NEIGHBOUR: 'it returns false'. Refute it at one input. -/
def fnExactFaceAtWrong : ChangeSpec := { name := "fnExactFaceAt", fn := fun _ => fun
  | [d1, d2] => { results := [.lit (.bool false)], args := [d1, d2] }
  | _ => none }
def FnExactFaceAtWrongFalsely : Prop := fnExactFaceAtRow.holds Try.pinned (OpenSpec.ofChange fnExactFaceAtWrong)

/-- 'laws.FnExactIsDiagonal': WHATEVER THE INPUT: true; the input reads as it did. -/
def fnExactIsDiagonalSpec : ChangeSpec := { name := "fnExactIsDiagonal", fn := fun _ => fun
  | [d1, d2, d3] => { results := [.lit (.bool true)], args := [d1, d2, d3] }
  | _ => none }
def fnExactIsDiagonalRow : OpenClaim := { program := "ytbidbleghlcegaa", sum := "8dac37ed7060d762809ede8d9fa18f6b91056a1ed853e46d6d4f280e323e5655", func := "loop.example/g00956/laws.FnExactIsDiagonal", spec := "fnExactIsDiagonal", unfollowed := true, recurses := true, plainKeys := false, apart := false }
def FnExactIsDiagonalSaid : Prop := fnExactIsDiagonalRow.holds Try.pinned (OpenSpec.ofChange fnExactIsDiagonalSpec)

/-- ITS FALSE NEIGHBOUR: 'it returns false'. Refute it at one input. -/
def fnExactIsDiagonalWrong : ChangeSpec := { name := "fnExactIsDiagonal", fn := fun _ => fun
  | [d1, d2, d3] => { results := [.lit (.bool false)], args := [d1, d2, d3] }
  | _ => none }
def FnExactIsDiagonalWrongFalsely : Prop := fnExactIsDiagonalRow.holds Try.pinned (OpenSpec.ofChange fnExactIsDiagonalWrong)

/-- 'laws.FnExactDiagonalsOf': WHATEVER THE INPUT: true; the input reads as it did. -/
def fnExactDiagonalsOfSpec : ChangeSpec := { name := "fnExactDiagonalsOf", fn := fun _ => fun
  | [d] => { results := [.lit (.bool true)], args := [d] }
  | _ => none }
def fnExactDiagonalsOfRow : OpenClaim := { program := "ytbidbleghlcegaa", sum := "8dac37ed7060d762809ede8d9fa18f6b91056a1ed853e46d6d4f280e323e5655", func := "loop.example/g00956/laws.FnExactDiagonalsOf", spec := "fnExactDiagonalsOf", unfollowed := true, recurses := true, plainKeys := false, apart := false }
def FnExactDiagonalsOfSaid : Prop := fnExactDiagonalsOfRow.holds Try.pinned (OpenSpec.ofChange fnExactDiagonalsOfSpec)

/-- ITS FALSE NEIGHBOUR: 'it returns false'. Refute it at one input. -/
def fnExactDiagonalsOfWrong : ChangeSpec := { name := "fnExactDiagonalsOf", fn := fun _ => fun
  | [d] => { results := [.lit (.bool false)], args := [d] }
  | _ => none }
def FnExactDiagonalsOfWrongFalsely : Prop := fnExactDiagonalsOfRow.holds Try.pinned (OpenSpec.ofChange fnExactDiagonalsOfWrong)

/-- 'laws.FnExactTriangulate': WHATEVER THE INPUT: true; the input reads as it did. -/
def fnExactTriangulateSpec : ChangeSpec := { name := "fnExactTriangulate", fn := fun _ => fun
  | [d] => { results := [.lit (.bool true)], args := [d] }
  | _ => none }
def fnExactTriangulateRow : OpenClaim := { program := "ytbidbleghlcegaa", sum := "8dac37ed7060d762809ede8d9fa18f6b91056a1ed853e46d6d4f280e323e5655", func := "loop.example/g00956/laws.FnExactTriangulate", spec := "fnExactTriangulate", unfollowed := true, recurses := true, plainKeys := false, apart := false }
def FnExactTriangulateSaid : Prop := fnExactTriangulateRow.holds Try.pinned (OpenSpec.ofChange fnExactTriangulateSpec)

/-- ITS FALSE NEIGHBOUR: 'it returns false'. Refute it at one input. -/
def fnExactTriangulateWrong : ChangeSpec := { name := "fnExactTriangulate", fn := fun _ => fun
  | [d] => { results := [.lit (.bool false)], args := [d] }
  | _ => none }
def FnExactTriangulateWrongFalsely : Prop := fnExactTriangulateRow.holds Try.pinned (OpenSpec.ofChange fnExactTriangulateWrong)

/-- 'laws.FnExactDisjoint': WHATEVER THE INPUT: true; the input reads as it did. -/
def fnExactDisjointSpec : ChangeSpec := { name := "fnExactDisjoint", fn := fun _ => fun
  | [d1, d2] => { results := [.lit (.bool true)], args := [d1, d2] }
  | _ => none }
def fnExactDisjointRow : OpenClaim := { program := "ytbidbleghlcegaa", sum := "8dac37ed7060d762809ede8d9fa18f6b91056a1ed853e46d6d4f280e323e5655", func := "loop.example/g00956/laws.FnExactDisjoint", spec := "fnExactDisjoint", unfollowed := true, recurses := true, plainKeys := false, apart := false }
def FnExactDisjointSaid : Prop := fnExactDisjointRow.holds Try.pinned (OpenSpec.ofChange fnExactDisjointSpec)

/-- ITS FALSE NEIGHBOUR: 'it returns false'. Refute it at one input. -/
def fnExactDisjointWrong : ChangeSpec := { name := "fnExactDisjoint", fn := fun _ => fun
  | [d1, d2] => { results := [.lit (.bool false)], args := [d1, d2] }
  | _ => none }
def FnExactDisjointWrongFalsely : Prop := fnExactDisjointRow.holds Try.pinned (OpenSpec.ofChange fnExactDisjointWrong)

/-- 'laws.FnExactPolygonDistance': WHATEVER THE INPUT: true; the input reads as it did. -/
def fnExactPolygonDistanceSpec : ChangeSpec := { name := "fnExactPolygonDistance", fn := fun _ => fun
  | [d1, d2] => { results := [.lit (.bool true)], args := [d1, d2] }
  | _ => none }
def fnExactPolygonDistanceRow : OpenClaim := { program := "ytbidbleghlcegaa", sum := "8dac37ed7060d762809ede8d9fa18f6b91056a1ed853e46d6d4f280e323e5655", func := "loop.example/g00956/laws.FnExactPolygonDistance", spec := "fnExactPolygonDistance", unfollowed := true, recurses := true, plainKeys := false, apart := false }
def FnExactPolygonDistanceSaid : Prop := fnExactPolygonDistanceRow.holds Try.pinned (OpenSpec.ofChange fnExactPolygonDistanceSpec)

/-- ITS FALSE NEIGHBOUR: 'it returns false'. Refute it at one input. -/
def fnExactPolygonDistanceWrong : ChangeSpec := { name := "fnExactPolygonDistance", fn := fun _ => fun
  | [d1, d2] => { results := [.lit (.bool false)], args := [d1, d2] }
  | _ => none }
def FnExactPolygonDistanceWrongFalsely : Prop := fnExactPolygonDistanceRow.holds Try.pinned (OpenSpec.ofChange fnExactPolygonDistanceWrong)

/-- 'laws.FnExactJoinPolygons': WHATEVER THE INPUT: true; the input reads as it did. -/
def fnExactJoinPolygonsSpec : ChangeSpec := { name := "fnExactJoinPolygons", fn := fun _ => fun
  | [d1, d2] => { results := [.lit (.bool true)], args := [d1, d2] }
  | _ => none }
def fnExactJoinPolygonsRow : OpenClaim := { program := "ytbidbleghlcegaa", sum := "8dac37ed7060d762809ede8d9fa18f6b91056a1ed853e46d6d4f280e323e5655", func := "loop.example/g00956/laws.FnExactJoinPolygons", spec := "fnExactJoinPolygons", unfollowed := true, recurses := true, plainKeys := false, apart := false }
def FnExactJoinPolygonsSaid : Prop := fnExactJoinPolygonsRow.holds Try.pinned (OpenSpec.ofChange fnExactJoinPolygonsSpec)

/-- ITS FALSE NEIGHBOUR: 'it returns false'. Refute it at one input. -/
def fnExactJoinPolygonsWrong : ChangeSpec := { name := "fnExactJoinPolygons", fn := fun _ => fun
  | [d1, d2] => { results := [.lit (.bool false)], args := [d1, d2] }
  | _ => none }
def FnExactJoinPolygonsWrongFalsely : Prop := fnExactJoinPolygonsRow.holds Try.pinned (OpenSpec.ofChange fnExactJoinPolygonsWrong)

/-- 'laws.FnExactHullOf': WHATEVER THE INPUT: true; the input reads as it did. -/
def fnExactHullOfSpec : ChangeSpec := { name := "fnExactHullOf", fn := fun _ => fun
  | [d] => { results := [.lit (.bool true)], args := [d] }
  | _ => none }
def fnExactHullOfRow : OpenClaim := { program := "ytbidbleghlcegaa", sum := "8dac37ed7060d762809ede8d9fa18f6b91056a1ed853e46d6d4f280e323e5655", func := "loop.example/g00956/laws.FnExactHullOf", spec := "fnExactHullOf", unfollowed := true, recurses := true, plainKeys := false, apart := false }
def FnExactHullOfSaid : Prop := fnExactHullOfRow.holds Try.pinned (OpenSpec.ofChange fnExactHullOfSpec)

/-- ITS FALSE NEIGHBOUR: 'it returns false'. Refute it at one input. -/
def fnExactHullOfWrong : ChangeSpec := { name := "fnExactHullOf", fn := fun _ => fun
  | [d] => { results := [.lit (.bool false)], args := [d] }
  | _ => none }
def FnExactHullOfWrongFalsely : Prop := fnExactHullOfRow.holds Try.pinned (OpenSpec.ofChange fnExactHullOfWrong)

/- THE SECOND FORM. 'bulk': how many values and letters a reading holds, each counted each time it is reached (what is shared counts as often as it is met; a slice's spare places count too). A statement '..UptoSaid' is the law's where the arguments, and the package variables that the reading takes, are together of bulk at most 1048576: NARROWER than '..Said'. Prove '..Said' where nothing that the law and all that it calls make is longer than what came in: it says more and counts as full. Else prove '..UptoSaid'. A law counts once. -/
mutual
def uptoBulk {H : Type} : DataW H → Nat
  | .lit (.string bytes) => bytes.length + 1
  | .lit _ => 1
  | .nil => 1
  | .ptr d => uptoBulk d + 1
  | .slice elems spare => uptoBulkAll elems + uptoBulkAll spare + 1
  | .agg parts => uptoBulkAll parts + 1
  | .iface _ d => uptoBulk d + 1
  | .map entries => uptoBulkEntries entries + 1
  | .held _ => 1
def uptoBulkAll {H : Type} : List (DataW H) → Nat
  | [] => 0
  | d :: r => uptoBulk d + uptoBulkAll r
def uptoBulkEntries {H : Type} : List (Lit × DataW H) → Nat
  | [] => 0
  | x :: r => uptoBulkEntry x + uptoBulkEntries r
def uptoBulkEntry {H : Type} : Lit × DataW H → Nat
  | (.string bytes, d) => bytes.length + uptoBulk d + 1
  | (_, d) => uptoBulk d + 1
 end
def uptoSmall : (H : Type) → List (DataW H) → Bool := fun _ ds => decide (uptoBulkAll ds ≤ 1048576)
def OpenSpec.upto (s : _root_.Go.ChangeSpec) : _root_.Go.OpenSpec := { _root_.Go.OpenSpec.ofChange s with cond := some uptoSmall }

/-- 'laws.FnExactValidDrawing', WHERE WHAT IT READS IS OF BULK AT MOST 1048576: true; the input reads as it did. -/
def fnExactValidDrawingUptoRow : OpenClaim := { program := "ytbidbleghlcegaa", sum := "8dac37ed7060d762809ede8d9fa18f6b91056a1ed853e46d6d4f280e323e5655", func := "loop.example/g00956/laws.FnExactValidDrawing", spec := "fnExactValidDrawing", unfollowed := true, recurses := true, plainKeys := false, apart := false, narrowed := true }
def FnExactValidDrawingUptoSaid : Prop := fnExactValidDrawingUptoRow.holds Try.pinned (OpenSpec.upto fnExactValidDrawingSpec)

/-- 'laws.FnExactSameDrawing', WHERE WHAT IT READS IS OF BULK AT MOST 1048576: true; the input reads as it did. -/
def fnExactSameDrawingUptoRow : OpenClaim := { program := "ytbidbleghlcegaa", sum := "8dac37ed7060d762809ede8d9fa18f6b91056a1ed853e46d6d4f280e323e5655", func := "loop.example/g00956/laws.FnExactSameDrawing", spec := "fnExactSameDrawing", unfollowed := true, recurses := true, plainKeys := false, apart := false, narrowed := true }
def FnExactSameDrawingUptoSaid : Prop := fnExactSameDrawingUptoRow.holds Try.pinned (OpenSpec.upto fnExactSameDrawingSpec)

/-- 'laws.FnExactFacePolygon', WHERE WHAT IT READS IS OF BULK AT MOST 1048576: true; the input reads as it did. -/
def fnExactFacePolygonUptoRow : OpenClaim := { program := "ytbidbleghlcegaa", sum := "8dac37ed7060d762809ede8d9fa18f6b91056a1ed853e46d6d4f280e323e5655", func := "loop.example/g00956/laws.FnExactFacePolygon", spec := "fnExactFacePolygon", unfollowed := true, recurses := true, plainKeys := false, apart := false, narrowed := true }
def FnExactFacePolygonUptoSaid : Prop := fnExactFacePolygonUptoRow.holds Try.pinned (OpenSpec.upto fnExactFacePolygonSpec)

/-- 'laws.FnExactFaceNamed', WHERE WHAT IT READS IS OF BULK AT MOST 1048576: true; the input reads as it did. -/
def fnExactFaceNamedUptoRow : OpenClaim := { program := "ytbidbleghlcegaa", sum := "8dac37ed7060d762809ede8d9fa18f6b91056a1ed853e46d6d4f280e323e5655", func := "loop.example/g00956/laws.FnExactFaceNamed", spec := "fnExactFaceNamed", unfollowed := true, recurses := true, plainKeys := false, apart := false, narrowed := true }
def FnExactFaceNamedUptoSaid : Prop := fnExactFaceNamedUptoRow.holds Try.pinned (OpenSpec.upto fnExactFaceNamedSpec)

/-- 'laws.FnExactFacesOfEdge', WHERE WHAT IT READS IS OF BULK AT MOST 1048576: true; the input reads as it did. -/
def fnExactFacesOfEdgeUptoRow : OpenClaim := { program := "ytbidbleghlcegaa", sum := "8dac37ed7060d762809ede8d9fa18f6b91056a1ed853e46d6d4f280e323e5655", func := "loop.example/g00956/laws.FnExactFacesOfEdge", spec := "fnExactFacesOfEdge", unfollowed := true, recurses := true, plainKeys := false, apart := false, narrowed := true }
def FnExactFacesOfEdgeUptoSaid : Prop := fnExactFacesOfEdgeUptoRow.holds Try.pinned (OpenSpec.upto fnExactFacesOfEdgeSpec)

/-- 'laws.FnExactUncoveredArea', WHERE WHAT IT READS IS OF BULK AT MOST 1048576: true; the input reads as it did. -/
def fnExactUncoveredAreaUptoRow : OpenClaim := { program := "ytbidbleghlcegaa", sum := "8dac37ed7060d762809ede8d9fa18f6b91056a1ed853e46d6d4f280e323e5655", func := "loop.example/g00956/laws.FnExactUncoveredArea", spec := "fnExactUncoveredArea", unfollowed := true, recurses := true, plainKeys := false, apart := false, narrowed := true }
def FnExactUncoveredAreaUptoSaid : Prop := fnExactUncoveredAreaUptoRow.holds Try.pinned (OpenSpec.upto fnExactUncoveredAreaSpec)

/-- 'laws.FnExactFaceAt', WHERE WHAT IT READS IS OF BULK AT MOST 1048576: true; the input reads as it did. -/
def fnExactFaceAtUptoRow : OpenClaim := { program := "ytbidbleghlcegaa", sum := "8dac37ed7060d762809ede8d9fa18f6b91056a1ed853e46d6d4f280e323e5655", func := "loop.example/g00956/laws.FnExactFaceAt", spec := "fnExactFaceAt", unfollowed := true, recurses := true, plainKeys := false, apart := false, narrowed := true }
def FnExactFaceAtUptoSaid : Prop := fnExactFaceAtUptoRow.holds Try.pinned (OpenSpec.upto fnExactFaceAtSpec)

/-- 'laws.FnExactIsDiagonal', WHERE WHAT IT READS IS OF BULK AT MOST 1048576: true; the input reads as it did. -/
def fnExactIsDiagonalUptoRow : OpenClaim := { program := "ytbidbleghlcegaa", sum := "8dac37ed7060d762809ede8d9fa18f6b91056a1ed853e46d6d4f280e323e5655", func := "loop.example/g00956/laws.FnExactIsDiagonal", spec := "fnExactIsDiagonal", unfollowed := true, recurses := true, plainKeys := false, apart := false, narrowed := true }
def FnExactIsDiagonalUptoSaid : Prop := fnExactIsDiagonalUptoRow.holds Try.pinned (OpenSpec.upto fnExactIsDiagonalSpec)

/-- 'laws.FnExactDiagonalsOf', WHERE WHAT IT READS IS OF BULK AT MOST 1048576: true; the input reads as it did. -/
def fnExactDiagonalsOfUptoRow : OpenClaim := { program := "ytbidbleghlcegaa", sum := "8dac37ed7060d762809ede8d9fa18f6b91056a1ed853e46d6d4f280e323e5655", func := "loop.example/g00956/laws.FnExactDiagonalsOf", spec := "fnExactDiagonalsOf", unfollowed := true, recurses := true, plainKeys := false, apart := false, narrowed := true }
def FnExactDiagonalsOfUptoSaid : Prop := fnExactDiagonalsOfUptoRow.holds Try.pinned (OpenSpec.upto fnExactDiagonalsOfSpec)

/-- 'laws.FnExactTriangulate', WHERE WHAT IT READS IS OF BULK AT MOST 1048576: true; the input reads as it did. -/
def fnExactTriangulateUptoRow : OpenClaim := { program := "ytbidbleghlcegaa", sum := "8dac37ed7060d762809ede8d9fa18f6b91056a1ed853e46d6d4f280e323e5655", func := "loop.example/g00956/laws.FnExactTriangulate", spec := "fnExactTriangulate", unfollowed := true, recurses := true, plainKeys := false, apart := false, narrowed := true }
def FnExactTriangulateUptoSaid : Prop := fnExactTriangulateUptoRow.holds Try.pinned (OpenSpec.upto fnExactTriangulateSpec)

/-- 'laws.FnExactDisjoint', WHERE WHAT IT READS IS OF BULK AT MOST 1048576: true; the input reads as it did. -/
def fnExactDisjointUptoRow : OpenClaim := { program := "ytbidbleghlcegaa", sum := "8dac37ed7060d762809ede8d9fa18f6b91056a1ed853e46d6d4f280e323e5655", func := "loop.example/g00956/laws.FnExactDisjoint", spec := "fnExactDisjoint", unfollowed := true, recurses := true, plainKeys := false, apart := false, narrowed := true }
def FnExactDisjointUptoSaid : Prop := fnExactDisjointUptoRow.holds Try.pinned (OpenSpec.upto fnExactDisjointSpec)

/-- 'laws.FnExactPolygonDistance', WHERE WHAT IT READS IS OF BULK AT MOST 1048576: true; the input reads as it did. -/
def fnExactPolygonDistanceUptoRow : OpenClaim := { program := "ytbidbleghlcegaa", sum := "8dac37ed7060d762809ede8d9fa18f6b91056a1ed853e46d6d4f280e323e5655", func := "loop.example/g00956/laws.FnExactPolygonDistance", spec := "fnExactPolygonDistance", unfollowed := true, recurses := true, plainKeys := false, apart := false, narrowed := true }
def FnExactPolygonDistanceUptoSaid : Prop := fnExactPolygonDistanceUptoRow.holds Try.pinned (OpenSpec.upto fnExactPolygonDistanceSpec)

/-- 'laws.FnExactJoinPolygons', WHERE WHAT IT READS IS OF BULK AT MOST 1048576: true; the input reads as it did. -/
def fnExactJoinPolygonsUptoRow : OpenClaim := { program := "ytbidbleghlcegaa", sum := "8dac37ed7060d762809ede8d9fa18f6b91056a1ed853e46d6d4f280e323e5655", func := "loop.example/g00956/laws.FnExactJoinPolygons", spec := "fnExactJoinPolygons", unfollowed := true, recurses := true, plainKeys := false, apart := false, narrowed := true }
def FnExactJoinPolygonsUptoSaid : Prop := fnExactJoinPolygonsUptoRow.holds Try.pinned (OpenSpec.upto fnExactJoinPolygonsSpec)

/-- 'laws.FnExactHullOf', WHERE WHAT IT READS IS OF BULK AT MOST 1048576: true; the input reads as it did. -/
def fnExactHullOfUptoRow : OpenClaim := { program := "ytbidbleghlcegaa", sum := "8dac37ed7060d762809ede8d9fa18f6b91056a1ed853e46d6d4f280e323e5655", func := "loop.example/g00956/laws.FnExactHullOf", spec := "fnExactHullOf", unfollowed := true, recurses := true, plainKeys := false, apart := false, narrowed := true }
def FnExactHullOfUptoSaid : Prop := fnExactHullOfUptoRow.holds Try.pinned (OpenSpec.upto fnExactHullOfSpec)

end Rows
end Go.Proofs.Ytbidbleghlcegaa
