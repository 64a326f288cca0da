/-
  No cell of these rows narrows 'for every input' (looked for: loops, veiled, ifaces, maps, wideKeys, modest, calm, conditions, laid).
  DERIVED. THE GIVEN ROWS OF THIS SEAT. 13 by the template 'for every input the law returns true; each argument reads behind the call as it read before'; 0 by the template 'total and deterministic' (their statements: YtjhmpmaademdcaaTotals.lean).
  GIVEN WITH THE SEED: the statements are not yours to turn. If you find one false, say at which input.
  Laid BY PROGRAM, IN A SANDBOX (cutbox-rows.mjs): the forced cells as the released guide's own fill.sh prints them over the translation 70fa691ce7638b93… (all of the seat's roots in one cut). By AI agents, Wed Nov 11 2026. No macro, syntax, notation, axiom, sorry.
-/
import Derived.Test.YtjhmpmaademdcaaChecked
import GoSem.Claim
import GoSem.ClaimJoined
import GoSem.ClaimMapViews
import Derived.JoinedTies
import Derived.KernelRfl
namespace Go.Proofs.Ytjhmpmaademdcaa
/- THE CELL 'sum', in the pinned program and in every row, IS THE sha256 OF THE DUMP (.gsa) THAT YtjhmpmaademdcaaProg.lean LOADS. Nothing in Lean hashes anything: it is a label: what it is worth is what the hold of that sum in a sandbox is worth. -/
noncomputable def Try.pinned : Pinned := { name := "ytjhmpmaademdcaa", sum := "70fa691ce7638b933310b216440448f1675f5524ab4d2270126f42dfcf474667", checked := Try.checked }
namespace Rows
def none {H : Type} : Left H := { results := [], args := [] }

/-- 'laws.FnExactInside': WHATEVER THE INPUT: true; the input reads as it did. -/
def fnExactInsideSpec : ChangeSpec := { name := "fnExactInside", fn := fun _ => fun
  | [d1, d2] => { results := [.lit (.bool true)], args := [d1, d2] }
  | _ => none }
def fnExactInsideRow : OpenClaim := { program := "ytjhmpmaademdcaa", sum := "70fa691ce7638b933310b216440448f1675f5524ab4d2270126f42dfcf474667", func := "loop.example/g00956/laws.FnExactInside", spec := "fnExactInside", unfollowed := true, recurses := true, plainKeys := false, apart := false }
def FnExactInsideSaid : Prop := fnExactInsideRow.holds Try.pinned (OpenSpec.ofChange fnExactInsideSpec)

/-- ITS FALSE NEIGHBOUR: 'it returns false'. Refute it at one input. -/
def fnExactInsideWrong : ChangeSpec := { name := "fnExactInside", fn := fun _ => fun
  | [d1, d2] => { results := [.lit (.bool false)], args := [d1, d2] }
  | _ => none }
def FnExactInsideWrongFalsely : Prop := fnExactInsideRow.holds Try.pinned (OpenSpec.ofChange fnExactInsideWrong)

/-- 'laws.FnExactInTriangle': WHATEVER THE INPUT: true; the input reads as it did. -/
def fnExactInTriangleSpec : ChangeSpec := { name := "fnExactInTriangle", fn := fun _ => fun
  | [d1, d2, d3, d4] => { results := [.lit (.bool true)], args := [d1, d2, d3, d4] }
  | _ => none }
def fnExactInTriangleRow : OpenClaim := { program := "ytjhmpmaademdcaa", sum := "70fa691ce7638b933310b216440448f1675f5524ab4d2270126f42dfcf474667", func := "loop.example/g00956/laws.FnExactInTriangle", spec := "fnExactInTriangle", plainKeys := false, apart := false }
def FnExactInTriangleSaid : Prop := fnExactInTriangleRow.holds Try.pinned (OpenSpec.ofChange fnExactInTriangleSpec)

/-- ITS FALSE NEIGHBOUR: 'it returns false'. Refute it at one input. -/
def fnExactInTriangleWrong : ChangeSpec := { name := "fnExactInTriangle", fn := fun _ => fun
  | [d1, d2, d3, d4] => { results := [.lit (.bool false)], args := [d1, d2, d3, d4] }
  | _ => none }
def FnExactInTriangleWrongFalsely : Prop := fnExactInTriangleRow.holds Try.pinned (OpenSpec.ofChange fnExactInTriangleWrong)

/-- 'laws.FnExactIsDiagonal': WHATEVER THE INPUT: true; the input reads as it did. -/
def fnExactIsDiagonalSpec : ChangeSpec := { name := "fnExactIsDiagonal", fn := fun _ => fun
  | [d1, d2, d3] => { results := [.lit (.bool true)], args := [d1, d2, d3] }
  | _ => none }
def fnExactIsDiagonalRow : OpenClaim := { program := "ytjhmpmaademdcaa", sum := "70fa691ce7638b933310b216440448f1675f5524ab4d2270126f42dfcf474667", func := "loop.example/g00956/laws.FnExactIsDiagonal", spec := "fnExactIsDiagonal", unfollowed := true, recurses := true, plainKeys := false, apart := false }
def FnExactIsDiagonalSaid : Prop := fnExactIsDiagonalRow.holds Try.pinned (OpenSpec.ofChange fnExactIsDiagonalSpec)

/-- ITS FALSE NEIGHBOUR: 'it returns false'. Refute it at one input. -/
def fnExactIsDiagonalWrong : ChangeSpec := { name := "fnExactIsDiagonal", fn := fun _ => fun
  | [d1, d2, d3] => { results := [.lit (.bool false)], args := [d1, d2, d3] }
  | _ => none }
def FnExactIsDiagonalWrongFalsely : Prop := fnExactIsDiagonalRow.holds Try.pinned (OpenSpec.ofChange fnExactIsDiagonalWrong)

/-- 'laws.FnExactDiagonalsOf': WHATEVER THE INPUT: true; the input reads as it did. -/
def fnExactDiagonalsOfSpec : ChangeSpec := { name := "fnExactDiagonalsOf", fn := fun _ => fun
  | [d] => { results := [.lit (.bool true)], args := [d] }
  | _ => none }
def fnExactDiagonalsOfRow : OpenClaim := { program := "ytjhmpmaademdcaa", sum := "70fa691ce7638b933310b216440448f1675f5524ab4d2270126f42dfcf474667", func := "loop.example/g00956/laws.FnExactDiagonalsOf", spec := "fnExactDiagonalsOf", unfollowed := true, recurses := true, plainKeys := false, apart := false }
def FnExactDiagonalsOfSaid : Prop := fnExactDiagonalsOfRow.holds Try.pinned (OpenSpec.ofChange fnExactDiagonalsOfSpec)

/-- ITS FALSE NEIGHBOUR: 'it returns false'. Refute it at one input. -/
def fnExactDiagonalsOfWrong : ChangeSpec := { name := "fnExactDiagonalsOf", fn := fun _ => fun
  | [d] => { results := [.lit (.bool false)], args := [d] }
  | _ => none }
def FnExactDiagonalsOfWrongFalsely : Prop := fnExactDiagonalsOfRow.holds Try.pinned (OpenSpec.ofChange fnExactDiagonalsOfWrong)

/-- 'laws.FnExactEarsOf': WHATEVER THE INPUT: true; the input reads as it did. -/
def fnExactEarsOfSpec : ChangeSpec := { name := "fnExactEarsOf", fn := fun _ => fun
  | [d] => { results := [.lit (.bool true)], args := [d] }
  | _ => none }
def fnExactEarsOfRow : OpenClaim := { program := "ytjhmpmaademdcaa", sum := "70fa691ce7638b933310b216440448f1675f5524ab4d2270126f42dfcf474667", func := "loop.example/g00956/laws.FnExactEarsOf", spec := "fnExactEarsOf", unfollowed := true, recurses := true, plainKeys := false, apart := false }
def FnExactEarsOfSaid : Prop := fnExactEarsOfRow.holds Try.pinned (OpenSpec.ofChange fnExactEarsOfSpec)

/-- ITS FALSE NEIGHBOUR: 'it returns false'. Refute it at one input. -/
def fnExactEarsOfWrong : ChangeSpec := { name := "fnExactEarsOf", fn := fun _ => fun
  | [d] => { results := [.lit (.bool false)], args := [d] }
  | _ => none }
def FnExactEarsOfWrongFalsely : Prop := fnExactEarsOfRow.holds Try.pinned (OpenSpec.ofChange fnExactEarsOfWrong)

/-- 'laws.FnExactTriangulate': WHATEVER THE INPUT: true; the input reads as it did. -/
def fnExactTriangulateSpec : ChangeSpec := { name := "fnExactTriangulate", fn := fun _ => fun
  | [d] => { results := [.lit (.bool true)], args := [d] }
  | _ => none }
def fnExactTriangulateRow : OpenClaim := { program := "ytjhmpmaademdcaa", sum := "70fa691ce7638b933310b216440448f1675f5524ab4d2270126f42dfcf474667", func := "loop.example/g00956/laws.FnExactTriangulate", spec := "fnExactTriangulate", unfollowed := true, recurses := true, plainKeys := false, apart := false }
def FnExactTriangulateSaid : Prop := fnExactTriangulateRow.holds Try.pinned (OpenSpec.ofChange fnExactTriangulateSpec)

/-- ITS FALSE NEIGHBOUR: 'it returns false'. Refute it at one input. -/
def fnExactTriangulateWrong : ChangeSpec := { name := "fnExactTriangulate", fn := fun _ => fun
  | [d] => { results := [.lit (.bool false)], args := [d] }
  | _ => none }
def FnExactTriangulateWrongFalsely : Prop := fnExactTriangulateRow.holds Try.pinned (OpenSpec.ofChange fnExactTriangulateWrong)

/-- 'laws.FnExactDisjoint': WHATEVER THE INPUT: true; the input reads as it did. -/
def fnExactDisjointSpec : ChangeSpec := { name := "fnExactDisjoint", fn := fun _ => fun
  | [d1, d2] => { results := [.lit (.bool true)], args := [d1, d2] }
  | _ => none }
def fnExactDisjointRow : OpenClaim := { program := "ytjhmpmaademdcaa", sum := "70fa691ce7638b933310b216440448f1675f5524ab4d2270126f42dfcf474667", func := "loop.example/g00956/laws.FnExactDisjoint", spec := "fnExactDisjoint", unfollowed := true, recurses := true, plainKeys := false, apart := false }
def FnExactDisjointSaid : Prop := fnExactDisjointRow.holds Try.pinned (OpenSpec.ofChange fnExactDisjointSpec)

/-- ITS FALSE NEIGHBOUR: 'it returns false'. Refute it at one input. -/
def fnExactDisjointWrong : ChangeSpec := { name := "fnExactDisjoint", fn := fun _ => fun
  | [d1, d2] => { results := [.lit (.bool false)], args := [d1, d2] }
  | _ => none }
def FnExactDisjointWrongFalsely : Prop := fnExactDisjointRow.holds Try.pinned (OpenSpec.ofChange fnExactDisjointWrong)

/-- 'laws.FnExactPolygonDistance': WHATEVER THE INPUT: true; the input reads as it did. -/
def fnExactPolygonDistanceSpec : ChangeSpec := { name := "fnExactPolygonDistance", fn := fun _ => fun
  | [d1, d2] => { results := [.lit (.bool true)], args := [d1, d2] }
  | _ => none }
def fnExactPolygonDistanceRow : OpenClaim := { program := "ytjhmpmaademdcaa", sum := "70fa691ce7638b933310b216440448f1675f5524ab4d2270126f42dfcf474667", func := "loop.example/g00956/laws.FnExactPolygonDistance", spec := "fnExactPolygonDistance", unfollowed := true, recurses := true, plainKeys := false, apart := false }
def FnExactPolygonDistanceSaid : Prop := fnExactPolygonDistanceRow.holds Try.pinned (OpenSpec.ofChange fnExactPolygonDistanceSpec)

/-- ITS FALSE NEIGHBOUR: 'it returns false'. Refute it at one input. -/
def fnExactPolygonDistanceWrong : ChangeSpec := { name := "fnExactPolygonDistance", fn := fun _ => fun
  | [d1, d2] => { results := [.lit (.bool false)], args := [d1, d2] }
  | _ => none }
def FnExactPolygonDistanceWrongFalsely : Prop := fnExactPolygonDistanceRow.holds Try.pinned (OpenSpec.ofChange fnExactPolygonDistanceWrong)

/-- 'laws.FnExactJoinPolygons': WHATEVER THE INPUT: true; the input reads as it did. -/
def fnExactJoinPolygonsSpec : ChangeSpec := { name := "fnExactJoinPolygons", fn := fun _ => fun
  | [d1, d2] => { results := [.lit (.bool true)], args := [d1, d2] }
  | _ => none }
def fnExactJoinPolygonsRow : OpenClaim := { program := "ytjhmpmaademdcaa", sum := "70fa691ce7638b933310b216440448f1675f5524ab4d2270126f42dfcf474667", func := "loop.example/g00956/laws.FnExactJoinPolygons", spec := "fnExactJoinPolygons", unfollowed := true, recurses := true, plainKeys := false, apart := false }
def FnExactJoinPolygonsSaid : Prop := fnExactJoinPolygonsRow.holds Try.pinned (OpenSpec.ofChange fnExactJoinPolygonsSpec)

/-- ITS FALSE NEIGHBOUR: 'it returns false'. Refute it at one input. -/
def fnExactJoinPolygonsWrong : ChangeSpec := { name := "fnExactJoinPolygons", fn := fun _ => fun
  | [d1, d2] => { results := [.lit (.bool false)], args := [d1, d2] }
  | _ => none }
def FnExactJoinPolygonsWrongFalsely : Prop := fnExactJoinPolygonsRow.holds Try.pinned (OpenSpec.ofChange fnExactJoinPolygonsWrong)

/-- 'laws.FnExactHullOf': WHATEVER THE INPUT: true; the input reads as it did. -/
def fnExactHullOfSpec : ChangeSpec := { name := "fnExactHullOf", fn := fun _ => fun
  | [d] => { results := [.lit (.bool true)], args := [d] }
  | _ => none }
def fnExactHullOfRow : OpenClaim := { program := "ytjhmpmaademdcaa", sum := "70fa691ce7638b933310b216440448f1675f5524ab4d2270126f42dfcf474667", func := "loop.example/g00956/laws.FnExactHullOf", spec := "fnExactHullOf", unfollowed := true, recurses := true, plainKeys := false, apart := false }
def FnExactHullOfSaid : Prop := fnExactHullOfRow.holds Try.pinned (OpenSpec.ofChange fnExactHullOfSpec)

/-- ITS FALSE NEIGHBOUR: 'it returns false'. Refute it at one input. -/
def fnExactHullOfWrong : ChangeSpec := { name := "fnExactHullOf", fn := fun _ => fun
  | [d] => { results := [.lit (.bool false)], args := [d] }
  | _ => none }
def FnExactHullOfWrongFalsely : Prop := fnExactHullOfRow.holds Try.pinned (OpenSpec.ofChange fnExactHullOfWrong)

/-- 'laws.FnInside': WHATEVER THE INPUT: true; the input reads as it did. -/
def fnInsideSpec : ChangeSpec := { name := "fnInside", fn := fun _ => fun
  | [d1, d2] => { results := [.lit (.bool true)], args := [d1, d2] }
  | _ => none }
def fnInsideRow : OpenClaim := { program := "ytjhmpmaademdcaa", sum := "70fa691ce7638b933310b216440448f1675f5524ab4d2270126f42dfcf474667", func := "loop.example/g00956/laws.FnInside", spec := "fnInside", unfollowed := true, recurses := true, plainKeys := false, apart := false }
def FnInsideSaid : Prop := fnInsideRow.holds Try.pinned (OpenSpec.ofChange fnInsideSpec)

/-- ITS FALSE NEIGHBOUR: 'it returns false'. Refute it at one input. -/
def fnInsideWrong : ChangeSpec := { name := "fnInside", fn := fun _ => fun
  | [d1, d2] => { results := [.lit (.bool false)], args := [d1, d2] }
  | _ => none }
def FnInsideWrongFalsely : Prop := fnInsideRow.holds Try.pinned (OpenSpec.ofChange fnInsideWrong)

/-- 'laws.FnSegments': WHATEVER THE INPUT: true; the input reads as it did. -/
def fnSegmentsSpec : ChangeSpec := { name := "fnSegments", fn := fun _ => fun
  | [d1, d2] => { results := [.lit (.bool true)], args := [d1, d2] }
  | _ => none }
def fnSegmentsRow : OpenClaim := { program := "ytjhmpmaademdcaa", sum := "70fa691ce7638b933310b216440448f1675f5524ab4d2270126f42dfcf474667", func := "loop.example/g00956/laws.FnSegments", spec := "fnSegments", unfollowed := true, recurses := true, plainKeys := false, apart := false }
def FnSegmentsSaid : Prop := fnSegmentsRow.holds Try.pinned (OpenSpec.ofChange fnSegmentsSpec)

/-- ITS FALSE NEIGHBOUR: 'it returns false'. Refute it at one input. -/
def fnSegmentsWrong : ChangeSpec := { name := "fnSegments", fn := fun _ => fun
  | [d1, d2] => { results := [.lit (.bool false)], args := [d1, d2] }
  | _ => none }
def FnSegmentsWrongFalsely : Prop := fnSegmentsRow.holds Try.pinned (OpenSpec.ofChange fnSegmentsWrong)

/-- 'laws.FnTriangles': WHATEVER THE INPUT: true; the input reads as it did. -/
def fnTrianglesSpec : ChangeSpec := { name := "fnTriangles", fn := fun _ => fun
  | [d1, d2] => { results := [.lit (.bool true)], args := [d1, d2] }
  | _ => none }
def fnTrianglesRow : OpenClaim := { program := "ytjhmpmaademdcaa", sum := "70fa691ce7638b933310b216440448f1675f5524ab4d2270126f42dfcf474667", func := "loop.example/g00956/laws.FnTriangles", spec := "fnTriangles", unfollowed := true, recurses := true, plainKeys := false, apart := false }
def FnTrianglesSaid : Prop := fnTrianglesRow.holds Try.pinned (OpenSpec.ofChange fnTrianglesSpec)

/-- ITS FALSE NEIGHBOUR: 'it returns false'. Refute it at one input. -/
def fnTrianglesWrong : ChangeSpec := { name := "fnTriangles", fn := fun _ => fun
  | [d1, d2] => { results := [.lit (.bool false)], args := [d1, d2] }
  | _ => none }
def FnTrianglesWrongFalsely : Prop := fnTrianglesRow.holds Try.pinned (OpenSpec.ofChange fnTrianglesWrong)

/- THE SECOND FORM. 'bulk': how many values and letters a reading holds, each counted each time it is reached (what is shared counts as often as it is met; a slice's spare places count too). A statement '..UptoSaid' is the law's where the arguments, and the package variables that the reading takes, are together of bulk at most 1048576: NARROWER than '..Said'. Prove '..Said' where nothing that the law and all that it calls make is longer than what came in: it says more and counts as full. Else prove '..UptoSaid'. A law counts once. -/
mutual
def uptoBulk {H : Type} : DataW H → Nat
  | .lit (.string bytes) => bytes.length + 1
  | .lit _ => 1
  | .nil => 1
  | .ptr d => uptoBulk d + 1
  | .slice elems spare => uptoBulkAll elems + uptoBulkAll spare + 1
  | .agg parts => uptoBulkAll parts + 1
  | .iface _ d => uptoBulk d + 1
  | .map entries => uptoBulkEntries entries + 1
  | .held _ => 1
def uptoBulkAll {H : Type} : List (DataW H) → Nat
  | [] => 0
  | d :: r => uptoBulk d + uptoBulkAll r
def uptoBulkEntries {H : Type} : List (Lit × DataW H) → Nat
  | [] => 0
  | x :: r => uptoBulkEntry x + uptoBulkEntries r
def uptoBulkEntry {H : Type} : Lit × DataW H → Nat
  | (.string bytes, d) => bytes.length + uptoBulk d + 1
  | (_, d) => uptoBulk d + 1
 end
def uptoSmall : (H : Type) → List (DataW H) → Bool := fun _ ds => decide (uptoBulkAll ds ≤ 1048576)
def OpenSpec.upto (s : _root_.Go.ChangeSpec) : _root_.Go.OpenSpec := { _root_.Go.OpenSpec.ofChange s with cond := some uptoSmall }

/-- 'laws.FnExactInside', WHERE WHAT IT READS IS OF BULK AT MOST 1048576: true; the input reads as it did. -/
def fnExactInsideUptoRow : OpenClaim := { program := "ytjhmpmaademdcaa", sum := "70fa691ce7638b933310b216440448f1675f5524ab4d2270126f42dfcf474667", func := "loop.example/g00956/laws.FnExactInside", spec := "fnExactInside", unfollowed := true, recurses := true, plainKeys := false, apart := false, narrowed := true }
def FnExactInsideUptoSaid : Prop := fnExactInsideUptoRow.holds Try.pinned (OpenSpec.upto fnExactInsideSpec)

/-- 'laws.FnExactInTriangle', WHERE WHAT IT READS IS OF BULK AT MOST 1048576: true; the input reads as it did. -/
def fnExactInTriangleUptoRow : OpenClaim := { program := "ytjhmpmaademdcaa", sum := "70fa691ce7638b933310b216440448f1675f5524ab4d2270126f42dfcf474667", func := "loop.example/g00956/laws.FnExactInTriangle", spec := "fnExactInTriangle", plainKeys := false, apart := false, narrowed := true }
def FnExactInTriangleUptoSaid : Prop := fnExactInTriangleUptoRow.holds Try.pinned (OpenSpec.upto fnExactInTriangleSpec)

/-- 'laws.FnExactIsDiagonal', WHERE WHAT IT READS IS OF BULK AT MOST 1048576: true; the input reads as it did. -/
def fnExactIsDiagonalUptoRow : OpenClaim := { program := "ytjhmpmaademdcaa", sum := "70fa691ce7638b933310b216440448f1675f5524ab4d2270126f42dfcf474667", func := "loop.example/g00956/laws.FnExactIsDiagonal", spec := "fnExactIsDiagonal", unfollowed := true, recurses := true, plainKeys := false, apart := false, narrowed := true }
def FnExactIsDiagonalUptoSaid : Prop := fnExactIsDiagonalUptoRow.holds Try.pinned (OpenSpec.upto fnExactIsDiagonalSpec)

/-- 'laws.FnExactDiagonalsOf', WHERE WHAT IT READS IS OF BULK AT MOST 1048576: true; the input reads as it did. -/
def fnExactDiagonalsOfUptoRow : OpenClaim := { program := "ytjhmpmaademdcaa", sum := "70fa691ce7638b933310b216440448f1675f5524ab4d2270126f42dfcf474667", func := "loop.example/g00956/laws.FnExactDiagonalsOf", spec := "fnExactDiagonalsOf", unfollowed := true, recurses := true, plainKeys := false, apart := false, narrowed := true }
def FnExactDiagonalsOfUptoSaid : Prop := fnExactDiagonalsOfUptoRow.holds Try.pinned (OpenSpec.upto fnExactDiagonalsOfSpec)

/-- 'laws.FnExactEarsOf', WHERE WHAT IT READS IS OF BULK AT MOST 1048576: true; the input reads as it did. -/
def fnExactEarsOfUptoRow : OpenClaim := { program := "ytjhmpmaademdcaa", sum := "70fa691ce7638b933310b216440448f1675f5524ab4d2270126f42dfcf474667", func := "loop.example/g00956/laws.FnExactEarsOf", spec := "fnExactEarsOf", unfollowed := true, recurses := true, plainKeys := false, apart := false, narrowed := true }
def FnExactEarsOfUptoSaid : Prop := fnExactEarsOfUptoRow.holds Try.pinned (OpenSpec.upto fnExactEarsOfSpec)

/-- 'laws.FnExactTriangulate', WHERE WHAT IT READS IS OF BULK AT MOST 1048576: true; the input reads as it did. -/
def fnExactTriangulateUptoRow : OpenClaim := { program := "ytjhmpmaademdcaa", sum := "70fa691ce7638b933310b216440448f1675f5524ab4d2270126f42dfcf474667", func := "loop.example/g00956/laws.FnExactTriangulate", spec := "fnExactTriangulate", unfollowed := true, recurses := true, plainKeys := false, apart := false, narrowed := true }
def FnExactTriangulateUptoSaid : Prop := fnExactTriangulateUptoRow.holds Try.pinned (OpenSpec.upto fnExactTriangulateSpec)

/-- 'laws.FnExactDisjoint', WHERE WHAT IT READS IS OF BULK AT MOST 1048576: true; the input reads as it did. -/
def fnExactDisjointUptoRow : OpenClaim := { program := "ytjhmpmaademdcaa", sum := "70fa691ce7638b933310b216440448f1675f5524ab4d2270126f42dfcf474667", func := "loop.example/g00956/laws.FnExactDisjoint", spec := "fnExactDisjoint", unfollowed := true, recurses := true, plainKeys := false, apart := false, narrowed := true }
def FnExactDisjointUptoSaid : Prop := fnExactDisjointUptoRow.holds Try.pinned (OpenSpec.upto fnExactDisjointSpec)

/-- 'laws.FnExactPolygonDistance', WHERE WHAT IT READS IS OF BULK AT MOST 1048576: true; the input reads as it did. -/
def fnExactPolygonDistanceUptoRow : OpenClaim := { program := "ytjhmpmaademdcaa", sum := "70fa691ce7638b933310b216440448f1675f5524ab4d2270126f42dfcf474667", func := "loop.example/g00956/laws.FnExactPolygonDistance", spec := "fnExactPolygonDistance", unfollowed := true, recurses := true, plainKeys := false, apart := false, narrowed := true }
def FnExactPolygonDistanceUptoSaid : Prop := fnExactPolygonDistanceUptoRow.holds Try.pinned (OpenSpec.upto fnExactPolygonDistanceSpec)

/-- 'laws.FnExactJoinPolygons', WHERE WHAT IT READS IS OF BULK AT MOST 1048576: true; the input reads as it did. -/
def fnExactJoinPolygonsUptoRow : OpenClaim := { program := "ytjhmpmaademdcaa", sum := "70fa691ce7638b933310b216440448f1675f5524ab4d2270126f42dfcf474667", func := "loop.example/g00956/laws.FnExactJoinPolygons", spec := "fnExactJoinPolygons", unfollowed := true, recurses := true, plainKeys := false, apart := false, narrowed := true }
def FnExactJoinPolygonsUptoSaid : Prop := fnExactJoinPolygonsUptoRow.holds Try.pinned (OpenSpec.upto fnExactJoinPolygonsSpec)

/-- 'laws.FnExactHullOf', WHERE WHAT IT READS IS OF BULK AT MOST 1048576: true; the input reads as it did. -/
def fnExactHullOfUptoRow : OpenClaim := { program := "ytjhmpmaademdcaa", sum := "70fa691ce7638b933310b216440448f1675f5524ab4d2270126f42dfcf474667", func := "loop.example/g00956/laws.FnExactHullOf", spec := "fnExactHullOf", unfollowed := true, recurses := true, plainKeys := false, apart := false, narrowed := true }
def FnExactHullOfUptoSaid : Prop := fnExactHullOfUptoRow.holds Try.pinned (OpenSpec.upto fnExactHullOfSpec)

/-- 'laws.FnInside', WHERE WHAT IT READS IS OF BULK AT MOST 1048576: true; the input reads as it did. -/
def fnInsideUptoRow : OpenClaim := { program := "ytjhmpmaademdcaa", sum := "70fa691ce7638b933310b216440448f1675f5524ab4d2270126f42dfcf474667", func := "loop.example/g00956/laws.FnInside", spec := "fnInside", unfollowed := true, recurses := true, plainKeys := false, apart := false, narrowed := true }
def FnInsideUptoSaid : Prop := fnInsideUptoRow.holds Try.pinned (OpenSpec.upto fnInsideSpec)

/-- 'laws.FnSegments', WHERE WHAT IT READS IS OF BULK AT MOST 1048576: true; the input reads as it did. -/
def fnSegmentsUptoRow : OpenClaim := { program := "ytjhmpmaademdcaa", sum := "70fa691ce7638b933310b216440448f1675f5524ab4d2270126f42dfcf474667", func := "loop.example/g00956/laws.FnSegments", spec := "fnSegments", unfollowed := true, recurses := true, plainKeys := false, apart := false, narrowed := true }
def FnSegmentsUptoSaid : Prop := fnSegmentsUptoRow.holds Try.pinned (OpenSpec.upto fnSegmentsSpec)

/-- 'laws.FnTriangles', WHERE WHAT IT READS IS OF BULK AT MOST 1048576: true; the input reads as it did. -/
def fnTrianglesUptoRow : OpenClaim := { program := "ytjhmpmaademdcaa", sum := "70fa691ce7638b933310b216440448f1675f5524ab4d2270126f42dfcf474667", func := "loop.example/g00956/laws.FnTriangles", spec := "fnTriangles", unfollowed := true, recurses := true, plainKeys := false, apart := false, narrowed := true }
def FnTrianglesUptoSaid : Prop := fnTrianglesUptoRow.holds Try.pinned (OpenSpec.upto fnTrianglesSpec)

end Rows
end Go.Proofs.Ytjhmpmaademdcaa
