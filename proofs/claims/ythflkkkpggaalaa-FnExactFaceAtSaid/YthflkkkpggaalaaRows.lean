/-
  No cell of these rows narrows 'for every input' (looked for: loops, veiled, ifaces, maps, wideKeys, modest, calm, conditions, laid).
  DERIVED. THE GIVEN ROWS OF THIS SEAT. 7 by the template 'for every input the law returns true; each argument reads behind the call as it read before'; 0 by the template 'total and deterministic' (their statements: YthflkkkpggaalaaTotals.lean).
  GIVEN WITH THE SEED: the statements are not yours to turn. If you find one false, say at which input.
  Laid BY PROGRAM, IN A SANDBOX (cutbox-rows.mjs): the forced cells as the released guide's own fill.sh prints them over the translation 66afc2483fc4af47… (all of the seat's roots in one cut). By AI agents, Wed Nov 11 2026. No macro, syntax, notation, axiom, sorry.
-/
import Derived.Test.YthflkkkpggaalaaChecked
import GoSem.Claim
import GoSem.ClaimJoined
import GoSem.ClaimMapViews
import Derived.JoinedTies
import Derived.KernelRfl
namespace Go.Proofs.Ythflkkkpggaalaa
/- THE CELL 'sum', in the pinned program and in every row, IS THE sha256 OF THE DUMP (.gsa) THAT YthflkkkpggaalaaProg.lean LOADS. Nothing in Lean hashes anything: it is a label: what it is worth is what the hold of that sum in a sandbox is worth. -/
noncomputable def Try.pinned : Pinned := { name := "ythflkkkpggaalaa", sum := "66afc2483fc4af472fe5ca417db5ed5527a75b77ff582ffa9fac8c2078a5eade", checked := Try.checked }
namespace Rows
def none {H : Type} : Left H := { results := [], args := [] }

/-- 'laws.FnExactUncoveredArea': WHATEVER THE INPUT: true; the input reads as it did. -/
def fnExactUncoveredAreaSpec : ChangeSpec := { name := "fnExactUncoveredArea", fn := fun _ => fun
  | [d] => { results := [.lit (.bool true)], args := [d] }
  | _ => none }
def fnExactUncoveredAreaRow : OpenClaim := { program := "ythflkkkpggaalaa", sum := "66afc2483fc4af472fe5ca417db5ed5527a75b77ff582ffa9fac8c2078a5eade", func := "loop.example/g00956/laws.FnExactUncoveredArea", spec := "fnExactUncoveredArea", unfollowed := true, recurses := true, plainKeys := false, apart := false }
def FnExactUncoveredAreaSaid : Prop := fnExactUncoveredAreaRow.holds Try.pinned (OpenSpec.ofChange fnExactUncoveredAreaSpec)

/-- ITS FALSE NEIGHBOUR: 'it returns false'. Refute it at one input. -/
def fnExactUncoveredAreaWrong : ChangeSpec := { name := "fnExactUncoveredArea", fn := fun _ => fun
  | [d] => { results := [.lit (.bool false)], args := [d] }
  | _ => none }
def FnExactUncoveredAreaWrongFalsely : Prop := fnExactUncoveredAreaRow.holds Try.pinned (OpenSpec.ofChange fnExactUncoveredAreaWrong)

/-- 'laws.FnExactFaceAt': WHATEVER THE INPUT: true; the input reads as it did. -/
def fnExactFaceAtSpec : ChangeSpec := { name := "fnExactFaceAt", fn := fun _ => fun
  | [d1, d2] => { results := [.lit (.bool true)], args := [d1, d2] }
  | _ => none }
def fnExactFaceAtRow : OpenClaim := { program := "ythflkkkpggaalaa", sum := "66afc2483fc4af472fe5ca417db5ed5527a75b77ff582ffa9fac8c2078a5eade", func := "loop.example/g00956/laws.FnExactFaceAt", spec := "fnExactFaceAt", unfollowed := true, recurses := true, plainKeys := false, apart := false }
def FnExactFaceAtSaid : Prop := fnExactFaceAtRow.holds Try.pinned (OpenSpec.ofChange fnExactFaceAtSpec)

/-- ITS FALSE NEIGHBOUR: 'it returns false'. Refute it at one input. -/
def fnExactFaceAtWrong : ChangeSpec := { name := "fnExactFaceAt", fn := fun _ => fun
  | [d1, d2] => { results := [.lit (.bool false)], args := [d1, d2] }
  | _ => none }
def FnExactFaceAtWrongFalsely : Prop := fnExactFaceAtRow.holds Try.pinned (OpenSpec.ofChange fnExactFaceAtWrong)

/-- 'laws.FnExactIsDiagonal': WHATEVER THE INPUT: true; the input reads as it did. -/
def fnExactIsDiagonalSpec : ChangeSpec := { name := "fnExactIsDiagonal", fn := fun _ => fun
  | [d1, d2, d3] => { results := [.lit (.bool true)], args := [d1, d2, d3] }
  | _ => none }
def fnExactIsDiagonalRow : OpenClaim := { program := "ythflkkkpggaalaa", sum := "66afc2483fc4af472fe5ca417db5ed5527a75b77ff582ffa9fac8c2078a5eade", func := "loop.example/g00956/laws.FnExactIsDiagonal", spec := "fnExactIsDiagonal", unfollowed := true, recurses := true, plainKeys := false, apart := false }
def FnExactIsDiagonalSaid : Prop := fnExactIsDiagonalRow.holds Try.pinned (OpenSpec.ofChange fnExactIsDiagonalSpec)

/-- ITS FALSE NEIGHBOUR: 'it returns false'. Refute it at one input. -/
def fnExactIsDiagonalWrong : ChangeSpec := { name := "fnExactIsDiagonal", fn := fun _ => fun
  | [d1, d2, d3] => { results := [.lit (.bool false)], args := [d1, d2, d3] }
  | _ => none }
def FnExactIsDiagonalWrongFalsely : Prop := fnExactIsDiagonalRow.holds Try.pinned (OpenSpec.ofChange fnExactIsDiagonalWrong)

/-- 'laws.FnExactFacesOfEdge': WHATEVER THE INPUT: true; the input reads as it did. -/
def fnExactFacesOfEdgeSpec : ChangeSpec := { name := "fnExactFacesOfEdge", fn := fun _ => fun
  | [d1, d2, d3] => { results := [.lit (.bool true)], args := [d1, d2, d3] }
  | _ => none }
def fnExactFacesOfEdgeRow : OpenClaim := { program := "ythflkkkpggaalaa", sum := "66afc2483fc4af472fe5ca417db5ed5527a75b77ff582ffa9fac8c2078a5eade", func := "loop.example/g00956/laws.FnExactFacesOfEdge", spec := "fnExactFacesOfEdge", unfollowed := true, recurses := true, plainKeys := false, apart := false }
def FnExactFacesOfEdgeSaid : Prop := fnExactFacesOfEdgeRow.holds Try.pinned (OpenSpec.ofChange fnExactFacesOfEdgeSpec)

/-- ITS FALSE NEIGHBOUR: 'it returns false'. Refute it at one input. -/
def fnExactFacesOfEdgeWrong : ChangeSpec := { name := "fnExactFacesOfEdge", fn := fun _ => fun
  | [d1, d2, d3] => { results := [.lit (.bool false)], args := [d1, d2, d3] }
  | _ => none }
def FnExactFacesOfEdgeWrongFalsely : Prop := fnExactFacesOfEdgeRow.holds Try.pinned (OpenSpec.ofChange fnExactFacesOfEdgeWrong)

/-- 'laws.FnExactSnapDrawing': WHATEVER THE INPUT: true; the input reads as it did. -/
def fnExactSnapDrawingSpec : ChangeSpec := { name := "fnExactSnapDrawing", fn := fun _ => fun
  | [d1, d2] => { results := [.lit (.bool true)], args := [d1, d2] }
  | _ => none }
def fnExactSnapDrawingRow : OpenClaim := { program := "ythflkkkpggaalaa", sum := "66afc2483fc4af472fe5ca417db5ed5527a75b77ff582ffa9fac8c2078a5eade", func := "loop.example/g00956/laws.FnExactSnapDrawing", spec := "fnExactSnapDrawing", unfollowed := true, recurses := true, plainKeys := false, apart := false }
def FnExactSnapDrawingSaid : Prop := fnExactSnapDrawingRow.holds Try.pinned (OpenSpec.ofChange fnExactSnapDrawingSpec)

/-- ITS FALSE NEIGHBOUR: 'it returns false'. Refute it at one input. -/
def fnExactSnapDrawingWrong : ChangeSpec := { name := "fnExactSnapDrawing", fn := fun _ => fun
  | [d1, d2] => { results := [.lit (.bool false)], args := [d1, d2] }
  | _ => none }
def FnExactSnapDrawingWrongFalsely : Prop := fnExactSnapDrawingRow.holds Try.pinned (OpenSpec.ofChange fnExactSnapDrawingWrong)

/-- 'laws.FnExactDropUnused': WHATEVER THE INPUT: true; the input reads as it did. -/
def fnExactDropUnusedSpec : ChangeSpec := { name := "fnExactDropUnused", fn := fun _ => fun
  | [d] => { results := [.lit (.bool true)], args := [d] }
  | _ => none }
def fnExactDropUnusedRow : OpenClaim := { program := "ythflkkkpggaalaa", sum := "66afc2483fc4af472fe5ca417db5ed5527a75b77ff582ffa9fac8c2078a5eade", func := "loop.example/g00956/laws.FnExactDropUnused", spec := "fnExactDropUnused", unfollowed := true, recurses := true, plainKeys := false, apart := false }
def FnExactDropUnusedSaid : Prop := fnExactDropUnusedRow.holds Try.pinned (OpenSpec.ofChange fnExactDropUnusedSpec)

/-- ITS FALSE NEIGHBOUR: 'it returns false'. Refute it at one input. -/
def fnExactDropUnusedWrong : ChangeSpec := { name := "fnExactDropUnused", fn := fun _ => fun
  | [d] => { results := [.lit (.bool false)], args := [d] }
  | _ => none }
def FnExactDropUnusedWrongFalsely : Prop := fnExactDropUnusedRow.holds Try.pinned (OpenSpec.ofChange fnExactDropUnusedWrong)

/-- 'laws.FnExactSliversOf': WHATEVER THE INPUT: true; the input reads as it did. -/
def fnExactSliversOfSpec : ChangeSpec := { name := "fnExactSliversOf", fn := fun _ => fun
  | [d1, d2] => { results := [.lit (.bool true)], args := [d1, d2] }
  | _ => none }
def fnExactSliversOfRow : OpenClaim := { program := "ythflkkkpggaalaa", sum := "66afc2483fc4af472fe5ca417db5ed5527a75b77ff582ffa9fac8c2078a5eade", func := "loop.example/g00956/laws.FnExactSliversOf", spec := "fnExactSliversOf", unfollowed := true, recurses := true, plainKeys := false, apart := false }
def FnExactSliversOfSaid : Prop := fnExactSliversOfRow.holds Try.pinned (OpenSpec.ofChange fnExactSliversOfSpec)

/-- ITS FALSE NEIGHBOUR: 'it returns false'. Refute it at one input. -/
def fnExactSliversOfWrong : ChangeSpec := { name := "fnExactSliversOf", fn := fun _ => fun
  | [d1, d2] => { results := [.lit (.bool false)], args := [d1, d2] }
  | _ => none }
def FnExactSliversOfWrongFalsely : Prop := fnExactSliversOfRow.holds Try.pinned (OpenSpec.ofChange fnExactSliversOfWrong)

/- THE SECOND FORM. 'bulk': how many values and letters a reading holds, each counted each time it is reached (what is shared counts as often as it is met; a slice's spare places count too). A statement '..UptoSaid' is the law's where the arguments, and the package variables that the reading takes, are together of bulk at most 1048576: NARROWER than '..Said'. Prove '..Said' where nothing that the law and all that it calls make is longer than what came in: it says more and counts as full. Else prove '..UptoSaid'. A law counts once. -/
mutual
def uptoBulk {H : Type} : DataW H → Nat
  | .lit (.string bytes) => bytes.length + 1
  | .lit _ => 1
  | .nil => 1
  | .ptr d => uptoBulk d + 1
  | .slice elems spare => uptoBulkAll elems + uptoBulkAll spare + 1
  | .agg parts => uptoBulkAll parts + 1
  | .iface _ d => uptoBulk d + 1
  | .map entries => uptoBulkEntries entries + 1
  | .held _ => 1
def uptoBulkAll {H : Type} : List (DataW H) → Nat
  | [] => 0
  | d :: r => uptoBulk d + uptoBulkAll r
def uptoBulkEntries {H : Type} : List (Lit × DataW H) → Nat
  | [] => 0
  | x :: r => uptoBulkEntry x + uptoBulkEntries r
def uptoBulkEntry {H : Type} : Lit × DataW H → Nat
  | (.string bytes, d) => bytes.length + uptoBulk d + 1
  | (_, d) => uptoBulk d + 1
 end
def uptoSmall : (H : Type) → List (DataW H) → Bool := fun _ ds => decide (uptoBulkAll ds ≤ 1048576)
def OpenSpec.upto (s : _root_.Go.ChangeSpec) : _root_.Go.OpenSpec := { _root_.Go.OpenSpec.ofChange s with cond := some uptoSmall }

/-- 'laws.FnExactUncoveredArea', WHERE WHAT IT READS IS OF BULK AT MOST 1048576: true; the input reads as it did. -/
def fnExactUncoveredAreaUptoRow : OpenClaim := { program := "ythflkkkpggaalaa", sum := "66afc2483fc4af472fe5ca417db5ed5527a75b77ff582ffa9fac8c2078a5eade", func := "loop.example/g00956/laws.FnExactUncoveredArea", spec := "fnExactUncoveredArea", unfollowed := true, recurses := true, plainKeys := false, apart := false, narrowed := true }
def FnExactUncoveredAreaUptoSaid : Prop := fnExactUncoveredAreaUptoRow.holds Try.pinned (OpenSpec.upto fnExactUncoveredAreaSpec)

/-- 'laws.FnExactFaceAt', WHERE WHAT IT READS IS OF BULK AT MOST 1048576: true; the input reads as it did. -/
def fnExactFaceAtUptoRow : OpenClaim := { program := "ythflkkkpggaalaa", sum := "66afc2483fc4af472fe5ca417db5ed5527a75b77ff582ffa9fac8c2078a5eade", func := "loop.example/g00956/laws.FnExactFaceAt", spec := "fnExactFaceAt", unfollowed := true, recurses := true, plainKeys := false, apart := false, narrowed := true }
def FnExactFaceAtUptoSaid : Prop := fnExactFaceAtUptoRow.holds Try.pinned (OpenSpec.upto fnExactFaceAtSpec)

/-- 'laws.FnExactIsDiagonal', WHERE WHAT IT READS IS OF BULK AT MOST 1048576: true; the input reads as it did. -/
def fnExactIsDiagonalUptoRow : OpenClaim := { program := "ythflkkkpggaalaa", sum := "66afc2483fc4af472fe5ca417db5ed5527a75b77ff582ffa9fac8c2078a5eade", func := "loop.example/g00956/laws.FnExactIsDiagonal", spec := "fnExactIsDiagonal", unfollowed := true, recurses := true, plainKeys := false, apart := false, narrowed := true }
def FnExactIsDiagonalUptoSaid : Prop := fnExactIsDiagonalUptoRow.holds Try.pinned (OpenSpec.upto fnExactIsDiagonalSpec)

/-- 'laws.FnExactFacesOfEdge', WHERE WHAT IT READS IS OF BULK AT MOST 1048576: true; the input reads as it did. -/
def fnExactFacesOfEdgeUptoRow : OpenClaim := { program := "ythflkkkpggaalaa", sum := "66afc2483fc4af472fe5ca417db5ed5527a75b77ff582ffa9fac8c2078a5eade", func := "loop.example/g00956/laws.FnExactFacesOfEdge", spec := "fnExactFacesOfEdge", unfollowed := true, recurses := true, plainKeys := false, apart := false, narrowed := true }
def FnExactFacesOfEdgeUptoSaid : Prop := fnExactFacesOfEdgeUptoRow.holds Try.pinned (OpenSpec.upto fnExactFacesOfEdgeSpec)

/-- 'laws.FnExactSnapDrawing', WHERE WHAT IT READS IS OF BULK AT MOST 1048576: true; the input reads as it did. -/
def fnExactSnapDrawingUptoRow : OpenClaim := { program := "ythflkkkpggaalaa", sum := "66afc2483fc4af472fe5ca417db5ed5527a75b77ff582ffa9fac8c2078a5eade", func := "loop.example/g00956/laws.FnExactSnapDrawing", spec := "fnExactSnapDrawing", unfollowed := true, recurses := true, plainKeys := false, apart := false, narrowed := true }
def FnExactSnapDrawingUptoSaid : Prop := fnExactSnapDrawingUptoRow.holds Try.pinned (OpenSpec.upto fnExactSnapDrawingSpec)

/-- 'laws.FnExactDropUnused', WHERE WHAT IT READS IS OF BULK AT MOST 1048576: true; the input reads as it did. -/
def fnExactDropUnusedUptoRow : OpenClaim := { program := "ythflkkkpggaalaa", sum := "66afc2483fc4af472fe5ca417db5ed5527a75b77ff582ffa9fac8c2078a5eade", func := "loop.example/g00956/laws.FnExactDropUnused", spec := "fnExactDropUnused", unfollowed := true, recurses := true, plainKeys := false, apart := false, narrowed := true }
def FnExactDropUnusedUptoSaid : Prop := fnExactDropUnusedUptoRow.holds Try.pinned (OpenSpec.upto fnExactDropUnusedSpec)

/-- 'laws.FnExactSliversOf', WHERE WHAT IT READS IS OF BULK AT MOST 1048576: true; the input reads as it did. -/
def fnExactSliversOfUptoRow : OpenClaim := { program := "ythflkkkpggaalaa", sum := "66afc2483fc4af472fe5ca417db5ed5527a75b77ff582ffa9fac8c2078a5eade", func := "loop.example/g00956/laws.FnExactSliversOf", spec := "fnExactSliversOf", unfollowed := true, recurses := true, plainKeys := false, apart := false, narrowed := true }
def FnExactSliversOfUptoSaid : Prop := fnExactSliversOfUptoRow.holds Try.pinned (OpenSpec.upto fnExactSliversOfSpec)

end Rows
end Go.Proofs.Ythflkkkpggaalaa
