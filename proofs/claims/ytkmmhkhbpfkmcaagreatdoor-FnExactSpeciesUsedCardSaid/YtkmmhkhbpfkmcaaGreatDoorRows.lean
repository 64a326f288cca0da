/-
  NARROWER THAN 'FOR EVERY INPUT', by the rows' own cells (each row's printed sentence says how): FnExactValidPicture: laid · FnExactSpeciesUsed: laid · FnExactPictureShade: laid · FnExactRecolor: laid · FnExactTurnPicture: laid.
  DERIVED. THE GIVEN ROWS OF THIS SEAT. 5 by the template 'for every input the law returns true; each argument reads behind the call as it read before'; 0 by the template 'total and deterministic' (their statements: YtkmmhkhbpfkmcaaGreatDoorTotals.lean).
  GIVEN WITH THE SEED: the statements are not yours to turn. If you find one false, say at which input.
  Laid BY PROGRAM, IN A SANDBOX (cutbox-rows.mjs): the forced cells as the released guide's own fill.sh prints them over the translation 8b6179a3ddfd5a2c… (all of the seat's roots in one cut). By AI agents, Wed Nov 11 2026. No macro, syntax, notation, axiom, sorry.
-/
import Derived.Test.YtkmmhkhbpfkmcaaGreatDoorChecked
import GoSem.Claim
import GoSem.ClaimJoined
import GoSem.ClaimMapViews
import Derived.JoinedTies
import Derived.KernelRfl
namespace Go.Proofs.YtkmmhkhbpfkmcaaGreatDoor
/- THE CELL 'sum', in the pinned program and in every row, IS THE sha256 OF THE DUMP (.gsa) THAT YtkmmhkhbpfkmcaaGreatDoorProg.lean LOADS. Nothing in Lean hashes anything: it is a label: what it is worth is what the hold of that sum in a sandbox is worth. -/
noncomputable def Tryz.pinned : Pinned := { name := "ytkmmhkhbpfkmcaagreatdoor", sum := "8b6179a3ddfd5a2c9418bb224a536d56190fbe514121f8b126f601f142ad84d6", checked := Tryz.checked }
namespace Rows
def none {H : Type} : Left H := { results := [], args := [] }

/- WHAT THE LISTED PACKAGE-LEVEL VARIABLES READ AS WHEN THE CALL BEGINS. Each datum BY PROGRAM (the guide's laid-datum.mjs) off the statement by which the dump's own 'gosem.cut.vars' lays the variable. In a bare row this is a premise. The card (YtkmmhkhbpfkmcaaGreatDoorCards.lean) ties it to the program's text. -/
def laid_loop_example_g00956_impl_speciesTable {H : Type} : DataW H := .agg [.agg [.lit (.string [97, 115, 104]), .lit (.int .i64 20), .lit (.int .i64 40), .lit (.int .i64 310)], .agg [.lit (.string [98, 101, 101, 99, 104]), .lit (.int .i64 35), .lit (.int .i64 45), .lit (.int .i64 410)], .agg [.lit (.string [98, 105, 114, 99, 104]), .lit (.int .i64 15), .lit (.int .i64 33), .lit (.int .i64 280)], .agg [.lit (.string [99, 104, 101, 114, 114, 121]), .lit (.int .i64 50), .lit (.int .i64 36), .lit (.int .i64 240)], .agg [.lit (.string [101, 98, 111, 110, 121]), .lit (.int .i64 95), .lit (.int .i64 85), .lit (.int .i64 270)], .agg [.lit (.string [104, 111, 108, 108, 121]), .lit (.int .i64 5), .lit (.int .i64 35), .lit (.int .i64 370)], .agg [.lit (.string [109, 97, 112, 108, 101]), .lit (.int .i64 10), .lit (.int .i64 42), .lit (.int .i64 290)], .agg [.lit (.string [111, 97, 107]), .lit (.int .i64 40), .lit (.int .i64 40), .lit (.int .i64 330)], .agg [.lit (.string [114, 111, 115, 101, 119, 111, 111, 100]), .lit (.int .i64 80), .lit (.int .i64 60), .lit (.int .i64 220)], .agg [.lit (.string [119, 97, 108, 110, 117, 116]), .lit (.int .i64 70), .lit (.int .i64 38), .lit (.int .i64 260)]]

/-- 'laws.FnExactValidPicture': WHATEVER THE INPUT: true; the input reads as it did. -/
def fnExactValidPictureSpec : ChangeSpec := { name := "fnExactValidPicture", vars := ["loop.example/g00956/impl.speciesTable"], fn := fun _ => fun
  | [d, g1] => { results := [.lit (.bool true)], args := [d], vars := [g1] }
  | _ => none }
def fnExactValidPictureRow : OpenClaim := { program := "ytkmmhkhbpfkmcaagreatdoor", sum := "8b6179a3ddfd5a2c9418bb224a536d56190fbe514121f8b126f601f142ad84d6", func := "loop.example/g00956/laws.FnExactValidPicture", spec := "fnExactValidPicture", unfollowed := true, recurses := true, named := ["loop.example/g00956/impl.speciesTable"], plainKeys := false, apart := false, laid := [("loop.example/g00956/impl.speciesTable", laid_loop_example_g00956_impl_speciesTable)] }
def FnExactValidPictureSaid : Prop := fnExactValidPictureRow.holds Tryz.pinned (OpenSpec.ofChange fnExactValidPictureSpec)

/-- ITS FALSE NEIGHBOUR: 'it returns false'. Refute it at one input. -/
def fnExactValidPictureWrong : ChangeSpec := { name := "fnExactValidPicture", vars := ["loop.example/g00956/impl.speciesTable"], fn := fun _ => fun
  | [d, g1] => { results := [.lit (.bool false)], args := [d], vars := [g1] }
  | _ => none }
def FnExactValidPictureWrongFalsely : Prop := fnExactValidPictureRow.holds Tryz.pinned (OpenSpec.ofChange fnExactValidPictureWrong)

/-- 'laws.FnExactSpeciesUsed': WHATEVER THE INPUT: true; the input reads as it did. -/
def fnExactSpeciesUsedSpec : ChangeSpec := { name := "fnExactSpeciesUsed", vars := ["loop.example/g00956/impl.speciesTable"], fn := fun _ => fun
  | [d, g1] => { results := [.lit (.bool true)], args := [d], vars := [g1] }
  | _ => none }
def fnExactSpeciesUsedRow : OpenClaim := { program := "ytkmmhkhbpfkmcaagreatdoor", sum := "8b6179a3ddfd5a2c9418bb224a536d56190fbe514121f8b126f601f142ad84d6", func := "loop.example/g00956/laws.FnExactSpeciesUsed", spec := "fnExactSpeciesUsed", unfollowed := true, recurses := true, named := ["loop.example/g00956/impl.speciesTable"], plainKeys := false, apart := false, laid := [("loop.example/g00956/impl.speciesTable", laid_loop_example_g00956_impl_speciesTable)] }
def FnExactSpeciesUsedSaid : Prop := fnExactSpeciesUsedRow.holds Tryz.pinned (OpenSpec.ofChange fnExactSpeciesUsedSpec)

/-- ITS FALSE NEIGHBOUR: 'it returns false'. Refute it at one input. -/
def fnExactSpeciesUsedWrong : ChangeSpec := { name := "fnExactSpeciesUsed", vars := ["loop.example/g00956/impl.speciesTable"], fn := fun _ => fun
  | [d, g1] => { results := [.lit (.bool false)], args := [d], vars := [g1] }
  | _ => none }
def FnExactSpeciesUsedWrongFalsely : Prop := fnExactSpeciesUsedRow.holds Tryz.pinned (OpenSpec.ofChange fnExactSpeciesUsedWrong)

/-- 'laws.FnExactPictureShade': WHATEVER THE INPUT: true; the input reads as it did. -/
def fnExactPictureShadeSpec : ChangeSpec := { name := "fnExactPictureShade", vars := ["loop.example/g00956/impl.speciesTable"], fn := fun _ => fun
  | [d, g1] => { results := [.lit (.bool true)], args := [d], vars := [g1] }
  | _ => none }
def fnExactPictureShadeRow : OpenClaim := { program := "ytkmmhkhbpfkmcaagreatdoor", sum := "8b6179a3ddfd5a2c9418bb224a536d56190fbe514121f8b126f601f142ad84d6", func := "loop.example/g00956/laws.FnExactPictureShade", spec := "fnExactPictureShade", unfollowed := true, recurses := true, named := ["loop.example/g00956/impl.speciesTable"], plainKeys := false, apart := false, laid := [("loop.example/g00956/impl.speciesTable", laid_loop_example_g00956_impl_speciesTable)] }
def FnExactPictureShadeSaid : Prop := fnExactPictureShadeRow.holds Tryz.pinned (OpenSpec.ofChange fnExactPictureShadeSpec)

/-- ITS FALSE NEIGHBOUR: 'it returns false'. Refute it at one input. -/
def fnExactPictureShadeWrong : ChangeSpec := { name := "fnExactPictureShade", vars := ["loop.example/g00956/impl.speciesTable"], fn := fun _ => fun
  | [d, g1] => { results := [.lit (.bool false)], args := [d], vars := [g1] }
  | _ => none }
def FnExactPictureShadeWrongFalsely : Prop := fnExactPictureShadeRow.holds Tryz.pinned (OpenSpec.ofChange fnExactPictureShadeWrong)

/-- 'laws.FnExactRecolor': WHATEVER THE INPUT: true; the input reads as it did. -/
def fnExactRecolorSpec : ChangeSpec := { name := "fnExactRecolor", vars := ["loop.example/g00956/impl.speciesTable"], fn := fun _ => fun
  | [d1, d2, d3, g1] => { results := [.lit (.bool true)], args := [d1, d2, d3], vars := [g1] }
  | _ => none }
def fnExactRecolorRow : OpenClaim := { program := "ytkmmhkhbpfkmcaagreatdoor", sum := "8b6179a3ddfd5a2c9418bb224a536d56190fbe514121f8b126f601f142ad84d6", func := "loop.example/g00956/laws.FnExactRecolor", spec := "fnExactRecolor", unfollowed := true, recurses := true, named := ["loop.example/g00956/impl.speciesTable"], plainKeys := false, apart := false, laid := [("loop.example/g00956/impl.speciesTable", laid_loop_example_g00956_impl_speciesTable)] }
def FnExactRecolorSaid : Prop := fnExactRecolorRow.holds Tryz.pinned (OpenSpec.ofChange fnExactRecolorSpec)

/-- ITS FALSE NEIGHBOUR: 'it returns false'. Refute it at one input. -/
def fnExactRecolorWrong : ChangeSpec := { name := "fnExactRecolor", vars := ["loop.example/g00956/impl.speciesTable"], fn := fun _ => fun
  | [d1, d2, d3, g1] => { results := [.lit (.bool false)], args := [d1, d2, d3], vars := [g1] }
  | _ => none }
def FnExactRecolorWrongFalsely : Prop := fnExactRecolorRow.holds Tryz.pinned (OpenSpec.ofChange fnExactRecolorWrong)

/-- 'laws.FnExactTurnPicture': WHATEVER THE INPUT: true; the input reads as it did. -/
def fnExactTurnPictureSpec : ChangeSpec := { name := "fnExactTurnPicture", vars := ["loop.example/g00956/impl.speciesTable"], fn := fun _ => fun
  | [d1, d2, g1] => { results := [.lit (.bool true)], args := [d1, d2], vars := [g1] }
  | _ => none }
def fnExactTurnPictureRow : OpenClaim := { program := "ytkmmhkhbpfkmcaagreatdoor", sum := "8b6179a3ddfd5a2c9418bb224a536d56190fbe514121f8b126f601f142ad84d6", func := "loop.example/g00956/laws.FnExactTurnPicture", spec := "fnExactTurnPicture", unfollowed := true, recurses := true, named := ["loop.example/g00956/impl.speciesTable"], plainKeys := false, apart := false, laid := [("loop.example/g00956/impl.speciesTable", laid_loop_example_g00956_impl_speciesTable)] }
def FnExactTurnPictureSaid : Prop := fnExactTurnPictureRow.holds Tryz.pinned (OpenSpec.ofChange fnExactTurnPictureSpec)

/-- ITS FALSE NEIGHBOUR: 'it returns false'. Refute it at one input. -/
def fnExactTurnPictureWrong : ChangeSpec := { name := "fnExactTurnPicture", vars := ["loop.example/g00956/impl.speciesTable"], fn := fun _ => fun
  | [d1, d2, g1] => { results := [.lit (.bool false)], args := [d1, d2], vars := [g1] }
  | _ => none }
def FnExactTurnPictureWrongFalsely : Prop := fnExactTurnPictureRow.holds Tryz.pinned (OpenSpec.ofChange fnExactTurnPictureWrong)

/- THE SECOND FORM. 'bulk': how many values and letters a reading holds, each counted each time it is reached (what is shared counts as often as it is met; a slice's spare places count too). A statement '..UptoSaid' is the law's where the arguments, and the package variables that the reading takes, are together of bulk at most 1048576: NARROWER than '..Said'. Prove '..Said' where nothing that the law and all that it calls make is longer than what came in: it says more and counts as full. Else prove '..UptoSaid'. A law counts once. -/
mutual
def uptoBulk {H : Type} : DataW H → Nat
  | .lit (.string bytes) => bytes.length + 1
  | .lit _ => 1
  | .nil => 1
  | .ptr d => uptoBulk d + 1
  | .slice elems spare => uptoBulkAll elems + uptoBulkAll spare + 1
  | .agg parts => uptoBulkAll parts + 1
  | .iface _ d => uptoBulk d + 1
  | .map entries => uptoBulkEntries entries + 1
  | .held _ => 1
def uptoBulkAll {H : Type} : List (DataW H) → Nat
  | [] => 0
  | d :: r => uptoBulk d + uptoBulkAll r
def uptoBulkEntries {H : Type} : List (Lit × DataW H) → Nat
  | [] => 0
  | x :: r => uptoBulkEntry x + uptoBulkEntries r
def uptoBulkEntry {H : Type} : Lit × DataW H → Nat
  | (.string bytes, d) => bytes.length + uptoBulk d + 1
  | (_, d) => uptoBulk d + 1
 end
def uptoSmall : (H : Type) → List (DataW H) → Bool := fun _ ds => decide (uptoBulkAll ds ≤ 1048576)
def OpenSpec.upto (s : _root_.Go.ChangeSpec) : _root_.Go.OpenSpec := { _root_.Go.OpenSpec.ofChange s with cond := some uptoSmall }

/-- 'laws.FnExactValidPicture', WHERE WHAT IT READS IS OF BULK AT MOST 1048576: true; the input reads as it did. -/
def fnExactValidPictureUptoRow : OpenClaim := { program := "ytkmmhkhbpfkmcaagreatdoor", sum := "8b6179a3ddfd5a2c9418bb224a536d56190fbe514121f8b126f601f142ad84d6", func := "loop.example/g00956/laws.FnExactValidPicture", spec := "fnExactValidPicture", unfollowed := true, recurses := true, named := ["loop.example/g00956/impl.speciesTable"], plainKeys := false, apart := false, laid := [("loop.example/g00956/impl.speciesTable", laid_loop_example_g00956_impl_speciesTable)], narrowed := true }
def FnExactValidPictureUptoSaid : Prop := fnExactValidPictureUptoRow.holds Tryz.pinned (OpenSpec.upto fnExactValidPictureSpec)

/-- 'laws.FnExactSpeciesUsed', WHERE WHAT IT READS IS OF BULK AT MOST 1048576: true; the input reads as it did. -/
def fnExactSpeciesUsedUptoRow : OpenClaim := { program := "ytkmmhkhbpfkmcaagreatdoor", sum := "8b6179a3ddfd5a2c9418bb224a536d56190fbe514121f8b126f601f142ad84d6", func := "loop.example/g00956/laws.FnExactSpeciesUsed", spec := "fnExactSpeciesUsed", unfollowed := true, recurses := true, named := ["loop.example/g00956/impl.speciesTable"], plainKeys := false, apart := false, laid := [("loop.example/g00956/impl.speciesTable", laid_loop_example_g00956_impl_speciesTable)], narrowed := true }
def FnExactSpeciesUsedUptoSaid : Prop := fnExactSpeciesUsedUptoRow.holds Tryz.pinned (OpenSpec.upto fnExactSpeciesUsedSpec)

/-- 'laws.FnExactPictureShade', WHERE WHAT IT READS IS OF BULK AT MOST 1048576: true; the input reads as it did. -/
def fnExactPictureShadeUptoRow : OpenClaim := { program := "ytkmmhkhbpfkmcaagreatdoor", sum := "8b6179a3ddfd5a2c9418bb224a536d56190fbe514121f8b126f601f142ad84d6", func := "loop.example/g00956/laws.FnExactPictureShade", spec := "fnExactPictureShade", unfollowed := true, recurses := true, named := ["loop.example/g00956/impl.speciesTable"], plainKeys := false, apart := false, laid := [("loop.example/g00956/impl.speciesTable", laid_loop_example_g00956_impl_speciesTable)], narrowed := true }
def FnExactPictureShadeUptoSaid : Prop := fnExactPictureShadeUptoRow.holds Tryz.pinned (OpenSpec.upto fnExactPictureShadeSpec)

/-- 'laws.FnExactRecolor', WHERE WHAT IT READS IS OF BULK AT MOST 1048576: true; the input reads as it did. -/
def fnExactRecolorUptoRow : OpenClaim := { program := "ytkmmhkhbpfkmcaagreatdoor", sum := "8b6179a3ddfd5a2c9418bb224a536d56190fbe514121f8b126f601f142ad84d6", func := "loop.example/g00956/laws.FnExactRecolor", spec := "fnExactRecolor", unfollowed := true, recurses := true, named := ["loop.example/g00956/impl.speciesTable"], plainKeys := false, apart := false, laid := [("loop.example/g00956/impl.speciesTable", laid_loop_example_g00956_impl_speciesTable)], narrowed := true }
def FnExactRecolorUptoSaid : Prop := fnExactRecolorUptoRow.holds Tryz.pinned (OpenSpec.upto fnExactRecolorSpec)

/-- 'laws.FnExactTurnPicture', WHERE WHAT IT READS IS OF BULK AT MOST 1048576: true; the input reads as it did. -/
def fnExactTurnPictureUptoRow : OpenClaim := { program := "ytkmmhkhbpfkmcaagreatdoor", sum := "8b6179a3ddfd5a2c9418bb224a536d56190fbe514121f8b126f601f142ad84d6", func := "loop.example/g00956/laws.FnExactTurnPicture", spec := "fnExactTurnPicture", unfollowed := true, recurses := true, named := ["loop.example/g00956/impl.speciesTable"], plainKeys := false, apart := false, laid := [("loop.example/g00956/impl.speciesTable", laid_loop_example_g00956_impl_speciesTable)], narrowed := true }
def FnExactTurnPictureUptoSaid : Prop := fnExactTurnPictureUptoRow.holds Tryz.pinned (OpenSpec.upto fnExactTurnPictureSpec)

end Rows
end Go.Proofs.YtkmmhkhbpfkmcaaGreatDoor
