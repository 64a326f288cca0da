/-
  NARROWER THAN 'FOR EVERY INPUT', by the rows' own cells (each row's printed sentence says how): FnExactLeavesOf: ifaces, laid · FnExactFlitchOf: ifaces, laid · FnExactTrimLeaf: ifaces, laid · FnExactLeafText: laid · FnExactAddLeaf: ifaces, laid · FnExactDropLeaf: ifaces, laid · FnExactUsableArea: laid.
  DERIVED. THE GIVEN ROWS OF THIS SEAT. 7 by the template 'for every input the law returns true; each argument reads behind the call as it read before'; 0 by the template 'total and deterministic' (their statements: YthocpiklbcahgaaDoorTotals.lean).
  GIVEN WITH THE SEED: the statements are not yours to turn. If you find one false, say at which input.
  Laid BY PROGRAM, IN A SANDBOX (cutbox-rows.mjs): the forced cells as the released guide's own fill.sh prints them over the translation 827e14f1d6289958… (all of the seat's roots in one cut). By AI agents, Wed Nov 11 2026. No macro, syntax, notation, axiom, sorry.
-/
import Derived.Test.YthocpiklbcahgaaDoorChecked
import GoSem.Claim
import GoSem.ClaimJoined
import GoSem.ClaimMapViews
import Derived.JoinedTies
import Derived.KernelRfl
namespace Go.Proofs.YthocpiklbcahgaaDoor
/- THE CELL 'sum', in the pinned program and in every row, IS THE sha256 OF THE DUMP (.gsa) THAT YthocpiklbcahgaaDoorProg.lean LOADS. Nothing in Lean hashes anything: it is a label: what it is worth is what the hold of that sum in a sandbox is worth. -/
noncomputable def Tryd.pinned : Pinned := { name := "ythocpiklbcahgaadoor", sum := "827e14f1d628995839c1c60a2e6671b5f2579ef5fe70bfa433135e187c3a4dd8", checked := Tryd.checked }
namespace Rows
def none {H : Type} : Left H := { results := [], args := [] }

/- WHAT THE LISTED PACKAGE-LEVEL VARIABLES READ AS WHEN THE CALL BEGINS. Each datum BY PROGRAM (the guide's laid-datum.mjs) off the statement by which the dump's own 'gosem.cut.vars' lays the variable. In a bare row this is a premise. The card (YthocpiklbcahgaaDoorCards.lean) ties it to the program's text. -/
def laid_loop_example_g00956_impl_speciesTable {H : Type} : DataW H := .agg [.agg [.lit (.string [97, 115, 104]), .lit (.int .i64 20), .lit (.int .i64 40), .lit (.int .i64 310)], .agg [.lit (.string [98, 101, 101, 99, 104]), .lit (.int .i64 35), .lit (.int .i64 45), .lit (.int .i64 410)], .agg [.lit (.string [98, 105, 114, 99, 104]), .lit (.int .i64 15), .lit (.int .i64 33), .lit (.int .i64 280)], .agg [.lit (.string [99, 104, 101, 114, 114, 121]), .lit (.int .i64 50), .lit (.int .i64 36), .lit (.int .i64 240)], .agg [.lit (.string [101, 98, 111, 110, 121]), .lit (.int .i64 95), .lit (.int .i64 85), .lit (.int .i64 270)], .agg [.lit (.string [104, 111, 108, 108, 121]), .lit (.int .i64 5), .lit (.int .i64 35), .lit (.int .i64 370)], .agg [.lit (.string [109, 97, 112, 108, 101]), .lit (.int .i64 10), .lit (.int .i64 42), .lit (.int .i64 290)], .agg [.lit (.string [111, 97, 107]), .lit (.int .i64 40), .lit (.int .i64 40), .lit (.int .i64 330)], .agg [.lit (.string [114, 111, 115, 101, 119, 111, 111, 100]), .lit (.int .i64 80), .lit (.int .i64 60), .lit (.int .i64 220)], .agg [.lit (.string [119, 97, 108, 110, 117, 116]), .lit (.int .i64 70), .lit (.int .i64 38), .lit (.int .i64 260)]]
def laid_loop_example_g00956_impl_errRange {H : Type} : DataW H := .iface "*errors.errorString" (.ptr (.agg [.lit (.string [97, 110, 32, 97, 114, 103, 117, 109, 101, 110, 116, 32, 105, 115, 32, 111, 117, 116, 32, 111, 102, 32, 114, 97, 110, 103, 101])]))
def laid_loop_example_g00956_impl_errNotFound {H : Type} : DataW H := .iface "*errors.errorString" (.ptr (.agg [.lit (.string [116, 104, 101, 114, 101, 32, 105, 115, 32, 110, 111, 110, 101])]))
def laid_loop_example_g00956_impl_errExists {H : Type} : DataW H := .iface "*errors.errorString" (.ptr (.agg [.lit (.string [116, 104, 101, 114, 101, 32, 105, 115, 32, 111, 110, 101, 32, 97, 108, 114, 101, 97, 100, 121])]))
def laid_loop_example_g00956_impl_errFull {H : Type} : DataW H := .iface "*errors.errorString" (.ptr (.agg [.lit (.string [116, 104, 101, 114, 101, 32, 105, 115, 32, 110, 111, 32, 112, 108, 97, 99, 101, 32, 108, 101, 102, 116])]))
def laid_loop_example_g00956_impl_errState {H : Type} : DataW H := .iface "*errors.errorString" (.ptr (.agg [.lit (.string [116, 104, 101, 32, 114, 101, 115, 117, 108, 116, 32, 119, 111, 117, 108, 100, 32, 110, 111, 116, 32, 98, 101, 32, 118, 97, 108, 105, 100])]))
def laid_math_bits_deBruijn32tab {H : Type} : DataW H := .agg [.lit (.int .u8 0), .lit (.int .u8 1), .lit (.int .u8 28), .lit (.int .u8 2), .lit (.int .u8 29), .lit (.int .u8 14), .lit (.int .u8 24), .lit (.int .u8 3), .lit (.int .u8 30), .lit (.int .u8 22), .lit (.int .u8 20), .lit (.int .u8 15), .lit (.int .u8 25), .lit (.int .u8 17), .lit (.int .u8 4), .lit (.int .u8 8), .lit (.int .u8 31), .lit (.int .u8 27), .lit (.int .u8 13), .lit (.int .u8 23), .lit (.int .u8 21), .lit (.int .u8 19), .lit (.int .u8 16), .lit (.int .u8 7), .lit (.int .u8 26), .lit (.int .u8 12), .lit (.int .u8 18), .lit (.int .u8 6), .lit (.int .u8 11), .lit (.int .u8 5), .lit (.int .u8 10), .lit (.int .u8 9)]
def laid_math_bits_deBruijn64tab {H : Type} : DataW H := .agg [.lit (.int .u8 0), .lit (.int .u8 1), .lit (.int .u8 56), .lit (.int .u8 2), .lit (.int .u8 57), .lit (.int .u8 49), .lit (.int .u8 28), .lit (.int .u8 3), .lit (.int .u8 61), .lit (.int .u8 58), .lit (.int .u8 42), .lit (.int .u8 50), .lit (.int .u8 38), .lit (.int .u8 29), .lit (.int .u8 17), .lit (.int .u8 4), .lit (.int .u8 62), .lit (.int .u8 47), .lit (.int .u8 59), .lit (.int .u8 36), .lit (.int .u8 45), .lit (.int .u8 43), .lit (.int .u8 51), .lit (.int .u8 22), .lit (.int .u8 53), .lit (.int .u8 39), .lit (.int .u8 33), .lit (.int .u8 30), .lit (.int .u8 24), .lit (.int .u8 18), .lit (.int .u8 12), .lit (.int .u8 5), .lit (.int .u8 63), .lit (.int .u8 55), .lit (.int .u8 48), .lit (.int .u8 27), .lit (.int .u8 60), .lit (.int .u8 41), .lit (.int .u8 37), .lit (.int .u8 16), .lit (.int .u8 46), .lit (.int .u8 35), .lit (.int .u8 44), .lit (.int .u8 21), .lit (.int .u8 52), .lit (.int .u8 32), .lit (.int .u8 23), .lit (.int .u8 11), .lit (.int .u8 54), .lit (.int .u8 26), .lit (.int .u8 40), .lit (.int .u8 15), .lit (.int .u8 34), .lit (.int .u8 20), .lit (.int .u8 31), .lit (.int .u8 10), .lit (.int .u8 25), .lit (.int .u8 14), .lit (.int .u8 19), .lit (.int .u8 9), .lit (.int .u8 13), .lit (.int .u8 8), .lit (.int .u8 7), .lit (.int .u8 6)]
def laid_internal_strconv_uint64pow10 {H : Type} : DataW H := .agg [.lit (.int .u64 1), .lit (.int .u64 10), .lit (.int .u64 100), .lit (.int .u64 1000), .lit (.int .u64 10000), .lit (.int .u64 100000), .lit (.int .u64 1000000), .lit (.int .u64 10000000), .lit (.int .u64 100000000), .lit (.int .u64 1000000000), .lit (.int .u64 10000000000), .lit (.int .u64 100000000000), .lit (.int .u64 1000000000000), .lit (.int .u64 10000000000000), .lit (.int .u64 100000000000000), .lit (.int .u64 1000000000000000), .lit (.int .u64 10000000000000000), .lit (.int .u64 100000000000000000), .lit (.int .u64 1000000000000000000), .lit (.int .u64 10000000000000000000)]

/-- 'laws.FnExactLeavesOf': WHATEVER THE INPUT: true; the input reads as it did. -/
def fnExactLeavesOfSpec : ChangeSpec := { name := "fnExactLeavesOf", vars := ["loop.example/g00956/impl.speciesTable", "loop.example/g00956/impl.errNotFound", "loop.example/g00956/impl.errRange", "loop.example/g00956/impl.errExists", "loop.example/g00956/impl.errFull", "loop.example/g00956/impl.errState"], fn := fun _ => fun
  | [d1, d2, g1, g2, g3, g4, g5, g6] => { results := [.lit (.bool true)], args := [d1, d2], vars := [g1, g2, g3, g4, g5, g6] }
  | _ => none }
def fnExactLeavesOfRow : OpenClaim := { program := "ythocpiklbcahgaadoor", sum := "827e14f1d628995839c1c60a2e6671b5f2579ef5fe70bfa433135e187c3a4dd8", func := "loop.example/g00956/laws.FnExactLeavesOf", spec := "fnExactLeavesOf", inPlace := ["internal/reflectlite.TypeOf"], unfollowed := true, recurses := true, named := ["loop.example/g00956/impl.speciesTable", "loop.example/g00956/impl.errNotFound", "loop.example/g00956/impl.errRange", "loop.example/g00956/impl.errExists", "loop.example/g00956/impl.errFull", "loop.example/g00956/impl.errState"], ifaces := true, apart := false, laid := [("loop.example/g00956/impl.speciesTable", laid_loop_example_g00956_impl_speciesTable), ("loop.example/g00956/impl.errRange", laid_loop_example_g00956_impl_errRange), ("loop.example/g00956/impl.errNotFound", laid_loop_example_g00956_impl_errNotFound), ("loop.example/g00956/impl.errExists", laid_loop_example_g00956_impl_errExists), ("loop.example/g00956/impl.errFull", laid_loop_example_g00956_impl_errFull), ("loop.example/g00956/impl.errState", laid_loop_example_g00956_impl_errState)] }
def FnExactLeavesOfSaid : Prop := fnExactLeavesOfRow.holds Tryd.pinned (OpenSpec.ofChange fnExactLeavesOfSpec)

/-- ITS FALSE NEIGHBOUR: 'it returns false'. Refute it at one input. -/
def fnExactLeavesOfWrong : ChangeSpec := { name := "fnExactLeavesOf", vars := ["loop.example/g00956/impl.speciesTable", "loop.example/g00956/impl.errNotFound", "loop.example/g00956/impl.errRange", "loop.example/g00956/impl.errExists", "loop.example/g00956/impl.errFull", "loop.example/g00956/impl.errState"], fn := fun _ => fun
  | [d1, d2, g1, g2, g3, g4, g5, g6] => { results := [.lit (.bool false)], args := [d1, d2], vars := [g1, g2, g3, g4, g5, g6] }
  | _ => none }
def FnExactLeavesOfWrongFalsely : Prop := fnExactLeavesOfRow.holds Tryd.pinned (OpenSpec.ofChange fnExactLeavesOfWrong)

/-- 'laws.FnExactFlitchOf': WHATEVER THE INPUT: true; the input reads as it did. -/
def fnExactFlitchOfSpec : ChangeSpec := { name := "fnExactFlitchOf", vars := ["loop.example/g00956/impl.speciesTable", "loop.example/g00956/impl.errNotFound", "loop.example/g00956/impl.errRange", "loop.example/g00956/impl.errExists", "loop.example/g00956/impl.errFull", "loop.example/g00956/impl.errState"], fn := fun _ => fun
  | [d1, d2, g1, g2, g3, g4, g5, g6] => { results := [.lit (.bool true)], args := [d1, d2], vars := [g1, g2, g3, g4, g5, g6] }
  | _ => none }
def fnExactFlitchOfRow : OpenClaim := { program := "ythocpiklbcahgaadoor", sum := "827e14f1d628995839c1c60a2e6671b5f2579ef5fe70bfa433135e187c3a4dd8", func := "loop.example/g00956/laws.FnExactFlitchOf", spec := "fnExactFlitchOf", inPlace := ["internal/reflectlite.TypeOf"], unfollowed := true, recurses := true, named := ["loop.example/g00956/impl.speciesTable", "loop.example/g00956/impl.errNotFound", "loop.example/g00956/impl.errRange", "loop.example/g00956/impl.errExists", "loop.example/g00956/impl.errFull", "loop.example/g00956/impl.errState"], ifaces := true, apart := false, laid := [("loop.example/g00956/impl.speciesTable", laid_loop_example_g00956_impl_speciesTable), ("loop.example/g00956/impl.errRange", laid_loop_example_g00956_impl_errRange), ("loop.example/g00956/impl.errNotFound", laid_loop_example_g00956_impl_errNotFound), ("loop.example/g00956/impl.errExists", laid_loop_example_g00956_impl_errExists), ("loop.example/g00956/impl.errFull", laid_loop_example_g00956_impl_errFull), ("loop.example/g00956/impl.errState", laid_loop_example_g00956_impl_errState)] }
def FnExactFlitchOfSaid : Prop := fnExactFlitchOfRow.holds Tryd.pinned (OpenSpec.ofChange fnExactFlitchOfSpec)

/-- ITS FALSE NEIGHBOUR: 'it returns false'. Refute it at one input. -/
def fnExactFlitchOfWrong : ChangeSpec := { name := "fnExactFlitchOf", vars := ["loop.example/g00956/impl.speciesTable", "loop.example/g00956/impl.errNotFound", "loop.example/g00956/impl.errRange", "loop.example/g00956/impl.errExists", "loop.example/g00956/impl.errFull", "loop.example/g00956/impl.errState"], fn := fun _ => fun
  | [d1, d2, g1, g2, g3, g4, g5, g6] => { results := [.lit (.bool false)], args := [d1, d2], vars := [g1, g2, g3, g4, g5, g6] }
  | _ => none }
def FnExactFlitchOfWrongFalsely : Prop := fnExactFlitchOfRow.holds Tryd.pinned (OpenSpec.ofChange fnExactFlitchOfWrong)

/-- 'laws.FnExactTrimLeaf': WHATEVER THE INPUT: true; the input reads as it did. -/
def fnExactTrimLeafSpec : ChangeSpec := { name := "fnExactTrimLeaf", vars := ["loop.example/g00956/impl.speciesTable", "loop.example/g00956/impl.errRange", "loop.example/g00956/impl.errState", "loop.example/g00956/impl.errNotFound", "loop.example/g00956/impl.errExists", "loop.example/g00956/impl.errFull"], fn := fun _ => fun
  | [d1, d2, g1, g2, g3, g4, g5, g6] => { results := [.lit (.bool true)], args := [d1, d2], vars := [g1, g2, g3, g4, g5, g6] }
  | _ => none }
def fnExactTrimLeafRow : OpenClaim := { program := "ythocpiklbcahgaadoor", sum := "827e14f1d628995839c1c60a2e6671b5f2579ef5fe70bfa433135e187c3a4dd8", func := "loop.example/g00956/laws.FnExactTrimLeaf", spec := "fnExactTrimLeaf", inPlace := ["internal/reflectlite.TypeOf"], unfollowed := true, recurses := true, named := ["loop.example/g00956/impl.speciesTable", "loop.example/g00956/impl.errRange", "loop.example/g00956/impl.errState", "loop.example/g00956/impl.errNotFound", "loop.example/g00956/impl.errExists", "loop.example/g00956/impl.errFull"], ifaces := true, apart := false, laid := [("loop.example/g00956/impl.speciesTable", laid_loop_example_g00956_impl_speciesTable), ("loop.example/g00956/impl.errRange", laid_loop_example_g00956_impl_errRange), ("loop.example/g00956/impl.errNotFound", laid_loop_example_g00956_impl_errNotFound), ("loop.example/g00956/impl.errExists", laid_loop_example_g00956_impl_errExists), ("loop.example/g00956/impl.errFull", laid_loop_example_g00956_impl_errFull), ("loop.example/g00956/impl.errState", laid_loop_example_g00956_impl_errState)] }
def FnExactTrimLeafSaid : Prop := fnExactTrimLeafRow.holds Tryd.pinned (OpenSpec.ofChange fnExactTrimLeafSpec)

/-- ITS FALSE NEIGHBOUR: 'it returns false'. Refute it at one input. -/
def fnExactTrimLeafWrong : ChangeSpec := { name := "fnExactTrimLeaf", vars := ["loop.example/g00956/impl.speciesTable", "loop.example/g00956/impl.errRange", "loop.example/g00956/impl.errState", "loop.example/g00956/impl.errNotFound", "loop.example/g00956/impl.errExists", "loop.example/g00956/impl.errFull"], fn := fun _ => fun
  | [d1, d2, g1, g2, g3, g4, g5, g6] => { results := [.lit (.bool false)], args := [d1, d2], vars := [g1, g2, g3, g4, g5, g6] }
  | _ => none }
def FnExactTrimLeafWrongFalsely : Prop := fnExactTrimLeafRow.holds Tryd.pinned (OpenSpec.ofChange fnExactTrimLeafWrong)

/-- 'laws.FnExactLeafText': WHATEVER THE INPUT: true; the input reads as it did. -/
def fnExactLeafTextSpec : ChangeSpec := { name := "fnExactLeafText", vars := ["loop.example/g00956/impl.speciesTable"], fn := fun _ => fun
  | [d, g1] => { results := [.lit (.bool true)], args := [d], vars := [g1] }
  | _ => none }
def fnExactLeafTextRow : OpenClaim := { program := "ythocpiklbcahgaadoor", sum := "827e14f1d628995839c1c60a2e6671b5f2579ef5fe70bfa433135e187c3a4dd8", func := "loop.example/g00956/laws.FnExactLeafText", spec := "fnExactLeafText", inPlace := ["internal/abi.NoEscape", "internal/bytealg.MakeNoZero"], named := ["loop.example/g00956/impl.speciesTable", "internal/strconv.uint64pow10", "math/bits.deBruijn32tab", "math/bits.deBruijn64tab"], apart := false, laid := [("math/bits.deBruijn32tab", laid_math_bits_deBruijn32tab), ("math/bits.deBruijn64tab", laid_math_bits_deBruijn64tab), ("internal/strconv.uint64pow10", laid_internal_strconv_uint64pow10), ("loop.example/g00956/impl.speciesTable", laid_loop_example_g00956_impl_speciesTable)] }
def FnExactLeafTextSaid : Prop := fnExactLeafTextRow.holds Tryd.pinned (OpenSpec.ofChange fnExactLeafTextSpec)

/-- ITS FALSE NEIGHBOUR: 'it returns false'. Refute it at one input. -/
def fnExactLeafTextWrong : ChangeSpec := { name := "fnExactLeafText", vars := ["loop.example/g00956/impl.speciesTable"], fn := fun _ => fun
  | [d, g1] => { results := [.lit (.bool false)], args := [d], vars := [g1] }
  | _ => none }
def FnExactLeafTextWrongFalsely : Prop := fnExactLeafTextRow.holds Tryd.pinned (OpenSpec.ofChange fnExactLeafTextWrong)

/-- 'laws.FnExactAddLeaf': WHATEVER THE INPUT: true; the input reads as it did. -/
def fnExactAddLeafSpec : ChangeSpec := { name := "fnExactAddLeaf", vars := ["loop.example/g00956/impl.speciesTable", "loop.example/g00956/impl.errNotFound", "loop.example/g00956/impl.errExists", "loop.example/g00956/impl.errFull", "loop.example/g00956/impl.errRange", "loop.example/g00956/impl.errState"], fn := fun _ => fun
  | [d1, d2, g1, g2, g3, g4, g5, g6] => { results := [.lit (.bool true)], args := [d1, d2], vars := [g1, g2, g3, g4, g5, g6] }
  | _ => none }
def fnExactAddLeafRow : OpenClaim := { program := "ythocpiklbcahgaadoor", sum := "827e14f1d628995839c1c60a2e6671b5f2579ef5fe70bfa433135e187c3a4dd8", func := "loop.example/g00956/laws.FnExactAddLeaf", spec := "fnExactAddLeaf", inPlace := ["internal/reflectlite.TypeOf", "slices.overlaps[loop.example/g00956/impl.Leaf]"], unfollowed := true, recurses := true, named := ["loop.example/g00956/impl.speciesTable", "loop.example/g00956/impl.errNotFound", "loop.example/g00956/impl.errExists", "loop.example/g00956/impl.errFull", "loop.example/g00956/impl.errRange", "loop.example/g00956/impl.errState"], ifaces := true, apart := false, laid := [("loop.example/g00956/impl.speciesTable", laid_loop_example_g00956_impl_speciesTable), ("loop.example/g00956/impl.errRange", laid_loop_example_g00956_impl_errRange), ("loop.example/g00956/impl.errNotFound", laid_loop_example_g00956_impl_errNotFound), ("loop.example/g00956/impl.errExists", laid_loop_example_g00956_impl_errExists), ("loop.example/g00956/impl.errFull", laid_loop_example_g00956_impl_errFull), ("loop.example/g00956/impl.errState", laid_loop_example_g00956_impl_errState)] }
def FnExactAddLeafSaid : Prop := fnExactAddLeafRow.holds Tryd.pinned (OpenSpec.ofChange fnExactAddLeafSpec)

/-- ITS FALSE NEIGHBOUR: 'it returns false'. Refute it at one input. -/
def fnExactAddLeafWrong : ChangeSpec := { name := "fnExactAddLeaf", vars := ["loop.example/g00956/impl.speciesTable", "loop.example/g00956/impl.errNotFound", "loop.example/g00956/impl.errExists", "loop.example/g00956/impl.errFull", "loop.example/g00956/impl.errRange", "loop.example/g00956/impl.errState"], fn := fun _ => fun
  | [d1, d2, g1, g2, g3, g4, g5, g6] => { results := [.lit (.bool false)], args := [d1, d2], vars := [g1, g2, g3, g4, g5, g6] }
  | _ => none }
def FnExactAddLeafWrongFalsely : Prop := fnExactAddLeafRow.holds Tryd.pinned (OpenSpec.ofChange fnExactAddLeafWrong)

/-- 'laws.FnExactDropLeaf': WHATEVER THE INPUT: true; the input reads as it did. -/
def fnExactDropLeafSpec : ChangeSpec := { name := "fnExactDropLeaf", vars := ["loop.example/g00956/impl.speciesTable", "loop.example/g00956/impl.errNotFound", "loop.example/g00956/impl.errRange", "loop.example/g00956/impl.errExists", "loop.example/g00956/impl.errFull", "loop.example/g00956/impl.errState"], fn := fun _ => fun
  | [d1, d2, g1, g2, g3, g4, g5, g6] => { results := [.lit (.bool true)], args := [d1, d2], vars := [g1, g2, g3, g4, g5, g6] }
  | _ => none }
def fnExactDropLeafRow : OpenClaim := { program := "ythocpiklbcahgaadoor", sum := "827e14f1d628995839c1c60a2e6671b5f2579ef5fe70bfa433135e187c3a4dd8", func := "loop.example/g00956/laws.FnExactDropLeaf", spec := "fnExactDropLeaf", inPlace := ["internal/reflectlite.TypeOf"], unfollowed := true, recurses := true, named := ["loop.example/g00956/impl.speciesTable", "loop.example/g00956/impl.errNotFound", "loop.example/g00956/impl.errRange", "loop.example/g00956/impl.errExists", "loop.example/g00956/impl.errFull", "loop.example/g00956/impl.errState"], ifaces := true, apart := false, laid := [("loop.example/g00956/impl.speciesTable", laid_loop_example_g00956_impl_speciesTable), ("loop.example/g00956/impl.errRange", laid_loop_example_g00956_impl_errRange), ("loop.example/g00956/impl.errNotFound", laid_loop_example_g00956_impl_errNotFound), ("loop.example/g00956/impl.errExists", laid_loop_example_g00956_impl_errExists), ("loop.example/g00956/impl.errFull", laid_loop_example_g00956_impl_errFull), ("loop.example/g00956/impl.errState", laid_loop_example_g00956_impl_errState)] }
def FnExactDropLeafSaid : Prop := fnExactDropLeafRow.holds Tryd.pinned (OpenSpec.ofChange fnExactDropLeafSpec)

/-- ITS FALSE NEIGHBOUR: 'it returns false'. Refute it at one input. -/
def fnExactDropLeafWrong : ChangeSpec := { name := "fnExactDropLeaf", vars := ["loop.example/g00956/impl.speciesTable", "loop.example/g00956/impl.errNotFound", "loop.example/g00956/impl.errRange", "loop.example/g00956/impl.errExists", "loop.example/g00956/impl.errFull", "loop.example/g00956/impl.errState"], fn := fun _ => fun
  | [d1, d2, g1, g2, g3, g4, g5, g6] => { results := [.lit (.bool false)], args := [d1, d2], vars := [g1, g2, g3, g4, g5, g6] }
  | _ => none }
def FnExactDropLeafWrongFalsely : Prop := fnExactDropLeafRow.holds Tryd.pinned (OpenSpec.ofChange fnExactDropLeafWrong)

/-- 'laws.FnExactUsableArea': WHATEVER THE INPUT: true; the input reads as it did. -/
def fnExactUsableAreaSpec : ChangeSpec := { name := "fnExactUsableArea", vars := ["loop.example/g00956/impl.speciesTable"], fn := fun _ => fun
  | [d, g1] => { results := [.lit (.bool true)], args := [d], vars := [g1] }
  | _ => none }
def fnExactUsableAreaRow : OpenClaim := { program := "ythocpiklbcahgaadoor", sum := "827e14f1d628995839c1c60a2e6671b5f2579ef5fe70bfa433135e187c3a4dd8", func := "loop.example/g00956/laws.FnExactUsableArea", spec := "fnExactUsableArea", unfollowed := true, recurses := true, named := ["loop.example/g00956/impl.speciesTable"], apart := false, laid := [("loop.example/g00956/impl.speciesTable", laid_loop_example_g00956_impl_speciesTable)] }
def FnExactUsableAreaSaid : Prop := fnExactUsableAreaRow.holds Tryd.pinned (OpenSpec.ofChange fnExactUsableAreaSpec)

/-- ITS FALSE NEIGHBOUR: 'it returns false'. Refute it at one input. -/
def fnExactUsableAreaWrong : ChangeSpec := { name := "fnExactUsableArea", vars := ["loop.example/g00956/impl.speciesTable"], fn := fun _ => fun
  | [d, g1] => { results := [.lit (.bool false)], args := [d], vars := [g1] }
  | _ => none }
def FnExactUsableAreaWrongFalsely : Prop := fnExactUsableAreaRow.holds Tryd.pinned (OpenSpec.ofChange fnExactUsableAreaWrong)

/- THE SECOND FORM. 'bulk': how many values and letters a reading holds, each counted each time it is reached (what is shared counts as often as it is met; a slice's spare places count too). A statement '..UptoSaid' is the law's where the arguments, and the package variables that the reading takes, are together of bulk at most 1048576: NARROWER than '..Said'. Prove '..Said' where nothing that the law and all that it calls make is longer than what came in: it says more and counts as full. Else prove '..UptoSaid'. A law counts once. -/
mutual
def uptoBulk {H : Type} : DataW H → Nat
  | .lit (.string bytes) => bytes.length + 1
  | .lit _ => 1
  | .nil => 1
  | .ptr d => uptoBulk d + 1
  | .slice elems spare => uptoBulkAll elems + uptoBulkAll spare + 1
  | .agg parts => uptoBulkAll parts + 1
  | .iface _ d => uptoBulk d + 1
  | .map entries => uptoBulkEntries entries + 1
  | .held _ => 1
def uptoBulkAll {H : Type} : List (DataW H) → Nat
  | [] => 0
  | d :: r => uptoBulk d + uptoBulkAll r
def uptoBulkEntries {H : Type} : List (Lit × DataW H) → Nat
  | [] => 0
  | x :: r => uptoBulkEntry x + uptoBulkEntries r
def uptoBulkEntry {H : Type} : Lit × DataW H → Nat
  | (.string bytes, d) => bytes.length + uptoBulk d + 1
  | (_, d) => uptoBulk d + 1
 end
def uptoSmall : (H : Type) → List (DataW H) → Bool := fun _ ds => decide (uptoBulkAll ds ≤ 1048576)
def OpenSpec.upto (s : _root_.Go.ChangeSpec) : _root_.Go.OpenSpec := { _root_.Go.OpenSpec.ofChange s with cond := some uptoSmall }

/-- 'laws.FnExactLeavesOf', WHERE WHAT IT READS IS OF BULK AT MOST 1048576: true; the input reads as it did. -/
def fnExactLeavesOfUptoRow : OpenClaim := { program := "ythocpiklbcahgaadoor", sum := "827e14f1d628995839c1c60a2e6671b5f2579ef5fe70bfa433135e187c3a4dd8", func := "loop.example/g00956/laws.FnExactLeavesOf", spec := "fnExactLeavesOf", inPlace := ["internal/reflectlite.TypeOf"], unfollowed := true, recurses := true, named := ["loop.example/g00956/impl.speciesTable", "loop.example/g00956/impl.errNotFound", "loop.example/g00956/impl.errRange", "loop.example/g00956/impl.errExists", "loop.example/g00956/impl.errFull", "loop.example/g00956/impl.errState"], ifaces := true, apart := false, laid := [("loop.example/g00956/impl.speciesTable", laid_loop_example_g00956_impl_speciesTable), ("loop.example/g00956/impl.errRange", laid_loop_example_g00956_impl_errRange), ("loop.example/g00956/impl.errNotFound", laid_loop_example_g00956_impl_errNotFound), ("loop.example/g00956/impl.errExists", laid_loop_example_g00956_impl_errExists), ("loop.example/g00956/impl.errFull", laid_loop_example_g00956_impl_errFull), ("loop.example/g00956/impl.errState", laid_loop_example_g00956_impl_errState)], narrowed := true }
def FnExactLeavesOfUptoSaid : Prop := fnExactLeavesOfUptoRow.holds Tryd.pinned (OpenSpec.upto fnExactLeavesOfSpec)

/-- 'laws.FnExactFlitchOf', WHERE WHAT IT READS IS OF BULK AT MOST 1048576: true; the input reads as it did. -/
def fnExactFlitchOfUptoRow : OpenClaim := { program := "ythocpiklbcahgaadoor", sum := "827e14f1d628995839c1c60a2e6671b5f2579ef5fe70bfa433135e187c3a4dd8", func := "loop.example/g00956/laws.FnExactFlitchOf", spec := "fnExactFlitchOf", inPlace := ["internal/reflectlite.TypeOf"], unfollowed := true, recurses := true, named := ["loop.example/g00956/impl.speciesTable", "loop.example/g00956/impl.errNotFound", "loop.example/g00956/impl.errRange", "loop.example/g00956/impl.errExists", "loop.example/g00956/impl.errFull", "loop.example/g00956/impl.errState"], ifaces := true, apart := false, laid := [("loop.example/g00956/impl.speciesTable", laid_loop_example_g00956_impl_speciesTable), ("loop.example/g00956/impl.errRange", laid_loop_example_g00956_impl_errRange), ("loop.example/g00956/impl.errNotFound", laid_loop_example_g00956_impl_errNotFound), ("loop.example/g00956/impl.errExists", laid_loop_example_g00956_impl_errExists), ("loop.example/g00956/impl.errFull", laid_loop_example_g00956_impl_errFull), ("loop.example/g00956/impl.errState", laid_loop_example_g00956_impl_errState)], narrowed := true }
def FnExactFlitchOfUptoSaid : Prop := fnExactFlitchOfUptoRow.holds Tryd.pinned (OpenSpec.upto fnExactFlitchOfSpec)

/-- 'laws.FnExactTrimLeaf', WHERE WHAT IT READS IS OF BULK AT MOST 1048576: true; the input reads as it did. -/
def fnExactTrimLeafUptoRow : OpenClaim := { program := "ythocpiklbcahgaadoor", sum := "827e14f1d628995839c1c60a2e6671b5f2579ef5fe70bfa433135e187c3a4dd8", func := "loop.example/g00956/laws.FnExactTrimLeaf", spec := "fnExactTrimLeaf", inPlace := ["internal/reflectlite.TypeOf"], unfollowed := true, recurses := true, named := ["loop.example/g00956/impl.speciesTable", "loop.example/g00956/impl.errRange", "loop.example/g00956/impl.errState", "loop.example/g00956/impl.errNotFound", "loop.example/g00956/impl.errExists", "loop.example/g00956/impl.errFull"], ifaces := true, apart := false, laid := [("loop.example/g00956/impl.speciesTable", laid_loop_example_g00956_impl_speciesTable), ("loop.example/g00956/impl.errRange", laid_loop_example_g00956_impl_errRange), ("loop.example/g00956/impl.errNotFound", laid_loop_example_g00956_impl_errNotFound), ("loop.example/g00956/impl.errExists", laid_loop_example_g00956_impl_errExists), ("loop.example/g00956/impl.errFull", laid_loop_example_g00956_impl_errFull), ("loop.example/g00956/impl.errState", laid_loop_example_g00956_impl_errState)], narrowed := true }
def FnExactTrimLeafUptoSaid : Prop := fnExactTrimLeafUptoRow.holds Tryd.pinned (OpenSpec.upto fnExactTrimLeafSpec)

/-- 'laws.FnExactLeafText', WHERE WHAT IT READS IS OF BULK AT MOST 1048576: true; the input reads as it did. -/
def fnExactLeafTextUptoRow : OpenClaim := { program := "ythocpiklbcahgaadoor", sum := "827e14f1d628995839c1c60a2e6671b5f2579ef5fe70bfa433135e187c3a4dd8", func := "loop.example/g00956/laws.FnExactLeafText", spec := "fnExactLeafText", inPlace := ["internal/abi.NoEscape", "internal/bytealg.MakeNoZero"], named := ["loop.example/g00956/impl.speciesTable", "internal/strconv.uint64pow10", "math/bits.deBruijn32tab", "math/bits.deBruijn64tab"], apart := false, laid := [("math/bits.deBruijn32tab", laid_math_bits_deBruijn32tab), ("math/bits.deBruijn64tab", laid_math_bits_deBruijn64tab), ("internal/strconv.uint64pow10", laid_internal_strconv_uint64pow10), ("loop.example/g00956/impl.speciesTable", laid_loop_example_g00956_impl_speciesTable)], narrowed := true }
def FnExactLeafTextUptoSaid : Prop := fnExactLeafTextUptoRow.holds Tryd.pinned (OpenSpec.upto fnExactLeafTextSpec)

/-- 'laws.FnExactAddLeaf', WHERE WHAT IT READS IS OF BULK AT MOST 1048576: true; the input reads as it did. -/
def fnExactAddLeafUptoRow : OpenClaim := { program := "ythocpiklbcahgaadoor", sum := "827e14f1d628995839c1c60a2e6671b5f2579ef5fe70bfa433135e187c3a4dd8", func := "loop.example/g00956/laws.FnExactAddLeaf", spec := "fnExactAddLeaf", inPlace := ["internal/reflectlite.TypeOf", "slices.overlaps[loop.example/g00956/impl.Leaf]"], unfollowed := true, recurses := true, named := ["loop.example/g00956/impl.speciesTable", "loop.example/g00956/impl.errNotFound", "loop.example/g00956/impl.errExists", "loop.example/g00956/impl.errFull", "loop.example/g00956/impl.errRange", "loop.example/g00956/impl.errState"], ifaces := true, apart := false, laid := [("loop.example/g00956/impl.speciesTable", laid_loop_example_g00956_impl_speciesTable), ("loop.example/g00956/impl.errRange", laid_loop_example_g00956_impl_errRange), ("loop.example/g00956/impl.errNotFound", laid_loop_example_g00956_impl_errNotFound), ("loop.example/g00956/impl.errExists", laid_loop_example_g00956_impl_errExists), ("loop.example/g00956/impl.errFull", laid_loop_example_g00956_impl_errFull), ("loop.example/g00956/impl.errState", laid_loop_example_g00956_impl_errState)], narrowed := true }
def FnExactAddLeafUptoSaid : Prop := fnExactAddLeafUptoRow.holds Tryd.pinned (OpenSpec.upto fnExactAddLeafSpec)

/-- 'laws.FnExactDropLeaf', WHERE WHAT IT READS IS OF BULK AT MOST 1048576: true; the input reads as it did. -/
def fnExactDropLeafUptoRow : OpenClaim := { program := "ythocpiklbcahgaadoor", sum := "827e14f1d628995839c1c60a2e6671b5f2579ef5fe70bfa433135e187c3a4dd8", func := "loop.example/g00956/laws.FnExactDropLeaf", spec := "fnExactDropLeaf", inPlace := ["internal/reflectlite.TypeOf"], unfollowed := true, recurses := true, named := ["loop.example/g00956/impl.speciesTable", "loop.example/g00956/impl.errNotFound", "loop.example/g00956/impl.errRange", "loop.example/g00956/impl.errExists", "loop.example/g00956/impl.errFull", "loop.example/g00956/impl.errState"], ifaces := true, apart := false, laid := [("loop.example/g00956/impl.speciesTable", laid_loop_example_g00956_impl_speciesTable), ("loop.example/g00956/impl.errRange", laid_loop_example_g00956_impl_errRange), ("loop.example/g00956/impl.errNotFound", laid_loop_example_g00956_impl_errNotFound), ("loop.example/g00956/impl.errExists", laid_loop_example_g00956_impl_errExists), ("loop.example/g00956/impl.errFull", laid_loop_example_g00956_impl_errFull), ("loop.example/g00956/impl.errState", laid_loop_example_g00956_impl_errState)], narrowed := true }
def FnExactDropLeafUptoSaid : Prop := fnExactDropLeafUptoRow.holds Tryd.pinned (OpenSpec.upto fnExactDropLeafSpec)

/-- 'laws.FnExactUsableArea', WHERE WHAT IT READS IS OF BULK AT MOST 1048576: true; the input reads as it did. -/
def fnExactUsableAreaUptoRow : OpenClaim := { program := "ythocpiklbcahgaadoor", sum := "827e14f1d628995839c1c60a2e6671b5f2579ef5fe70bfa433135e187c3a4dd8", func := "loop.example/g00956/laws.FnExactUsableArea", spec := "fnExactUsableArea", unfollowed := true, recurses := true, named := ["loop.example/g00956/impl.speciesTable"], apart := false, laid := [("loop.example/g00956/impl.speciesTable", laid_loop_example_g00956_impl_speciesTable)], narrowed := true }
def FnExactUsableAreaUptoSaid : Prop := fnExactUsableAreaUptoRow.holds Tryd.pinned (OpenSpec.upto fnExactUsableAreaSpec)

end Rows
end Go.Proofs.YthocpiklbcahgaaDoor
