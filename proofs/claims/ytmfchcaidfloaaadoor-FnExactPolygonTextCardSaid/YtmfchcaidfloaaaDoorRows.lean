/-
  NARROWER THAN 'FOR EVERY INPUT', by the rows' own cells (each row's printed sentence says how): FnExactPlacementText: laid · FnExactReadPlacement: laid · FnExactVeneerFault: ifaces, laid · FnExactPolygonText: laid.
  DERIVED. THE GIVEN ROWS OF THIS SEAT. 4 by the template 'for every input the law returns true; each argument reads behind the call as it read before'; 0 by the template 'total and deterministic' (their statements: YtmfchcaidfloaaaDoorTotals.lean).
  GIVEN WITH THE SEED: the statements are not yours to turn. If you find one false, say at which input.
  Laid BY PROGRAM, IN A SANDBOX (cutbox-rows.mjs): the forced cells as the released guide's own fill.sh prints them over the translation aebb467e9600296f… (all of the seat's roots in one cut). By AI agents, Wed Nov 11 2026. No macro, syntax, notation, axiom, sorry.
-/
import Derived.Test.YtmfchcaidfloaaaDoorChecked
import GoSem.PinnedTables
import GoSem.Claim
import GoSem.ClaimJoined
import GoSem.ClaimMapViews
import Derived.JoinedTies
import Derived.KernelRfl
namespace Go.Proofs.YtmfchcaidfloaaaDoor
/- THE CELL 'sum', in the pinned program and in every row, IS THE sha256 OF THE DUMP (.gsa) THAT YtmfchcaidfloaaaDoorProg.lean LOADS. Nothing in Lean hashes anything: it is a label: what it is worth is what the hold of that sum in a sandbox is worth. -/
noncomputable def Tryd.pinned : Pinned := { name := "ytmfchcaidfloaaadoor", sum := "aebb467e9600296f1c9914551da40fecd2ccdbd54709e7aadf45d00e831fb1e5", checked := Tryd.checked }
namespace Rows
def none {H : Type} : Left H := { results := [], args := [] }

/- WHAT THE LISTED PACKAGE-LEVEL VARIABLES READ AS WHEN THE CALL BEGINS. Each datum BY PROGRAM (the guide's laid-datum.mjs) off the statement by which the dump's own 'gosem.cut.vars' lays the variable. In a bare row this is a premise. The card (YtmfchcaidfloaaaDoorCards.lean) ties it to the program's text. -/
def laid_math_bits_deBruijn32tab {H : Type} : DataW H := .agg [.lit (.int .u8 0), .lit (.int .u8 1), .lit (.int .u8 28), .lit (.int .u8 2), .lit (.int .u8 29), .lit (.int .u8 14), .lit (.int .u8 24), .lit (.int .u8 3), .lit (.int .u8 30), .lit (.int .u8 22), .lit (.int .u8 20), .lit (.int .u8 15), .lit (.int .u8 25), .lit (.int .u8 17), .lit (.int .u8 4), .lit (.int .u8 8), .lit (.int .u8 31), .lit (.int .u8 27), .lit (.int .u8 13), .lit (.int .u8 23), .lit (.int .u8 21), .lit (.int .u8 19), .lit (.int .u8 16), .lit (.int .u8 7), .lit (.int .u8 26), .lit (.int .u8 12), .lit (.int .u8 18), .lit (.int .u8 6), .lit (.int .u8 11), .lit (.int .u8 5), .lit (.int .u8 10), .lit (.int .u8 9)]
def laid_math_bits_deBruijn64tab {H : Type} : DataW H := .agg [.lit (.int .u8 0), .lit (.int .u8 1), .lit (.int .u8 56), .lit (.int .u8 2), .lit (.int .u8 57), .lit (.int .u8 49), .lit (.int .u8 28), .lit (.int .u8 3), .lit (.int .u8 61), .lit (.int .u8 58), .lit (.int .u8 42), .lit (.int .u8 50), .lit (.int .u8 38), .lit (.int .u8 29), .lit (.int .u8 17), .lit (.int .u8 4), .lit (.int .u8 62), .lit (.int .u8 47), .lit (.int .u8 59), .lit (.int .u8 36), .lit (.int .u8 45), .lit (.int .u8 43), .lit (.int .u8 51), .lit (.int .u8 22), .lit (.int .u8 53), .lit (.int .u8 39), .lit (.int .u8 33), .lit (.int .u8 30), .lit (.int .u8 24), .lit (.int .u8 18), .lit (.int .u8 12), .lit (.int .u8 5), .lit (.int .u8 63), .lit (.int .u8 55), .lit (.int .u8 48), .lit (.int .u8 27), .lit (.int .u8 60), .lit (.int .u8 41), .lit (.int .u8 37), .lit (.int .u8 16), .lit (.int .u8 46), .lit (.int .u8 35), .lit (.int .u8 44), .lit (.int .u8 21), .lit (.int .u8 52), .lit (.int .u8 32), .lit (.int .u8 23), .lit (.int .u8 11), .lit (.int .u8 54), .lit (.int .u8 26), .lit (.int .u8 40), .lit (.int .u8 15), .lit (.int .u8 34), .lit (.int .u8 20), .lit (.int .u8 31), .lit (.int .u8 10), .lit (.int .u8 25), .lit (.int .u8 14), .lit (.int .u8 19), .lit (.int .u8 9), .lit (.int .u8 13), .lit (.int .u8 8), .lit (.int .u8 7), .lit (.int .u8 6)]
def laid_internal_strconv_uint64pow10 {H : Type} : DataW H := .agg [.lit (.int .u64 1), .lit (.int .u64 10), .lit (.int .u64 100), .lit (.int .u64 1000), .lit (.int .u64 10000), .lit (.int .u64 100000), .lit (.int .u64 1000000), .lit (.int .u64 10000000), .lit (.int .u64 100000000), .lit (.int .u64 1000000000), .lit (.int .u64 10000000000), .lit (.int .u64 100000000000), .lit (.int .u64 1000000000000), .lit (.int .u64 10000000000000), .lit (.int .u64 100000000000000), .lit (.int .u64 1000000000000000), .lit (.int .u64 10000000000000000), .lit (.int .u64 100000000000000000), .lit (.int .u64 1000000000000000000), .lit (.int .u64 10000000000000000000)]
def laid_unicode_utf8_acceptRanges {H : Type} : DataW H := .agg [.agg [.lit (.int .u8 128), .lit (.int .u8 191)], .agg [.lit (.int .u8 160), .lit (.int .u8 191)], .agg [.lit (.int .u8 128), .lit (.int .u8 159)], .agg [.lit (.int .u8 144), .lit (.int .u8 191)], .agg [.lit (.int .u8 128), .lit (.int .u8 143)], .agg [.lit (.int .u8 0), .lit (.int .u8 0)], .agg [.lit (.int .u8 0), .lit (.int .u8 0)], .agg [.lit (.int .u8 0), .lit (.int .u8 0)], .agg [.lit (.int .u8 0), .lit (.int .u8 0)], .agg [.lit (.int .u8 0), .lit (.int .u8 0)], .agg [.lit (.int .u8 0), .lit (.int .u8 0)], .agg [.lit (.int .u8 0), .lit (.int .u8 0)], .agg [.lit (.int .u8 0), .lit (.int .u8 0)], .agg [.lit (.int .u8 0), .lit (.int .u8 0)], .agg [.lit (.int .u8 0), .lit (.int .u8 0)], .agg [.lit (.int .u8 0), .lit (.int .u8 0)]]
def laid_strconv_ErrRange {H : Type} : DataW H := .iface "*errors.errorString" (.ptr (.agg [.lit (.string [118, 97, 108, 117, 101, 32, 111, 117, 116, 32, 111, 102, 32, 114, 97, 110, 103, 101])]))
def laid_strconv_ErrSyntax {H : Type} : DataW H := .iface "*errors.errorString" (.ptr (.agg [.lit (.string [105, 110, 118, 97, 108, 105, 100, 32, 115, 121, 110, 116, 97, 120])]))
/-- One of Go's own tables, pinned by name: the form's constant. -/
def laid_unicode_utf8_first : DataW Unit := Go.Pinned.utf8First
def laid_loop_example_g00956_impl_speciesTable {H : Type} : DataW H := .agg [.agg [.lit (.string [97, 115, 104]), .lit (.int .i64 20), .lit (.int .i64 40), .lit (.int .i64 310)], .agg [.lit (.string [98, 101, 101, 99, 104]), .lit (.int .i64 35), .lit (.int .i64 45), .lit (.int .i64 410)], .agg [.lit (.string [98, 105, 114, 99, 104]), .lit (.int .i64 15), .lit (.int .i64 33), .lit (.int .i64 280)], .agg [.lit (.string [99, 104, 101, 114, 114, 121]), .lit (.int .i64 50), .lit (.int .i64 36), .lit (.int .i64 240)], .agg [.lit (.string [101, 98, 111, 110, 121]), .lit (.int .i64 95), .lit (.int .i64 85), .lit (.int .i64 270)], .agg [.lit (.string [104, 111, 108, 108, 121]), .lit (.int .i64 5), .lit (.int .i64 35), .lit (.int .i64 370)], .agg [.lit (.string [109, 97, 112, 108, 101]), .lit (.int .i64 10), .lit (.int .i64 42), .lit (.int .i64 290)], .agg [.lit (.string [111, 97, 107]), .lit (.int .i64 40), .lit (.int .i64 40), .lit (.int .i64 330)], .agg [.lit (.string [114, 111, 115, 101, 119, 111, 111, 100]), .lit (.int .i64 80), .lit (.int .i64 60), .lit (.int .i64 220)], .agg [.lit (.string [119, 97, 108, 110, 117, 116]), .lit (.int .i64 70), .lit (.int .i64 38), .lit (.int .i64 260)]]
def laid_loop_example_g00956_impl_errRange {H : Type} : DataW H := .iface "*errors.errorString" (.ptr (.agg [.lit (.string [97, 110, 32, 97, 114, 103, 117, 109, 101, 110, 116, 32, 105, 115, 32, 111, 117, 116, 32, 111, 102, 32, 114, 97, 110, 103, 101])]))
def laid_loop_example_g00956_impl_errNotFound {H : Type} : DataW H := .iface "*errors.errorString" (.ptr (.agg [.lit (.string [116, 104, 101, 114, 101, 32, 105, 115, 32, 110, 111, 110, 101])]))
def laid_loop_example_g00956_impl_errExists {H : Type} : DataW H := .iface "*errors.errorString" (.ptr (.agg [.lit (.string [116, 104, 101, 114, 101, 32, 105, 115, 32, 111, 110, 101, 32, 97, 108, 114, 101, 97, 100, 121])]))
def laid_loop_example_g00956_impl_errFull {H : Type} : DataW H := .iface "*errors.errorString" (.ptr (.agg [.lit (.string [116, 104, 101, 114, 101, 32, 105, 115, 32, 110, 111, 32, 112, 108, 97, 99, 101, 32, 108, 101, 102, 116])]))
def laid_loop_example_g00956_impl_errState {H : Type} : DataW H := .iface "*errors.errorString" (.ptr (.agg [.lit (.string [116, 104, 101, 32, 114, 101, 115, 117, 108, 116, 32, 119, 111, 117, 108, 100, 32, 110, 111, 116, 32, 98, 101, 32, 118, 97, 108, 105, 100])]))

/-- 'laws.FnExactPlacementText': WHATEVER THE INPUT: true; the input reads as it did. -/
def fnExactPlacementTextSpec : ChangeSpec := { name := "fnExactPlacementText", fn := fun _ => fun
  | [d] => { results := [.lit (.bool true)], args := [d] }
  | _ => none }
def fnExactPlacementTextRow : OpenClaim := { program := "ytmfchcaidfloaaadoor", sum := "aebb467e9600296f1c9914551da40fecd2ccdbd54709e7aadf45d00e831fb1e5", func := "loop.example/g00956/laws.FnExactPlacementText", spec := "fnExactPlacementText", inPlace := ["internal/abi.NoEscape", "internal/bytealg.MakeNoZero"], named := ["internal/strconv.uint64pow10", "math/bits.deBruijn32tab", "math/bits.deBruijn64tab"], apart := false, laid := [("math/bits.deBruijn32tab", laid_math_bits_deBruijn32tab), ("math/bits.deBruijn64tab", laid_math_bits_deBruijn64tab), ("internal/strconv.uint64pow10", laid_internal_strconv_uint64pow10)] }
def FnExactPlacementTextSaid : Prop := fnExactPlacementTextRow.holds Tryd.pinned (OpenSpec.ofChange fnExactPlacementTextSpec)

/-- ITS FALSE NEIGHBOUR: 'it returns false'. Refute it at one input. -/
def fnExactPlacementTextWrong : ChangeSpec := { name := "fnExactPlacementText", fn := fun _ => fun
  | [d] => { results := [.lit (.bool false)], args := [d] }
  | _ => none }
def FnExactPlacementTextWrongFalsely : Prop := fnExactPlacementTextRow.holds Tryd.pinned (OpenSpec.ofChange fnExactPlacementTextWrong)

/-- 'laws.FnExactReadPlacement': WHATEVER THE INPUT: true; the input reads as it did. -/
def fnExactReadPlacementSpec : ChangeSpec := { name := "fnExactReadPlacement", fn := fun _ => fun
  | [d] => { results := [.lit (.bool true)], args := [d] }
  | _ => none }
def fnExactReadPlacementRow : OpenClaim := { program := "ytmfchcaidfloaaadoor", sum := "aebb467e9600296f1c9914551da40fecd2ccdbd54709e7aadf45d00e831fb1e5", func := "loop.example/g00956/laws.FnExactReadPlacement", spec := "fnExactReadPlacement", inPlace := ["internal/bytealg.CountString", "internal/bytealg.IndexByteString", "internal/bytealg.IndexString"], named := ["unicode/utf8.first", "unicode/utf8.acceptRanges", "internal/bytealg.MaxLen", "strconv.ErrSyntax", "strconv.ErrRange", "internal/strconv.uint64pow10", "math/bits.deBruijn32tab", "math/bits.deBruijn64tab"], apart := false, laid := [("math/bits.deBruijn32tab", laid_math_bits_deBruijn32tab), ("math/bits.deBruijn64tab", laid_math_bits_deBruijn64tab), ("internal/strconv.uint64pow10", laid_internal_strconv_uint64pow10), ("unicode/utf8.acceptRanges", laid_unicode_utf8_acceptRanges), ("strconv.ErrRange", laid_strconv_ErrRange), ("strconv.ErrSyntax", laid_strconv_ErrSyntax), ("unicode/utf8.first", laid_unicode_utf8_first)] }
def FnExactReadPlacementSaid : Prop := fnExactReadPlacementRow.holds Tryd.pinned (OpenSpec.ofChange fnExactReadPlacementSpec)

/-- ITS FALSE NEIGHBOUR: 'it returns false'. Refute it at one input. -/
def fnExactReadPlacementWrong : ChangeSpec := { name := "fnExactReadPlacement", fn := fun _ => fun
  | [d] => { results := [.lit (.bool false)], args := [d] }
  | _ => none }
def FnExactReadPlacementWrongFalsely : Prop := fnExactReadPlacementRow.holds Tryd.pinned (OpenSpec.ofChange fnExactReadPlacementWrong)

/-- 'laws.FnExactVeneerFault': WHATEVER THE INPUT: true; the input reads as it did. -/
def fnExactVeneerFaultSpec : ChangeSpec := { name := "fnExactVeneerFault", vars := ["loop.example/g00956/impl.speciesTable", "loop.example/g00956/impl.errRange", "loop.example/g00956/impl.errNotFound", "loop.example/g00956/impl.errExists", "loop.example/g00956/impl.errFull", "loop.example/g00956/impl.errState"], fn := fun _ => fun
  | [d1, d2, d3, d4, g1, g2, g3, g4, g5, g6] => { results := [.lit (.bool true)], args := [d1, d2, d3, d4], vars := [g1, g2, g3, g4, g5, g6] }
  | _ => none }
def fnExactVeneerFaultRow : OpenClaim := { program := "ytmfchcaidfloaaadoor", sum := "aebb467e9600296f1c9914551da40fecd2ccdbd54709e7aadf45d00e831fb1e5", func := "loop.example/g00956/laws.FnExactVeneerFault", spec := "fnExactVeneerFault", inPlace := ["internal/reflectlite.TypeOf"], unfollowed := true, recurses := true, named := ["loop.example/g00956/impl.speciesTable", "loop.example/g00956/impl.errRange", "loop.example/g00956/impl.errNotFound", "loop.example/g00956/impl.errExists", "loop.example/g00956/impl.errFull", "loop.example/g00956/impl.errState"], ifaces := true, apart := false, laid := [("loop.example/g00956/impl.speciesTable", laid_loop_example_g00956_impl_speciesTable), ("loop.example/g00956/impl.errRange", laid_loop_example_g00956_impl_errRange), ("loop.example/g00956/impl.errNotFound", laid_loop_example_g00956_impl_errNotFound), ("loop.example/g00956/impl.errExists", laid_loop_example_g00956_impl_errExists), ("loop.example/g00956/impl.errFull", laid_loop_example_g00956_impl_errFull), ("loop.example/g00956/impl.errState", laid_loop_example_g00956_impl_errState)] }
def FnExactVeneerFaultSaid : Prop := fnExactVeneerFaultRow.holds Tryd.pinned (OpenSpec.ofChange fnExactVeneerFaultSpec)

/-- ITS FALSE NEIGHBOUR: 'it returns false'. Refute it at one input. -/
def fnExactVeneerFaultWrong : ChangeSpec := { name := "fnExactVeneerFault", vars := ["loop.example/g00956/impl.speciesTable", "loop.example/g00956/impl.errRange", "loop.example/g00956/impl.errNotFound", "loop.example/g00956/impl.errExists", "loop.example/g00956/impl.errFull", "loop.example/g00956/impl.errState"], fn := fun _ => fun
  | [d1, d2, d3, d4, g1, g2, g3, g4, g5, g6] => { results := [.lit (.bool false)], args := [d1, d2, d3, d4], vars := [g1, g2, g3, g4, g5, g6] }
  | _ => none }
def FnExactVeneerFaultWrongFalsely : Prop := fnExactVeneerFaultRow.holds Tryd.pinned (OpenSpec.ofChange fnExactVeneerFaultWrong)

/-- 'laws.FnExactPolygonText': WHATEVER THE INPUT: true; the input reads as it did. -/
def fnExactPolygonTextSpec : ChangeSpec := { name := "fnExactPolygonText", fn := fun _ => fun
  | [d] => { results := [.lit (.bool true)], args := [d] }
  | _ => none }
def fnExactPolygonTextRow : OpenClaim := { program := "ytmfchcaidfloaaadoor", sum := "aebb467e9600296f1c9914551da40fecd2ccdbd54709e7aadf45d00e831fb1e5", func := "loop.example/g00956/laws.FnExactPolygonText", spec := "fnExactPolygonText", inPlace := ["internal/abi.NoEscape", "internal/bytealg.MakeNoZero"], unfollowed := true, recurses := true, named := ["internal/strconv.uint64pow10", "math/bits.deBruijn32tab", "math/bits.deBruijn64tab"], apart := false, laid := [("math/bits.deBruijn32tab", laid_math_bits_deBruijn32tab), ("math/bits.deBruijn64tab", laid_math_bits_deBruijn64tab), ("internal/strconv.uint64pow10", laid_internal_strconv_uint64pow10)] }
def FnExactPolygonTextSaid : Prop := fnExactPolygonTextRow.holds Tryd.pinned (OpenSpec.ofChange fnExactPolygonTextSpec)

/-- ITS FALSE NEIGHBOUR: 'it returns false'. Refute it at one input. -/
def fnExactPolygonTextWrong : ChangeSpec := { name := "fnExactPolygonText", fn := fun _ => fun
  | [d] => { results := [.lit (.bool false)], args := [d] }
  | _ => none }
def FnExactPolygonTextWrongFalsely : Prop := fnExactPolygonTextRow.holds Tryd.pinned (OpenSpec.ofChange fnExactPolygonTextWrong)

/- THE SECOND FORM. 'bulk': how many values and letters a reading holds, each counted each time it is reached (what is shared counts as often as it is met; a slice's spare places count too). A statement '..UptoSaid' is the law's where the arguments, and the package variables that the reading takes, are together of bulk at most 1048576: NARROWER than '..Said'. Prove '..Said' where nothing that the law and all that it calls make is longer than what came in: it says more and counts as full. Else prove '..UptoSaid'. A law counts once. -/
mutual
def uptoBulk {H : Type} : DataW H → Nat
  | .lit (.string bytes) => bytes.length + 1
  | .lit _ => 1
  | .nil => 1
  | .ptr d => uptoBulk d + 1
  | .slice elems spare => uptoBulkAll elems + uptoBulkAll spare + 1
  | .agg parts => uptoBulkAll parts + 1
  | .iface _ d => uptoBulk d + 1
  | .map entries => uptoBulkEntries entries + 1
  | .held _ => 1
def uptoBulkAll {H : Type} : List (DataW H) → Nat
  | [] => 0
  | d :: r => uptoBulk d + uptoBulkAll r
def uptoBulkEntries {H : Type} : List (Lit × DataW H) → Nat
  | [] => 0
  | x :: r => uptoBulkEntry x + uptoBulkEntries r
def uptoBulkEntry {H : Type} : Lit × DataW H → Nat
  | (.string bytes, d) => bytes.length + uptoBulk d + 1
  | (_, d) => uptoBulk d + 1
 end
def uptoSmall : (H : Type) → List (DataW H) → Bool := fun _ ds => decide (uptoBulkAll ds ≤ 1048576)
def OpenSpec.upto (s : _root_.Go.ChangeSpec) : _root_.Go.OpenSpec := { _root_.Go.OpenSpec.ofChange s with cond := some uptoSmall }

/-- 'laws.FnExactPlacementText', WHERE WHAT IT READS IS OF BULK AT MOST 1048576: true; the input reads as it did. -/
def fnExactPlacementTextUptoRow : OpenClaim := { program := "ytmfchcaidfloaaadoor", sum := "aebb467e9600296f1c9914551da40fecd2ccdbd54709e7aadf45d00e831fb1e5", func := "loop.example/g00956/laws.FnExactPlacementText", spec := "fnExactPlacementText", inPlace := ["internal/abi.NoEscape", "internal/bytealg.MakeNoZero"], named := ["internal/strconv.uint64pow10", "math/bits.deBruijn32tab", "math/bits.deBruijn64tab"], apart := false, laid := [("math/bits.deBruijn32tab", laid_math_bits_deBruijn32tab), ("math/bits.deBruijn64tab", laid_math_bits_deBruijn64tab), ("internal/strconv.uint64pow10", laid_internal_strconv_uint64pow10)], narrowed := true }
def FnExactPlacementTextUptoSaid : Prop := fnExactPlacementTextUptoRow.holds Tryd.pinned (OpenSpec.upto fnExactPlacementTextSpec)

/-- 'laws.FnExactReadPlacement', WHERE WHAT IT READS IS OF BULK AT MOST 1048576: true; the input reads as it did. -/
def fnExactReadPlacementUptoRow : OpenClaim := { program := "ytmfchcaidfloaaadoor", sum := "aebb467e9600296f1c9914551da40fecd2ccdbd54709e7aadf45d00e831fb1e5", func := "loop.example/g00956/laws.FnExactReadPlacement", spec := "fnExactReadPlacement", inPlace := ["internal/bytealg.CountString", "internal/bytealg.IndexByteString", "internal/bytealg.IndexString"], named := ["unicode/utf8.first", "unicode/utf8.acceptRanges", "internal/bytealg.MaxLen", "strconv.ErrSyntax", "strconv.ErrRange", "internal/strconv.uint64pow10", "math/bits.deBruijn32tab", "math/bits.deBruijn64tab"], apart := false, laid := [("math/bits.deBruijn32tab", laid_math_bits_deBruijn32tab), ("math/bits.deBruijn64tab", laid_math_bits_deBruijn64tab), ("internal/strconv.uint64pow10", laid_internal_strconv_uint64pow10), ("unicode/utf8.acceptRanges", laid_unicode_utf8_acceptRanges), ("strconv.ErrRange", laid_strconv_ErrRange), ("strconv.ErrSyntax", laid_strconv_ErrSyntax), ("unicode/utf8.first", laid_unicode_utf8_first)], narrowed := true }
def FnExactReadPlacementUptoSaid : Prop := fnExactReadPlacementUptoRow.holds Tryd.pinned (OpenSpec.upto fnExactReadPlacementSpec)

/-- 'laws.FnExactVeneerFault', WHERE WHAT IT READS IS OF BULK AT MOST 1048576: true; the input reads as it did. -/
def fnExactVeneerFaultUptoRow : OpenClaim := { program := "ytmfchcaidfloaaadoor", sum := "aebb467e9600296f1c9914551da40fecd2ccdbd54709e7aadf45d00e831fb1e5", func := "loop.example/g00956/laws.FnExactVeneerFault", spec := "fnExactVeneerFault", inPlace := ["internal/reflectlite.TypeOf"], unfollowed := true, recurses := true, named := ["loop.example/g00956/impl.speciesTable", "loop.example/g00956/impl.errRange", "loop.example/g00956/impl.errNotFound", "loop.example/g00956/impl.errExists", "loop.example/g00956/impl.errFull", "loop.example/g00956/impl.errState"], ifaces := true, apart := false, laid := [("loop.example/g00956/impl.speciesTable", laid_loop_example_g00956_impl_speciesTable), ("loop.example/g00956/impl.errRange", laid_loop_example_g00956_impl_errRange), ("loop.example/g00956/impl.errNotFound", laid_loop_example_g00956_impl_errNotFound), ("loop.example/g00956/impl.errExists", laid_loop_example_g00956_impl_errExists), ("loop.example/g00956/impl.errFull", laid_loop_example_g00956_impl_errFull), ("loop.example/g00956/impl.errState", laid_loop_example_g00956_impl_errState)], narrowed := true }
def FnExactVeneerFaultUptoSaid : Prop := fnExactVeneerFaultUptoRow.holds Tryd.pinned (OpenSpec.upto fnExactVeneerFaultSpec)

/-- 'laws.FnExactPolygonText', WHERE WHAT IT READS IS OF BULK AT MOST 1048576: true; the input reads as it did. -/
def fnExactPolygonTextUptoRow : OpenClaim := { program := "ytmfchcaidfloaaadoor", sum := "aebb467e9600296f1c9914551da40fecd2ccdbd54709e7aadf45d00e831fb1e5", func := "loop.example/g00956/laws.FnExactPolygonText", spec := "fnExactPolygonText", inPlace := ["internal/abi.NoEscape", "internal/bytealg.MakeNoZero"], unfollowed := true, recurses := true, named := ["internal/strconv.uint64pow10", "math/bits.deBruijn32tab", "math/bits.deBruijn64tab"], apart := false, laid := [("math/bits.deBruijn32tab", laid_math_bits_deBruijn32tab), ("math/bits.deBruijn64tab", laid_math_bits_deBruijn64tab), ("internal/strconv.uint64pow10", laid_internal_strconv_uint64pow10)], narrowed := true }
def FnExactPolygonTextUptoSaid : Prop := fnExactPolygonTextUptoRow.holds Tryd.pinned (OpenSpec.upto fnExactPolygonTextSpec)

end Rows
end Go.Proofs.YtmfchcaidfloaaaDoor
