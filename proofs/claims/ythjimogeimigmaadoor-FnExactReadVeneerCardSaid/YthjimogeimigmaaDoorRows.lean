/-
  NARROWER THAN 'FOR EVERY INPUT', by the rows' own cells (each row's printed sentence says how): FnExactSpeciesNames: laid · FnExactSpeciesData: laid · FnExactValidVeneer: laid · FnExactContrastOf: laid · FnExactNearestSpecies: laid · FnExactSpeciesWithin: laid · FnExactWithShade: laid · FnExactMeanShade: laid · FnExactVeneerText: laid · FnExactReadVeneer: laid · FnVeneers: laid.
  DERIVED. THE GIVEN ROWS OF THIS SEAT. 11 by the template 'for every input the law returns true; each argument reads behind the call as it read before'; 0 by the template 'total and deterministic' (their statements: YthjimogeimigmaaDoorTotals.lean).
  GIVEN WITH THE SEED: the statements are not yours to turn. If you find one false, say at which input.
  Laid BY PROGRAM, IN A SANDBOX (cutbox-rows.mjs): the forced cells as the released guide's own fill.sh prints them over the translation 85ff9de9a20ec023… (all of the seat's roots in one cut). By AI agents, Wed Nov 11 2026. No macro, syntax, notation, axiom, sorry.
-/
import Derived.Test.YthjimogeimigmaaDoorChecked
import GoSem.PinnedTables
import GoSem.Claim
import GoSem.ClaimJoined
import GoSem.ClaimMapViews
import Derived.JoinedTies
import Derived.KernelRfl
namespace Go.Proofs.YthjimogeimigmaaDoor
/- THE CELL 'sum', in the pinned program and in every row, IS THE sha256 OF THE DUMP (.gsa) THAT YthjimogeimigmaaDoorProg.lean LOADS. Nothing in Lean hashes anything: it is a label: what it is worth is what the hold of that sum in a sandbox is worth. -/
noncomputable def Tryd.pinned : Pinned := { name := "ythjimogeimigmaadoor", sum := "85ff9de9a20ec02342c1d3b6056d27dfd26bec239671a5bd0f368b1aecf5b291", checked := Tryd.checked }
namespace Rows
def none {H : Type} : Left H := { results := [], args := [] }

/- WHAT THE LISTED PACKAGE-LEVEL VARIABLES READ AS WHEN THE CALL BEGINS. Each datum BY PROGRAM (the guide's laid-datum.mjs) off the statement by which the dump's own 'gosem.cut.vars' lays the variable. In a bare row this is a premise. The card (YthjimogeimigmaaDoorCards.lean) ties it to the program's text. -/
def laid_loop_example_g00956_impl_speciesTable {H : Type} : DataW H := .agg [.agg [.lit (.string [97, 115, 104]), .lit (.int .i64 20), .lit (.int .i64 40), .lit (.int .i64 310)], .agg [.lit (.string [98, 101, 101, 99, 104]), .lit (.int .i64 35), .lit (.int .i64 45), .lit (.int .i64 410)], .agg [.lit (.string [98, 105, 114, 99, 104]), .lit (.int .i64 15), .lit (.int .i64 33), .lit (.int .i64 280)], .agg [.lit (.string [99, 104, 101, 114, 114, 121]), .lit (.int .i64 50), .lit (.int .i64 36), .lit (.int .i64 240)], .agg [.lit (.string [101, 98, 111, 110, 121]), .lit (.int .i64 95), .lit (.int .i64 85), .lit (.int .i64 270)], .agg [.lit (.string [104, 111, 108, 108, 121]), .lit (.int .i64 5), .lit (.int .i64 35), .lit (.int .i64 370)], .agg [.lit (.string [109, 97, 112, 108, 101]), .lit (.int .i64 10), .lit (.int .i64 42), .lit (.int .i64 290)], .agg [.lit (.string [111, 97, 107]), .lit (.int .i64 40), .lit (.int .i64 40), .lit (.int .i64 330)], .agg [.lit (.string [114, 111, 115, 101, 119, 111, 111, 100]), .lit (.int .i64 80), .lit (.int .i64 60), .lit (.int .i64 220)], .agg [.lit (.string [119, 97, 108, 110, 117, 116]), .lit (.int .i64 70), .lit (.int .i64 38), .lit (.int .i64 260)]]
def laid_math_bits_deBruijn32tab {H : Type} : DataW H := .agg [.lit (.int .u8 0), .lit (.int .u8 1), .lit (.int .u8 28), .lit (.int .u8 2), .lit (.int .u8 29), .lit (.int .u8 14), .lit (.int .u8 24), .lit (.int .u8 3), .lit (.int .u8 30), .lit (.int .u8 22), .lit (.int .u8 20), .lit (.int .u8 15), .lit (.int .u8 25), .lit (.int .u8 17), .lit (.int .u8 4), .lit (.int .u8 8), .lit (.int .u8 31), .lit (.int .u8 27), .lit (.int .u8 13), .lit (.int .u8 23), .lit (.int .u8 21), .lit (.int .u8 19), .lit (.int .u8 16), .lit (.int .u8 7), .lit (.int .u8 26), .lit (.int .u8 12), .lit (.int .u8 18), .lit (.int .u8 6), .lit (.int .u8 11), .lit (.int .u8 5), .lit (.int .u8 10), .lit (.int .u8 9)]
def laid_math_bits_deBruijn64tab {H : Type} : DataW H := .agg [.lit (.int .u8 0), .lit (.int .u8 1), .lit (.int .u8 56), .lit (.int .u8 2), .lit (.int .u8 57), .lit (.int .u8 49), .lit (.int .u8 28), .lit (.int .u8 3), .lit (.int .u8 61), .lit (.int .u8 58), .lit (.int .u8 42), .lit (.int .u8 50), .lit (.int .u8 38), .lit (.int .u8 29), .lit (.int .u8 17), .lit (.int .u8 4), .lit (.int .u8 62), .lit (.int .u8 47), .lit (.int .u8 59), .lit (.int .u8 36), .lit (.int .u8 45), .lit (.int .u8 43), .lit (.int .u8 51), .lit (.int .u8 22), .lit (.int .u8 53), .lit (.int .u8 39), .lit (.int .u8 33), .lit (.int .u8 30), .lit (.int .u8 24), .lit (.int .u8 18), .lit (.int .u8 12), .lit (.int .u8 5), .lit (.int .u8 63), .lit (.int .u8 55), .lit (.int .u8 48), .lit (.int .u8 27), .lit (.int .u8 60), .lit (.int .u8 41), .lit (.int .u8 37), .lit (.int .u8 16), .lit (.int .u8 46), .lit (.int .u8 35), .lit (.int .u8 44), .lit (.int .u8 21), .lit (.int .u8 52), .lit (.int .u8 32), .lit (.int .u8 23), .lit (.int .u8 11), .lit (.int .u8 54), .lit (.int .u8 26), .lit (.int .u8 40), .lit (.int .u8 15), .lit (.int .u8 34), .lit (.int .u8 20), .lit (.int .u8 31), .lit (.int .u8 10), .lit (.int .u8 25), .lit (.int .u8 14), .lit (.int .u8 19), .lit (.int .u8 9), .lit (.int .u8 13), .lit (.int .u8 8), .lit (.int .u8 7), .lit (.int .u8 6)]
def laid_internal_strconv_uint64pow10 {H : Type} : DataW H := .agg [.lit (.int .u64 1), .lit (.int .u64 10), .lit (.int .u64 100), .lit (.int .u64 1000), .lit (.int .u64 10000), .lit (.int .u64 100000), .lit (.int .u64 1000000), .lit (.int .u64 10000000), .lit (.int .u64 100000000), .lit (.int .u64 1000000000), .lit (.int .u64 10000000000), .lit (.int .u64 100000000000), .lit (.int .u64 1000000000000), .lit (.int .u64 10000000000000), .lit (.int .u64 100000000000000), .lit (.int .u64 1000000000000000), .lit (.int .u64 10000000000000000), .lit (.int .u64 100000000000000000), .lit (.int .u64 1000000000000000000), .lit (.int .u64 10000000000000000000)]
def laid_unicode_utf8_acceptRanges {H : Type} : DataW H := .agg [.agg [.lit (.int .u8 128), .lit (.int .u8 191)], .agg [.lit (.int .u8 160), .lit (.int .u8 191)], .agg [.lit (.int .u8 128), .lit (.int .u8 159)], .agg [.lit (.int .u8 144), .lit (.int .u8 191)], .agg [.lit (.int .u8 128), .lit (.int .u8 143)], .agg [.lit (.int .u8 0), .lit (.int .u8 0)], .agg [.lit (.int .u8 0), .lit (.int .u8 0)], .agg [.lit (.int .u8 0), .lit (.int .u8 0)], .agg [.lit (.int .u8 0), .lit (.int .u8 0)], .agg [.lit (.int .u8 0), .lit (.int .u8 0)], .agg [.lit (.int .u8 0), .lit (.int .u8 0)], .agg [.lit (.int .u8 0), .lit (.int .u8 0)], .agg [.lit (.int .u8 0), .lit (.int .u8 0)], .agg [.lit (.int .u8 0), .lit (.int .u8 0)], .agg [.lit (.int .u8 0), .lit (.int .u8 0)], .agg [.lit (.int .u8 0), .lit (.int .u8 0)]]
def laid_strconv_ErrRange {H : Type} : DataW H := .iface "*errors.errorString" (.ptr (.agg [.lit (.string [118, 97, 108, 117, 101, 32, 111, 117, 116, 32, 111, 102, 32, 114, 97, 110, 103, 101])]))
def laid_strconv_ErrSyntax {H : Type} : DataW H := .iface "*errors.errorString" (.ptr (.agg [.lit (.string [105, 110, 118, 97, 108, 105, 100, 32, 115, 121, 110, 116, 97, 120])]))
/-- One of Go's own tables, pinned by name: the form's constant. -/
def laid_unicode_utf8_first : DataW Unit := Go.Pinned.utf8First

/-- 'laws.FnExactSpeciesNames': WHATEVER THE INPUT: true; the input reads as it did. -/
def fnExactSpeciesNamesSpec : ChangeSpec := { name := "fnExactSpeciesNames", vars := ["loop.example/g00956/impl.speciesTable"], fn := fun _ => fun
  | [g1] => { results := [.lit (.bool true)], args := [], vars := [g1] }
  | _ => none }
def fnExactSpeciesNamesRow : OpenClaim := { program := "ythjimogeimigmaadoor", sum := "85ff9de9a20ec02342c1d3b6056d27dfd26bec239671a5bd0f368b1aecf5b291", func := "loop.example/g00956/laws.FnExactSpeciesNames", spec := "fnExactSpeciesNames", named := ["loop.example/g00956/impl.speciesTable"], apart := false, laid := [("loop.example/g00956/impl.speciesTable", laid_loop_example_g00956_impl_speciesTable)] }
def FnExactSpeciesNamesSaid : Prop := fnExactSpeciesNamesRow.holds Tryd.pinned (OpenSpec.ofChange fnExactSpeciesNamesSpec)

/-- ITS FALSE NEIGHBOUR: 'it returns false'. Refute it at one input. -/
def fnExactSpeciesNamesWrong : ChangeSpec := { name := "fnExactSpeciesNames", vars := ["loop.example/g00956/impl.speciesTable"], fn := fun _ => fun
  | [g1] => { results := [.lit (.bool false)], args := [], vars := [g1] }
  | _ => none }
def FnExactSpeciesNamesWrongFalsely : Prop := fnExactSpeciesNamesRow.holds Tryd.pinned (OpenSpec.ofChange fnExactSpeciesNamesWrong)

/-- 'laws.FnExactSpeciesData': WHATEVER THE INPUT: true; the input reads as it did. -/
def fnExactSpeciesDataSpec : ChangeSpec := { name := "fnExactSpeciesData", vars := ["loop.example/g00956/impl.speciesTable"], fn := fun _ => fun
  | [d, g1] => { results := [.lit (.bool true)], args := [d], vars := [g1] }
  | _ => none }
def fnExactSpeciesDataRow : OpenClaim := { program := "ythjimogeimigmaadoor", sum := "85ff9de9a20ec02342c1d3b6056d27dfd26bec239671a5bd0f368b1aecf5b291", func := "loop.example/g00956/laws.FnExactSpeciesData", spec := "fnExactSpeciesData", named := ["loop.example/g00956/impl.speciesTable"], apart := false, laid := [("loop.example/g00956/impl.speciesTable", laid_loop_example_g00956_impl_speciesTable)] }
def FnExactSpeciesDataSaid : Prop := fnExactSpeciesDataRow.holds Tryd.pinned (OpenSpec.ofChange fnExactSpeciesDataSpec)

/-- ITS FALSE NEIGHBOUR: 'it returns false'. Refute it at one input. -/
def fnExactSpeciesDataWrong : ChangeSpec := { name := "fnExactSpeciesData", vars := ["loop.example/g00956/impl.speciesTable"], fn := fun _ => fun
  | [d, g1] => { results := [.lit (.bool false)], args := [d], vars := [g1] }
  | _ => none }
def FnExactSpeciesDataWrongFalsely : Prop := fnExactSpeciesDataRow.holds Tryd.pinned (OpenSpec.ofChange fnExactSpeciesDataWrong)

/-- 'laws.FnExactValidVeneer': WHATEVER THE INPUT: true; the input reads as it did. -/
def fnExactValidVeneerSpec : ChangeSpec := { name := "fnExactValidVeneer", vars := ["loop.example/g00956/impl.speciesTable"], fn := fun _ => fun
  | [d, g1] => { results := [.lit (.bool true)], args := [d], vars := [g1] }
  | _ => none }
def fnExactValidVeneerRow : OpenClaim := { program := "ythjimogeimigmaadoor", sum := "85ff9de9a20ec02342c1d3b6056d27dfd26bec239671a5bd0f368b1aecf5b291", func := "loop.example/g00956/laws.FnExactValidVeneer", spec := "fnExactValidVeneer", named := ["loop.example/g00956/impl.speciesTable"], apart := false, laid := [("loop.example/g00956/impl.speciesTable", laid_loop_example_g00956_impl_speciesTable)] }
def FnExactValidVeneerSaid : Prop := fnExactValidVeneerRow.holds Tryd.pinned (OpenSpec.ofChange fnExactValidVeneerSpec)

/-- ITS FALSE NEIGHBOUR: 'it returns false'. Refute it at one input. -/
def fnExactValidVeneerWrong : ChangeSpec := { name := "fnExactValidVeneer", vars := ["loop.example/g00956/impl.speciesTable"], fn := fun _ => fun
  | [d, g1] => { results := [.lit (.bool false)], args := [d], vars := [g1] }
  | _ => none }
def FnExactValidVeneerWrongFalsely : Prop := fnExactValidVeneerRow.holds Tryd.pinned (OpenSpec.ofChange fnExactValidVeneerWrong)

/-- 'laws.FnExactContrastOf': WHATEVER THE INPUT: true; the input reads as it did. -/
def fnExactContrastOfSpec : ChangeSpec := { name := "fnExactContrastOf", vars := ["loop.example/g00956/impl.speciesTable"], fn := fun _ => fun
  | [d1, d2, g1] => { results := [.lit (.bool true)], args := [d1, d2], vars := [g1] }
  | _ => none }
def fnExactContrastOfRow : OpenClaim := { program := "ythjimogeimigmaadoor", sum := "85ff9de9a20ec02342c1d3b6056d27dfd26bec239671a5bd0f368b1aecf5b291", func := "loop.example/g00956/laws.FnExactContrastOf", spec := "fnExactContrastOf", named := ["loop.example/g00956/impl.speciesTable"], apart := false, laid := [("loop.example/g00956/impl.speciesTable", laid_loop_example_g00956_impl_speciesTable)] }
def FnExactContrastOfSaid : Prop := fnExactContrastOfRow.holds Tryd.pinned (OpenSpec.ofChange fnExactContrastOfSpec)

/-- ITS FALSE NEIGHBOUR: 'it returns false'. Refute it at one input. -/
def fnExactContrastOfWrong : ChangeSpec := { name := "fnExactContrastOf", vars := ["loop.example/g00956/impl.speciesTable"], fn := fun _ => fun
  | [d1, d2, g1] => { results := [.lit (.bool false)], args := [d1, d2], vars := [g1] }
  | _ => none }
def FnExactContrastOfWrongFalsely : Prop := fnExactContrastOfRow.holds Tryd.pinned (OpenSpec.ofChange fnExactContrastOfWrong)

/-- 'laws.FnExactNearestSpecies': WHATEVER THE INPUT: true; the input reads as it did. -/
def fnExactNearestSpeciesSpec : ChangeSpec := { name := "fnExactNearestSpecies", vars := ["loop.example/g00956/impl.speciesTable"], fn := fun _ => fun
  | [d, g1] => { results := [.lit (.bool true)], args := [d], vars := [g1] }
  | _ => none }
def fnExactNearestSpeciesRow : OpenClaim := { program := "ythjimogeimigmaadoor", sum := "85ff9de9a20ec02342c1d3b6056d27dfd26bec239671a5bd0f368b1aecf5b291", func := "loop.example/g00956/laws.FnExactNearestSpecies", spec := "fnExactNearestSpecies", named := ["loop.example/g00956/impl.speciesTable"], apart := false, laid := [("loop.example/g00956/impl.speciesTable", laid_loop_example_g00956_impl_speciesTable)] }
def FnExactNearestSpeciesSaid : Prop := fnExactNearestSpeciesRow.holds Tryd.pinned (OpenSpec.ofChange fnExactNearestSpeciesSpec)

/-- ITS FALSE NEIGHBOUR: 'it returns false'. Refute it at one input. -/
def fnExactNearestSpeciesWrong : ChangeSpec := { name := "fnExactNearestSpecies", vars := ["loop.example/g00956/impl.speciesTable"], fn := fun _ => fun
  | [d, g1] => { results := [.lit (.bool false)], args := [d], vars := [g1] }
  | _ => none }
def FnExactNearestSpeciesWrongFalsely : Prop := fnExactNearestSpeciesRow.holds Tryd.pinned (OpenSpec.ofChange fnExactNearestSpeciesWrong)

/-- 'laws.FnExactSpeciesWithin': WHATEVER THE INPUT: true; the input reads as it did. -/
def fnExactSpeciesWithinSpec : ChangeSpec := { name := "fnExactSpeciesWithin", vars := ["loop.example/g00956/impl.speciesTable"], fn := fun _ => fun
  | [d1, d2, g1] => { results := [.lit (.bool true)], args := [d1, d2], vars := [g1] }
  | _ => none }
def fnExactSpeciesWithinRow : OpenClaim := { program := "ythjimogeimigmaadoor", sum := "85ff9de9a20ec02342c1d3b6056d27dfd26bec239671a5bd0f368b1aecf5b291", func := "loop.example/g00956/laws.FnExactSpeciesWithin", spec := "fnExactSpeciesWithin", named := ["loop.example/g00956/impl.speciesTable"], apart := false, laid := [("loop.example/g00956/impl.speciesTable", laid_loop_example_g00956_impl_speciesTable)] }
def FnExactSpeciesWithinSaid : Prop := fnExactSpeciesWithinRow.holds Tryd.pinned (OpenSpec.ofChange fnExactSpeciesWithinSpec)

/-- ITS FALSE NEIGHBOUR: 'it returns false'. Refute it at one input. -/
def fnExactSpeciesWithinWrong : ChangeSpec := { name := "fnExactSpeciesWithin", vars := ["loop.example/g00956/impl.speciesTable"], fn := fun _ => fun
  | [d1, d2, g1] => { results := [.lit (.bool false)], args := [d1, d2], vars := [g1] }
  | _ => none }
def FnExactSpeciesWithinWrongFalsely : Prop := fnExactSpeciesWithinRow.holds Tryd.pinned (OpenSpec.ofChange fnExactSpeciesWithinWrong)

/-- 'laws.FnExactWithShade': WHATEVER THE INPUT: true; the input reads as it did. -/
def fnExactWithShadeSpec : ChangeSpec := { name := "fnExactWithShade", vars := ["loop.example/g00956/impl.speciesTable"], fn := fun _ => fun
  | [d1, d2, g1] => { results := [.lit (.bool true)], args := [d1, d2], vars := [g1] }
  | _ => none }
def fnExactWithShadeRow : OpenClaim := { program := "ythjimogeimigmaadoor", sum := "85ff9de9a20ec02342c1d3b6056d27dfd26bec239671a5bd0f368b1aecf5b291", func := "loop.example/g00956/laws.FnExactWithShade", spec := "fnExactWithShade", named := ["loop.example/g00956/impl.speciesTable"], apart := false, laid := [("loop.example/g00956/impl.speciesTable", laid_loop_example_g00956_impl_speciesTable)] }
def FnExactWithShadeSaid : Prop := fnExactWithShadeRow.holds Tryd.pinned (OpenSpec.ofChange fnExactWithShadeSpec)

/-- ITS FALSE NEIGHBOUR: 'it returns false'. Refute it at one input. -/
def fnExactWithShadeWrong : ChangeSpec := { name := "fnExactWithShade", vars := ["loop.example/g00956/impl.speciesTable"], fn := fun _ => fun
  | [d1, d2, g1] => { results := [.lit (.bool false)], args := [d1, d2], vars := [g1] }
  | _ => none }
def FnExactWithShadeWrongFalsely : Prop := fnExactWithShadeRow.holds Tryd.pinned (OpenSpec.ofChange fnExactWithShadeWrong)

/-- 'laws.FnExactMeanShade': WHATEVER THE INPUT: true; the input reads as it did. -/
def fnExactMeanShadeSpec : ChangeSpec := { name := "fnExactMeanShade", vars := ["loop.example/g00956/impl.speciesTable"], fn := fun _ => fun
  | [d, g1] => { results := [.lit (.bool true)], args := [d], vars := [g1] }
  | _ => none }
def fnExactMeanShadeRow : OpenClaim := { program := "ythjimogeimigmaadoor", sum := "85ff9de9a20ec02342c1d3b6056d27dfd26bec239671a5bd0f368b1aecf5b291", func := "loop.example/g00956/laws.FnExactMeanShade", spec := "fnExactMeanShade", named := ["loop.example/g00956/impl.speciesTable"], apart := false, laid := [("loop.example/g00956/impl.speciesTable", laid_loop_example_g00956_impl_speciesTable)] }
def FnExactMeanShadeSaid : Prop := fnExactMeanShadeRow.holds Tryd.pinned (OpenSpec.ofChange fnExactMeanShadeSpec)

/-- ITS FALSE NEIGHBOUR: 'it returns false'. Refute it at one input. -/
def fnExactMeanShadeWrong : ChangeSpec := { name := "fnExactMeanShade", vars := ["loop.example/g00956/impl.speciesTable"], fn := fun _ => fun
  | [d, g1] => { results := [.lit (.bool false)], args := [d], vars := [g1] }
  | _ => none }
def FnExactMeanShadeWrongFalsely : Prop := fnExactMeanShadeRow.holds Tryd.pinned (OpenSpec.ofChange fnExactMeanShadeWrong)

/-- 'laws.FnExactVeneerText': WHATEVER THE INPUT: true; the input reads as it did. -/
def fnExactVeneerTextSpec : ChangeSpec := { name := "fnExactVeneerText", vars := ["loop.example/g00956/impl.speciesTable"], fn := fun _ => fun
  | [d, g1] => { results := [.lit (.bool true)], args := [d], vars := [g1] }
  | _ => none }
def fnExactVeneerTextRow : OpenClaim := { program := "ythjimogeimigmaadoor", sum := "85ff9de9a20ec02342c1d3b6056d27dfd26bec239671a5bd0f368b1aecf5b291", func := "loop.example/g00956/laws.FnExactVeneerText", spec := "fnExactVeneerText", named := ["loop.example/g00956/impl.speciesTable", "internal/strconv.uint64pow10", "math/bits.deBruijn32tab", "math/bits.deBruijn64tab"], apart := false, laid := [("math/bits.deBruijn32tab", laid_math_bits_deBruijn32tab), ("math/bits.deBruijn64tab", laid_math_bits_deBruijn64tab), ("internal/strconv.uint64pow10", laid_internal_strconv_uint64pow10), ("loop.example/g00956/impl.speciesTable", laid_loop_example_g00956_impl_speciesTable)] }
def FnExactVeneerTextSaid : Prop := fnExactVeneerTextRow.holds Tryd.pinned (OpenSpec.ofChange fnExactVeneerTextSpec)

/-- ITS FALSE NEIGHBOUR: 'it returns false'. Refute it at one input. -/
def fnExactVeneerTextWrong : ChangeSpec := { name := "fnExactVeneerText", vars := ["loop.example/g00956/impl.speciesTable"], fn := fun _ => fun
  | [d, g1] => { results := [.lit (.bool false)], args := [d], vars := [g1] }
  | _ => none }
def FnExactVeneerTextWrongFalsely : Prop := fnExactVeneerTextRow.holds Tryd.pinned (OpenSpec.ofChange fnExactVeneerTextWrong)

/-- 'laws.FnExactReadVeneer': WHATEVER THE INPUT: true; the input reads as it did. -/
def fnExactReadVeneerSpec : ChangeSpec := { name := "fnExactReadVeneer", vars := ["loop.example/g00956/impl.speciesTable"], fn := fun _ => fun
  | [d, g1] => { results := [.lit (.bool true)], args := [d], vars := [g1] }
  | _ => none }
def fnExactReadVeneerRow : OpenClaim := { program := "ythjimogeimigmaadoor", sum := "85ff9de9a20ec02342c1d3b6056d27dfd26bec239671a5bd0f368b1aecf5b291", func := "loop.example/g00956/laws.FnExactReadVeneer", spec := "fnExactReadVeneer", inPlace := ["internal/bytealg.CountString", "internal/bytealg.IndexByteString", "internal/bytealg.IndexString"], named := ["unicode/utf8.first", "unicode/utf8.acceptRanges", "internal/bytealg.MaxLen", "strconv.ErrSyntax", "strconv.ErrRange", "internal/strconv.uint64pow10", "math/bits.deBruijn32tab", "math/bits.deBruijn64tab", "loop.example/g00956/impl.speciesTable"], apart := false, laid := [("math/bits.deBruijn32tab", laid_math_bits_deBruijn32tab), ("math/bits.deBruijn64tab", laid_math_bits_deBruijn64tab), ("internal/strconv.uint64pow10", laid_internal_strconv_uint64pow10), ("unicode/utf8.acceptRanges", laid_unicode_utf8_acceptRanges), ("strconv.ErrRange", laid_strconv_ErrRange), ("strconv.ErrSyntax", laid_strconv_ErrSyntax), ("loop.example/g00956/impl.speciesTable", laid_loop_example_g00956_impl_speciesTable), ("unicode/utf8.first", laid_unicode_utf8_first)] }
def FnExactReadVeneerSaid : Prop := fnExactReadVeneerRow.holds Tryd.pinned (OpenSpec.ofChange fnExactReadVeneerSpec)

/-- ITS FALSE NEIGHBOUR: 'it returns false'. Refute it at one input. -/
def fnExactReadVeneerWrong : ChangeSpec := { name := "fnExactReadVeneer", vars := ["loop.example/g00956/impl.speciesTable"], fn := fun _ => fun
  | [d, g1] => { results := [.lit (.bool false)], args := [d], vars := [g1] }
  | _ => none }
def FnExactReadVeneerWrongFalsely : Prop := fnExactReadVeneerRow.holds Tryd.pinned (OpenSpec.ofChange fnExactReadVeneerWrong)

/-- 'laws.FnVeneers': WHATEVER THE INPUT: true; the input reads as it did. -/
def fnVeneersSpec : ChangeSpec := { name := "fnVeneers", vars := ["loop.example/g00956/impl.speciesTable"], fn := fun _ => fun
  | [d1, d2, g1] => { results := [.lit (.bool true)], args := [d1, d2], vars := [g1] }
  | _ => none }
def fnVeneersRow : OpenClaim := { program := "ythjimogeimigmaadoor", sum := "85ff9de9a20ec02342c1d3b6056d27dfd26bec239671a5bd0f368b1aecf5b291", func := "loop.example/g00956/laws.FnVeneers", spec := "fnVeneers", inPlace := ["internal/bytealg.CountString", "internal/bytealg.IndexByteString", "internal/bytealg.IndexString"], named := ["loop.example/g00956/impl.speciesTable", "internal/strconv.uint64pow10", "math/bits.deBruijn32tab", "math/bits.deBruijn64tab", "unicode/utf8.first", "unicode/utf8.acceptRanges", "internal/bytealg.MaxLen", "strconv.ErrSyntax", "strconv.ErrRange"], apart := false, laid := [("math/bits.deBruijn32tab", laid_math_bits_deBruijn32tab), ("math/bits.deBruijn64tab", laid_math_bits_deBruijn64tab), ("internal/strconv.uint64pow10", laid_internal_strconv_uint64pow10), ("unicode/utf8.acceptRanges", laid_unicode_utf8_acceptRanges), ("strconv.ErrRange", laid_strconv_ErrRange), ("strconv.ErrSyntax", laid_strconv_ErrSyntax), ("loop.example/g00956/impl.speciesTable", laid_loop_example_g00956_impl_speciesTable), ("unicode/utf8.first", laid_unicode_utf8_first)] }
def FnVeneersSaid : Prop := fnVeneersRow.holds Tryd.pinned (OpenSpec.ofChange fnVeneersSpec)

/-- ITS FALSE NEIGHBOUR: 'it returns false'. Refute it at one input. -/
def fnVeneersWrong : ChangeSpec := { name := "fnVeneers", vars := ["loop.example/g00956/impl.speciesTable"], fn := fun _ => fun
  | [d1, d2, g1] => { results := [.lit (.bool false)], args := [d1, d2], vars := [g1] }
  | _ => none }
def FnVeneersWrongFalsely : Prop := fnVeneersRow.holds Tryd.pinned (OpenSpec.ofChange fnVeneersWrong)

/- THE SECOND FORM. 'bulk': how many values and letters a reading holds, each counted each time it is reached (what is shared counts as often as it is met; a slice's spare places count too). A statement '..UptoSaid' is the law's where the arguments, and the package variables that the reading takes, are together of bulk at most 1048576: NARROWER than '..Said'. Prove '..Said' where nothing that the law and all that it calls make is longer than what came in: it says more and counts as full. Else prove '..UptoSaid'. A law counts once. -/
mutual
def uptoBulk {H : Type} : DataW H → Nat
  | .lit (.string bytes) => bytes.length + 1
  | .lit _ => 1
  | .nil => 1
  | .ptr d => uptoBulk d + 1
  | .slice elems spare => uptoBulkAll elems + uptoBulkAll spare + 1
  | .agg parts => uptoBulkAll parts + 1
  | .iface _ d => uptoBulk d + 1
  | .map entries => uptoBulkEntries entries + 1
  | .held _ => 1
def uptoBulkAll {H : Type} : List (DataW H) → Nat
  | [] => 0
  | d :: r => uptoBulk d + uptoBulkAll r
def uptoBulkEntries {H : Type} : List (Lit × DataW H) → Nat
  | [] => 0
  | x :: r => uptoBulkEntry x + uptoBulkEntries r
def uptoBulkEntry {H : Type} : Lit × DataW H → Nat
  | (.string bytes, d) => bytes.length + uptoBulk d + 1
  | (_, d) => uptoBulk d + 1
 end
def uptoSmall : (H : Type) → List (DataW H) → Bool := fun _ ds => decide (uptoBulkAll ds ≤ 1048576)
def OpenSpec.upto (s : _root_.Go.ChangeSpec) : _root_.Go.OpenSpec := { _root_.Go.OpenSpec.ofChange s with cond := some uptoSmall }

/-- 'laws.FnExactSpeciesNames', WHERE WHAT IT READS IS OF BULK AT MOST 1048576: true; the input reads as it did. -/
def fnExactSpeciesNamesUptoRow : OpenClaim := { program := "ythjimogeimigmaadoor", sum := "85ff9de9a20ec02342c1d3b6056d27dfd26bec239671a5bd0f368b1aecf5b291", func := "loop.example/g00956/laws.FnExactSpeciesNames", spec := "fnExactSpeciesNames", named := ["loop.example/g00956/impl.speciesTable"], apart := false, laid := [("loop.example/g00956/impl.speciesTable", laid_loop_example_g00956_impl_speciesTable)], narrowed := true }
def FnExactSpeciesNamesUptoSaid : Prop := fnExactSpeciesNamesUptoRow.holds Tryd.pinned (OpenSpec.upto fnExactSpeciesNamesSpec)

/-- 'laws.FnExactSpeciesData', WHERE WHAT IT READS IS OF BULK AT MOST 1048576: true; the input reads as it did. -/
def fnExactSpeciesDataUptoRow : OpenClaim := { program := "ythjimogeimigmaadoor", sum := "85ff9de9a20ec02342c1d3b6056d27dfd26bec239671a5bd0f368b1aecf5b291", func := "loop.example/g00956/laws.FnExactSpeciesData", spec := "fnExactSpeciesData", named := ["loop.example/g00956/impl.speciesTable"], apart := false, laid := [("loop.example/g00956/impl.speciesTable", laid_loop_example_g00956_impl_speciesTable)], narrowed := true }
def FnExactSpeciesDataUptoSaid : Prop := fnExactSpeciesDataUptoRow.holds Tryd.pinned (OpenSpec.upto fnExactSpeciesDataSpec)

/-- 'laws.FnExactValidVeneer', WHERE WHAT IT READS IS OF BULK AT MOST 1048576: true; the input reads as it did. -/
def fnExactValidVeneerUptoRow : OpenClaim := { program := "ythjimogeimigmaadoor", sum := "85ff9de9a20ec02342c1d3b6056d27dfd26bec239671a5bd0f368b1aecf5b291", func := "loop.example/g00956/laws.FnExactValidVeneer", spec := "fnExactValidVeneer", named := ["loop.example/g00956/impl.speciesTable"], apart := false, laid := [("loop.example/g00956/impl.speciesTable", laid_loop_example_g00956_impl_speciesTable)], narrowed := true }
def FnExactValidVeneerUptoSaid : Prop := fnExactValidVeneerUptoRow.holds Tryd.pinned (OpenSpec.upto fnExactValidVeneerSpec)

/-- 'laws.FnExactContrastOf', WHERE WHAT IT READS IS OF BULK AT MOST 1048576: true; the input reads as it did. -/
def fnExactContrastOfUptoRow : OpenClaim := { program := "ythjimogeimigmaadoor", sum := "85ff9de9a20ec02342c1d3b6056d27dfd26bec239671a5bd0f368b1aecf5b291", func := "loop.example/g00956/laws.FnExactContrastOf", spec := "fnExactContrastOf", named := ["loop.example/g00956/impl.speciesTable"], apart := false, laid := [("loop.example/g00956/impl.speciesTable", laid_loop_example_g00956_impl_speciesTable)], narrowed := true }
def FnExactContrastOfUptoSaid : Prop := fnExactContrastOfUptoRow.holds Tryd.pinned (OpenSpec.upto fnExactContrastOfSpec)

/-- 'laws.FnExactNearestSpecies', WHERE WHAT IT READS IS OF BULK AT MOST 1048576: true; the input reads as it did. -/
def fnExactNearestSpeciesUptoRow : OpenClaim := { program := "ythjimogeimigmaadoor", sum := "85ff9de9a20ec02342c1d3b6056d27dfd26bec239671a5bd0f368b1aecf5b291", func := "loop.example/g00956/laws.FnExactNearestSpecies", spec := "fnExactNearestSpecies", named := ["loop.example/g00956/impl.speciesTable"], apart := false, laid := [("loop.example/g00956/impl.speciesTable", laid_loop_example_g00956_impl_speciesTable)], narrowed := true }
def FnExactNearestSpeciesUptoSaid : Prop := fnExactNearestSpeciesUptoRow.holds Tryd.pinned (OpenSpec.upto fnExactNearestSpeciesSpec)

/-- 'laws.FnExactSpeciesWithin', WHERE WHAT IT READS IS OF BULK AT MOST 1048576: true; the input reads as it did. -/
def fnExactSpeciesWithinUptoRow : OpenClaim := { program := "ythjimogeimigmaadoor", sum := "85ff9de9a20ec02342c1d3b6056d27dfd26bec239671a5bd0f368b1aecf5b291", func := "loop.example/g00956/laws.FnExactSpeciesWithin", spec := "fnExactSpeciesWithin", named := ["loop.example/g00956/impl.speciesTable"], apart := false, laid := [("loop.example/g00956/impl.speciesTable", laid_loop_example_g00956_impl_speciesTable)], narrowed := true }
def FnExactSpeciesWithinUptoSaid : Prop := fnExactSpeciesWithinUptoRow.holds Tryd.pinned (OpenSpec.upto fnExactSpeciesWithinSpec)

/-- 'laws.FnExactWithShade', WHERE WHAT IT READS IS OF BULK AT MOST 1048576: true; the input reads as it did. -/
def fnExactWithShadeUptoRow : OpenClaim := { program := "ythjimogeimigmaadoor", sum := "85ff9de9a20ec02342c1d3b6056d27dfd26bec239671a5bd0f368b1aecf5b291", func := "loop.example/g00956/laws.FnExactWithShade", spec := "fnExactWithShade", named := ["loop.example/g00956/impl.speciesTable"], apart := false, laid := [("loop.example/g00956/impl.speciesTable", laid_loop_example_g00956_impl_speciesTable)], narrowed := true }
def FnExactWithShadeUptoSaid : Prop := fnExactWithShadeUptoRow.holds Tryd.pinned (OpenSpec.upto fnExactWithShadeSpec)

/-- 'laws.FnExactMeanShade', WHERE WHAT IT READS IS OF BULK AT MOST 1048576: true; the input reads as it did. -/
def fnExactMeanShadeUptoRow : OpenClaim := { program := "ythjimogeimigmaadoor", sum := "85ff9de9a20ec02342c1d3b6056d27dfd26bec239671a5bd0f368b1aecf5b291", func := "loop.example/g00956/laws.FnExactMeanShade", spec := "fnExactMeanShade", named := ["loop.example/g00956/impl.speciesTable"], apart := false, laid := [("loop.example/g00956/impl.speciesTable", laid_loop_example_g00956_impl_speciesTable)], narrowed := true }
def FnExactMeanShadeUptoSaid : Prop := fnExactMeanShadeUptoRow.holds Tryd.pinned (OpenSpec.upto fnExactMeanShadeSpec)

/-- 'laws.FnExactVeneerText', WHERE WHAT IT READS IS OF BULK AT MOST 1048576: true; the input reads as it did. -/
def fnExactVeneerTextUptoRow : OpenClaim := { program := "ythjimogeimigmaadoor", sum := "85ff9de9a20ec02342c1d3b6056d27dfd26bec239671a5bd0f368b1aecf5b291", func := "loop.example/g00956/laws.FnExactVeneerText", spec := "fnExactVeneerText", named := ["loop.example/g00956/impl.speciesTable", "internal/strconv.uint64pow10", "math/bits.deBruijn32tab", "math/bits.deBruijn64tab"], apart := false, laid := [("math/bits.deBruijn32tab", laid_math_bits_deBruijn32tab), ("math/bits.deBruijn64tab", laid_math_bits_deBruijn64tab), ("internal/strconv.uint64pow10", laid_internal_strconv_uint64pow10), ("loop.example/g00956/impl.speciesTable", laid_loop_example_g00956_impl_speciesTable)], narrowed := true }
def FnExactVeneerTextUptoSaid : Prop := fnExactVeneerTextUptoRow.holds Tryd.pinned (OpenSpec.upto fnExactVeneerTextSpec)

/-- 'laws.FnExactReadVeneer', WHERE WHAT IT READS IS OF BULK AT MOST 1048576: true; the input reads as it did. -/
def fnExactReadVeneerUptoRow : OpenClaim := { program := "ythjimogeimigmaadoor", sum := "85ff9de9a20ec02342c1d3b6056d27dfd26bec239671a5bd0f368b1aecf5b291", func := "loop.example/g00956/laws.FnExactReadVeneer", spec := "fnExactReadVeneer", inPlace := ["internal/bytealg.CountString", "internal/bytealg.IndexByteString", "internal/bytealg.IndexString"], named := ["unicode/utf8.first", "unicode/utf8.acceptRanges", "internal/bytealg.MaxLen", "strconv.ErrSyntax", "strconv.ErrRange", "internal/strconv.uint64pow10", "math/bits.deBruijn32tab", "math/bits.deBruijn64tab", "loop.example/g00956/impl.speciesTable"], apart := false, laid := [("math/bits.deBruijn32tab", laid_math_bits_deBruijn32tab), ("math/bits.deBruijn64tab", laid_math_bits_deBruijn64tab), ("internal/strconv.uint64pow10", laid_internal_strconv_uint64pow10), ("unicode/utf8.acceptRanges", laid_unicode_utf8_acceptRanges), ("strconv.ErrRange", laid_strconv_ErrRange), ("strconv.ErrSyntax", laid_strconv_ErrSyntax), ("loop.example/g00956/impl.speciesTable", laid_loop_example_g00956_impl_speciesTable), ("unicode/utf8.first", laid_unicode_utf8_first)], narrowed := true }
def FnExactReadVeneerUptoSaid : Prop := fnExactReadVeneerUptoRow.holds Tryd.pinned (OpenSpec.upto fnExactReadVeneerSpec)

/-- 'laws.FnVeneers', WHERE WHAT IT READS IS OF BULK AT MOST 1048576: true; the input reads as it did. -/
def fnVeneersUptoRow : OpenClaim := { program := "ythjimogeimigmaadoor", sum := "85ff9de9a20ec02342c1d3b6056d27dfd26bec239671a5bd0f368b1aecf5b291", func := "loop.example/g00956/laws.FnVeneers", spec := "fnVeneers", inPlace := ["internal/bytealg.CountString", "internal/bytealg.IndexByteString", "internal/bytealg.IndexString"], named := ["loop.example/g00956/impl.speciesTable", "internal/strconv.uint64pow10", "math/bits.deBruijn32tab", "math/bits.deBruijn64tab", "unicode/utf8.first", "unicode/utf8.acceptRanges", "internal/bytealg.MaxLen", "strconv.ErrSyntax", "strconv.ErrRange"], apart := false, laid := [("math/bits.deBruijn32tab", laid_math_bits_deBruijn32tab), ("math/bits.deBruijn64tab", laid_math_bits_deBruijn64tab), ("internal/strconv.uint64pow10", laid_internal_strconv_uint64pow10), ("unicode/utf8.acceptRanges", laid_unicode_utf8_acceptRanges), ("strconv.ErrRange", laid_strconv_ErrRange), ("strconv.ErrSyntax", laid_strconv_ErrSyntax), ("loop.example/g00956/impl.speciesTable", laid_loop_example_g00956_impl_speciesTable), ("unicode/utf8.first", laid_unicode_utf8_first)], narrowed := true }
def FnVeneersUptoSaid : Prop := fnVeneersUptoRow.holds Tryd.pinned (OpenSpec.upto fnVeneersSpec)

end Rows
end Go.Proofs.YthjimogeimigmaaDoor
