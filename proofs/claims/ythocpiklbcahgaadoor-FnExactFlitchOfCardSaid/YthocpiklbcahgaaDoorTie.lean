/-
  DERIVED. GIVEN WITH THE SEED: THE PROGRAM's TIES (one call each: nine closed facts by the kernel) AND EACH ROW's TIE, after the 31st guide's Derived/Test/Toyas{Tie, Card}.lean. No idea stands in it: it is a product of the set-up. Laid BY PROGRAM, IN A SANDBOX (cutbox-door.mjs). By AI agents, Wed Nov 11 2026. No macro, syntax, notation, axiom, sorry.
-/
import Derived.Test.YthocpiklbcahgaaDoorRows
import Derived.LaidByTextLater
import Derived.SevenTiedAt
import Derived.LaidSub
import Derived.LaidOnce
namespace Go.Proofs.YthocpiklbcahgaaDoor
open Go
set_option maxRecDepth 100000
theorem seatTie1 : Tryd.prog.laidByTextLater [("math/bits.deBruijn32tab", Rows.laid_math_bits_deBruijn32tab), ("math/bits.deBruijn64tab", Rows.laid_math_bits_deBruijn64tab), ("internal/strconv.uint64pow10", Rows.laid_internal_strconv_uint64pow10), ("loop.example/g00956/impl.speciesTable", Rows.laid_loop_example_g00956_impl_speciesTable), ("loop.example/g00956/impl.errRange", Rows.laid_loop_example_g00956_impl_errRange), ("loop.example/g00956/impl.errNotFound", Rows.laid_loop_example_g00956_impl_errNotFound), ("loop.example/g00956/impl.errExists", Rows.laid_loop_example_g00956_impl_errExists), ("loop.example/g00956/impl.errFull", Rows.laid_loop_example_g00956_impl_errFull), ("loop.example/g00956/impl.errState", Rows.laid_loop_example_g00956_impl_errState)] [.data, .data, .data, .data, .sentinel, .sentinel, .sentinel, .sentinel, .sentinel] true :=
  Program.laidByTextLater_by_one 134 8 65 (by kernel_rfl) (by kernel_rfl) (by kernel_rfl) (by kernel_rfl) (by kernel_rfl) (by kernel_rfl) (fun _ _ => by kernel_rfl)
theorem noOwnUnsafe : Tryd.pinned.checked.prog.headLifts.contains "ownunsafe" = false := by kernel_rfl
theorem tie : Tryd.prog.laidByTextLater [("loop.example/g00956/impl.speciesTable", Rows.laid_loop_example_g00956_impl_speciesTable), ("loop.example/g00956/impl.errRange", Rows.laid_loop_example_g00956_impl_errRange), ("loop.example/g00956/impl.errNotFound", Rows.laid_loop_example_g00956_impl_errNotFound), ("loop.example/g00956/impl.errExists", Rows.laid_loop_example_g00956_impl_errExists), ("loop.example/g00956/impl.errFull", Rows.laid_loop_example_g00956_impl_errFull), ("loop.example/g00956/impl.errState", Rows.laid_loop_example_g00956_impl_errState)] [.data, .sentinel, .sentinel, .sentinel, .sentinel, .sentinel] true :=
  Program.laidByTextLater.sub seatTie1 ["loop.example/g00956/impl.speciesTable", "loop.example/g00956/impl.errRange", "loop.example/g00956/impl.errNotFound", "loop.example/g00956/impl.errExists", "loop.example/g00956/impl.errFull", "loop.example/g00956/impl.errState"] (by kernel_rfl) (by kernel_rfl)
theorem fnExactLeavesOf_row_tie : Rows.fnExactLeavesOfRow.laidByTextAt .later Tryd.pinned [.data, .sentinel, .sentinel, .sentinel, .sentinel, .sentinel] true :=
  OpenClaim.laidByTextAt_later rfl rfl tie noOwnUnsafe
theorem fnExactFlitchOf_row_tie : Rows.fnExactFlitchOfRow.laidByTextAt .later Tryd.pinned [.data, .sentinel, .sentinel, .sentinel, .sentinel, .sentinel] true :=
  OpenClaim.laidByTextAt_later rfl rfl tie noOwnUnsafe
theorem fnExactTrimLeaf_row_tie : Rows.fnExactTrimLeafRow.laidByTextAt .later Tryd.pinned [.data, .sentinel, .sentinel, .sentinel, .sentinel, .sentinel] true :=
  OpenClaim.laidByTextAt_later rfl rfl tie noOwnUnsafe
theorem fnExactAddLeaf_row_tie : Rows.fnExactAddLeafRow.laidByTextAt .later Tryd.pinned [.data, .sentinel, .sentinel, .sentinel, .sentinel, .sentinel] true :=
  OpenClaim.laidByTextAt_later rfl rfl tie noOwnUnsafe
theorem fnExactDropLeaf_row_tie : Rows.fnExactDropLeafRow.laidByTextAt .later Tryd.pinned [.data, .sentinel, .sentinel, .sentinel, .sentinel, .sentinel] true :=
  OpenClaim.laidByTextAt_later rfl rfl tie noOwnUnsafe
theorem tie2 : Tryd.prog.laidByTextLater [("math/bits.deBruijn32tab", Rows.laid_math_bits_deBruijn32tab), ("math/bits.deBruijn64tab", Rows.laid_math_bits_deBruijn64tab), ("internal/strconv.uint64pow10", Rows.laid_internal_strconv_uint64pow10), ("loop.example/g00956/impl.speciesTable", Rows.laid_loop_example_g00956_impl_speciesTable)] [.data, .data, .data, .data] true :=
  Program.laidByTextLater.sub seatTie1 ["math/bits.deBruijn32tab", "math/bits.deBruijn64tab", "internal/strconv.uint64pow10", "loop.example/g00956/impl.speciesTable"] (by kernel_rfl) (by kernel_rfl)
theorem fnExactLeafText_row_tie : Rows.fnExactLeafTextRow.laidByTextAt .later Tryd.pinned [.data, .data, .data, .data] true :=
  OpenClaim.laidByTextAt_later rfl rfl tie2 noOwnUnsafe
theorem tie3 : Tryd.prog.laidByTextLater [("loop.example/g00956/impl.speciesTable", Rows.laid_loop_example_g00956_impl_speciesTable)] [.data] true :=
  Program.laidByTextLater.sub seatTie1 ["loop.example/g00956/impl.speciesTable"] (by kernel_rfl) (by kernel_rfl)
theorem fnExactUsableArea_row_tie : Rows.fnExactUsableAreaRow.laidByTextAt .later Tryd.pinned [.data] true :=
  OpenClaim.laidByTextAt_later rfl rfl tie3 noOwnUnsafe
theorem fnExactLeavesOfUpto_row_tie : Rows.fnExactLeavesOfUptoRow.laidByTextAt .later Tryd.pinned [.data, .sentinel, .sentinel, .sentinel, .sentinel, .sentinel] true :=
  OpenClaim.laidByTextAt_later rfl rfl tie noOwnUnsafe
theorem fnExactFlitchOfUpto_row_tie : Rows.fnExactFlitchOfUptoRow.laidByTextAt .later Tryd.pinned [.data, .sentinel, .sentinel, .sentinel, .sentinel, .sentinel] true :=
  OpenClaim.laidByTextAt_later rfl rfl tie noOwnUnsafe
theorem fnExactTrimLeafUpto_row_tie : Rows.fnExactTrimLeafUptoRow.laidByTextAt .later Tryd.pinned [.data, .sentinel, .sentinel, .sentinel, .sentinel, .sentinel] true :=
  OpenClaim.laidByTextAt_later rfl rfl tie noOwnUnsafe
theorem fnExactLeafTextUpto_row_tie : Rows.fnExactLeafTextUptoRow.laidByTextAt .later Tryd.pinned [.data, .data, .data, .data] true :=
  OpenClaim.laidByTextAt_later rfl rfl tie2 noOwnUnsafe
theorem fnExactAddLeafUpto_row_tie : Rows.fnExactAddLeafUptoRow.laidByTextAt .later Tryd.pinned [.data, .sentinel, .sentinel, .sentinel, .sentinel, .sentinel] true :=
  OpenClaim.laidByTextAt_later rfl rfl tie noOwnUnsafe
theorem fnExactDropLeafUpto_row_tie : Rows.fnExactDropLeafUptoRow.laidByTextAt .later Tryd.pinned [.data, .sentinel, .sentinel, .sentinel, .sentinel, .sentinel] true :=
  OpenClaim.laidByTextAt_later rfl rfl tie noOwnUnsafe
theorem fnExactUsableAreaUpto_row_tie : Rows.fnExactUsableAreaUptoRow.laidByTextAt .later Tryd.pinned [.data] true :=
  OpenClaim.laidByTextAt_later rfl rfl tie3 noOwnUnsafe
end Go.Proofs.YthocpiklbcahgaaDoor
