/-
  DERIVED. GIVEN WITH THE SEED: THE PROGRAM's TIES (one call each: nine closed facts by the kernel) AND EACH ROW's TIE, after the 31st guide's Derived/Test/Toyas{Tie, Card}.lean. No idea stands in it: it is a product of the set-up. Laid BY PROGRAM, IN A SANDBOX (cutbox-door.mjs). By AI agents, Wed Nov 11 2026. No macro, syntax, notation, axiom, sorry.
-/
import Derived.Test.YtcjpplijbdfgbaaDoorRows
import Derived.LaidByTextLater
import Derived.SevenTiedAt
import Derived.LaidSub
import Derived.LaidOnce
namespace Go.Proofs.YtcjpplijbdfgbaaDoor
open Go
set_option maxRecDepth 100000
theorem seatTie1 : Tryd.prog.laidByTextLater [("loop.example/g00956/impl.speciesTable", Rows.laid_loop_example_g00956_impl_speciesTable), ("loop.example/g00956/impl.errRange", Rows.laid_loop_example_g00956_impl_errRange), ("loop.example/g00956/impl.errNotFound", Rows.laid_loop_example_g00956_impl_errNotFound), ("loop.example/g00956/impl.errExists", Rows.laid_loop_example_g00956_impl_errExists), ("loop.example/g00956/impl.errFull", Rows.laid_loop_example_g00956_impl_errFull), ("loop.example/g00956/impl.errState", Rows.laid_loop_example_g00956_impl_errState)] [.data, .sentinel, .sentinel, .sentinel, .sentinel, .sentinel] true :=
  Program.laidByTextLater_by_one 119 8 41 (by kernel_rfl) (by kernel_rfl) (by kernel_rfl) (by kernel_rfl) (by kernel_rfl) (by kernel_rfl) (fun _ _ => by kernel_rfl)
theorem noOwnUnsafe : Tryd.pinned.checked.prog.headLifts.contains "ownunsafe" = false := by kernel_rfl
theorem tie : Tryd.prog.laidByTextLater [("loop.example/g00956/impl.speciesTable", Rows.laid_loop_example_g00956_impl_speciesTable), ("loop.example/g00956/impl.errRange", Rows.laid_loop_example_g00956_impl_errRange), ("loop.example/g00956/impl.errNotFound", Rows.laid_loop_example_g00956_impl_errNotFound), ("loop.example/g00956/impl.errExists", Rows.laid_loop_example_g00956_impl_errExists), ("loop.example/g00956/impl.errFull", Rows.laid_loop_example_g00956_impl_errFull), ("loop.example/g00956/impl.errState", Rows.laid_loop_example_g00956_impl_errState)] [.data, .sentinel, .sentinel, .sentinel, .sentinel, .sentinel] true :=
  Program.laidByTextLater.sub seatTie1 ["loop.example/g00956/impl.speciesTable", "loop.example/g00956/impl.errRange", "loop.example/g00956/impl.errNotFound", "loop.example/g00956/impl.errExists", "loop.example/g00956/impl.errFull", "loop.example/g00956/impl.errState"] (by kernel_rfl) (by kernel_rfl)
theorem fnExactTrimLeaf_row_tie : Rows.fnExactTrimLeafRow.laidByTextAt .later Tryd.pinned [.data, .sentinel, .sentinel, .sentinel, .sentinel, .sentinel] true :=
  OpenClaim.laidByTextAt_later rfl rfl tie noOwnUnsafe
theorem fnExactBestMatch_row_tie : Rows.fnExactBestMatchRow.laidByTextAt .later Tryd.pinned [.data, .sentinel, .sentinel, .sentinel, .sentinel, .sentinel] true :=
  OpenClaim.laidByTextAt_later rfl rfl tie noOwnUnsafe
theorem fnExactLongestRun_row_tie : Rows.fnExactLongestRunRow.laidByTextAt .later Tryd.pinned [.data, .sentinel, .sentinel, .sentinel, .sentinel, .sentinel] true :=
  OpenClaim.laidByTextAt_later rfl rfl tie noOwnUnsafe
theorem fnExactMissingNumbers_row_tie : Rows.fnExactMissingNumbersRow.laidByTextAt .later Tryd.pinned [.data, .sentinel, .sentinel, .sentinel, .sentinel, .sentinel] true :=
  OpenClaim.laidByTextAt_later rfl rfl tie noOwnUnsafe
theorem fnExactBookPairs_row_tie : Rows.fnExactBookPairsRow.laidByTextAt .later Tryd.pinned [.data, .sentinel, .sentinel, .sentinel, .sentinel, .sentinel] true :=
  OpenClaim.laidByTextAt_later rfl rfl tie noOwnUnsafe
theorem tie2 : Tryd.prog.laidByTextLater [("loop.example/g00956/impl.speciesTable", Rows.laid_loop_example_g00956_impl_speciesTable)] [.data] true :=
  Program.laidByTextLater.sub seatTie1 ["loop.example/g00956/impl.speciesTable"] (by kernel_rfl) (by kernel_rfl)
theorem fnExactMirrorLeaf_row_tie : Rows.fnExactMirrorLeafRow.laidByTextAt .later Tryd.pinned [.data] true :=
  OpenClaim.laidByTextAt_later rfl rfl tie2 noOwnUnsafe
theorem fnExactMatchScore_row_tie : Rows.fnExactMatchScoreRow.laidByTextAt .later Tryd.pinned [.data] true :=
  OpenClaim.laidByTextAt_later rfl rfl tie2 noOwnUnsafe
theorem fnExactIsSequence_row_tie : Rows.fnExactIsSequenceRow.laidByTextAt .later Tryd.pinned [.data] true :=
  OpenClaim.laidByTextAt_later rfl rfl tie2 noOwnUnsafe
theorem fnExactTrimLeafUpto_row_tie : Rows.fnExactTrimLeafUptoRow.laidByTextAt .later Tryd.pinned [.data, .sentinel, .sentinel, .sentinel, .sentinel, .sentinel] true :=
  OpenClaim.laidByTextAt_later rfl rfl tie noOwnUnsafe
theorem fnExactMirrorLeafUpto_row_tie : Rows.fnExactMirrorLeafUptoRow.laidByTextAt .later Tryd.pinned [.data] true :=
  OpenClaim.laidByTextAt_later rfl rfl tie2 noOwnUnsafe
theorem fnExactMatchScoreUpto_row_tie : Rows.fnExactMatchScoreUptoRow.laidByTextAt .later Tryd.pinned [.data] true :=
  OpenClaim.laidByTextAt_later rfl rfl tie2 noOwnUnsafe
theorem fnExactBestMatchUpto_row_tie : Rows.fnExactBestMatchUptoRow.laidByTextAt .later Tryd.pinned [.data, .sentinel, .sentinel, .sentinel, .sentinel, .sentinel] true :=
  OpenClaim.laidByTextAt_later rfl rfl tie noOwnUnsafe
theorem fnExactIsSequenceUpto_row_tie : Rows.fnExactIsSequenceUptoRow.laidByTextAt .later Tryd.pinned [.data] true :=
  OpenClaim.laidByTextAt_later rfl rfl tie2 noOwnUnsafe
theorem fnExactLongestRunUpto_row_tie : Rows.fnExactLongestRunUptoRow.laidByTextAt .later Tryd.pinned [.data, .sentinel, .sentinel, .sentinel, .sentinel, .sentinel] true :=
  OpenClaim.laidByTextAt_later rfl rfl tie noOwnUnsafe
theorem fnExactMissingNumbersUpto_row_tie : Rows.fnExactMissingNumbersUptoRow.laidByTextAt .later Tryd.pinned [.data, .sentinel, .sentinel, .sentinel, .sentinel, .sentinel] true :=
  OpenClaim.laidByTextAt_later rfl rfl tie noOwnUnsafe
theorem fnExactBookPairsUpto_row_tie : Rows.fnExactBookPairsUptoRow.laidByTextAt .later Tryd.pinned [.data, .sentinel, .sentinel, .sentinel, .sentinel, .sentinel] true :=
  OpenClaim.laidByTextAt_later rfl rfl tie noOwnUnsafe
end Go.Proofs.YtcjpplijbdfgbaaDoor
