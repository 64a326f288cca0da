/- withCode at a closure of impl (FlitchOf$1). -/
import Derived.Test.YtcjpplijbdfgbaaDoorK18
import Derived.Test.YtcjpplijbdfgbaaDoorSeq3
namespace Go.Proofs.YtcjpplijbdfgbaaDoor
open Seq2 Go.ChangeShapes Go.WideShapes Go.ChangeAt Go.RowKit
set_option linter.unusedVariables false
set_option linter.unusedSimpArgs false

set_option maxRecDepth 100000 in
set_option maxHeartbeats 1000000 in
theorem wc_FlitchOf_1_no (fv : Value) (w : World) : Calls Tryd.prog 75 #[.bool false, fv] w fun e w' => e = .returned (.tuple #[.slice none 0 0, .int .i64 1]) ∧ w = w' := by
  go_enter Tryd.func75, Tryd.ntmps75
  go_wp2
  go_ret2
  exact ⟨rfl, rfl⟩
end Go.Proofs.YtcjpplijbdfgbaaDoor
