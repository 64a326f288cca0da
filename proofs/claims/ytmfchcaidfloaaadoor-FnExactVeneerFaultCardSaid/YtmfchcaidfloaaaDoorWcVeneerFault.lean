/- withCode at a closure of impl (VeneerFault$1). -/
import Derived.Test.YtmfchcaidfloaaaDoorK18
import Derived.Test.YtmfchcaidfloaaaDoorSeq3
namespace Go.Proofs.YtmfchcaidfloaaaDoor
open Seq2 Go.ChangeShapes Go.WideShapes Go.ChangeAt Go.RowKit
set_option linter.unusedVariables false
set_option linter.unusedSimpArgs false

set_option maxRecDepth 100000 in
set_option maxHeartbeats 1000000 in
theorem wc_VeneerFault_1_no (fv : Value) (w : World) : Calls Tryd.prog 39 #[.bool false, fv] w fun e w' => e = .returned (.tuple #[.int .i64 0, .int .i64 1]) ∧ w = w' := by
  go_enter Tryd.func39, Tryd.ntmps39
  go_wp2
  go_ret2
  exact ⟨rfl, rfl⟩
set_option maxRecDepth 100000 in
set_option maxHeartbeats 1000000 in
theorem wc_VeneerFault_1_ok (k0 k1 k2 k3 x : Value) (w : World) (h : Calls Tryd.prog 43 #[k0, k1, k2, k3] w fun e w' => e = .returned (.tuple #[x, .nilIface]) ∧ Below w.heap.size w w') :
    Calls Tryd.prog 39 #[.bool true, .func (.func 43) #[] #[k0, k1, k2, k3]] w fun e w' => e = .returned (.tuple #[x, .int .i64 0]) ∧ Below w.heap.size w w' := by
  have H := Lib.hid h
  clear h
  go_enter Tryd.func39, Tryd.ntmps39
  go_wp2_with fail
  refine (H.out).mono ?_
  rintro e w1 ⟨rfl, g1⟩
  have HG := Lib.hid g1
  clear g1
  go_wp2
  go_ret2
  exact ⟨rfl, HG.out⟩
set_option maxRecDepth 100000 in
set_option maxHeartbeats 1000000 in
theorem wc_VeneerFault_1_err (k0 k1 k2 k3 x : Value) (k : Int) (a : Addr) (w : World) (h : Calls Tryd.prog 43 #[k0, k1, k2, k3] w fun e w' => e = .returned (.tuple #[x, esV a]) ∧ Below w.heap.size w w')
    (hc : ∀ w', Below w.heap.size w w' → Calls Tryd.prog 73 #[esV a] w' fun e w'' => e = .returned (.int .i64 k) ∧ w' = w'') :
    Calls Tryd.prog 39 #[.bool true, .func (.func 43) #[] #[k0, k1, k2, k3]] w fun e w' => e = .returned (.tuple #[.int .i64 0, .int .i64 k]) ∧ Below w.heap.size w w' := by
  have H := Lib.hid h
  have HC := Lib.hid hc
  clear h hc
  unfold esV at H HC
  go_enter Tryd.func39, Tryd.ntmps39
  go_wp2_with fail
  refine (H.out).mono ?_
  rintro e w1 ⟨rfl, g1⟩
  have HG := Lib.hid g1
  clear g1
  go_wp2_with fail
  refine (HC.out _ HG.out).mono ?_
  rintro e w2 ⟨rfl, rfl⟩
  go_wp2
  go_ret2
  exact ⟨rfl, HG.out⟩
end Go.Proofs.YtmfchcaidfloaaaDoor
