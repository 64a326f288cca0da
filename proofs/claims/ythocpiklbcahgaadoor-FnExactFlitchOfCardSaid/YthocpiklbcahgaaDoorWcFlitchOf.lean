/- withCode at a closure of impl (FlitchOf$1). -/
import Derived.Test.YthocpiklbcahgaaDoorK18
import Derived.Test.YthocpiklbcahgaaDoorSeq3
namespace Go.Proofs.YthocpiklbcahgaaDoor
open Seq2 Go.ChangeShapes Go.WideShapes Go.ChangeAt Go.RowKit
set_option linter.unusedVariables false
set_option linter.unusedSimpArgs false

set_option maxRecDepth 100000 in
set_option maxHeartbeats 1000000 in
theorem wc_FlitchOf_1_no (fv : Value) (w : World) : Calls Tryd.prog 40 #[.bool false, fv] w fun e w' => e = .returned (.tuple #[.slice none 0 0, .int .i64 1]) ∧ w = w' := by
  go_enter Tryd.func40, Tryd.ntmps40
  go_wp2
  go_ret2
  exact ⟨rfl, rfl⟩
set_option maxRecDepth 100000 in
set_option maxHeartbeats 1000000 in
theorem wc_FlitchOf_1_ok (k0 k1 : Value) (Q : Value → World → Prop) (w : World) (h : Calls Tryd.prog 47 #[k0, k1] w fun e w' => ∃ x, e = .returned (.tuple #[x, .nilIface]) ∧ Q x w' ∧ Below w.heap.size w w') :
    Calls Tryd.prog 40 #[.bool true, .func (.func 47) #[] #[k0, k1]] w fun e w' => ∃ x, e = .returned (.tuple #[x, .int .i64 0]) ∧ Q x w' ∧ Below w.heap.size w w' := by
  have H := Lib.hid h
  clear h
  go_enter Tryd.func40, Tryd.ntmps40
  go_wp2_with fail
  refine (H.out).mono ?_
  rintro e w1 ⟨x, rfl, hq, g1⟩
  have HG := Lib.hid g1
  have HQ := Lib.hid hq
  clear g1 hq
  go_wp2
  go_ret2
  exact ⟨x, rfl, HQ.out, HG.out⟩
set_option maxRecDepth 100000 in
set_option maxHeartbeats 1000000 in
theorem wc_FlitchOf_1_err (k0 k1 x : Value) (k : Int) (a : Addr) (w : World) (h : Calls Tryd.prog 47 #[k0, k1] w fun e w' => e = .returned (.tuple #[x, esV a]) ∧ Below w.heap.size w w')
    (hc : ∀ w', Below w.heap.size w w' → Calls Tryd.prog 83 #[esV a] w' fun e w'' => e = .returned (.int .i64 k) ∧ w' = w'') :
    Calls Tryd.prog 40 #[.bool true, .func (.func 47) #[] #[k0, k1]] w fun e w' => e = .returned (.tuple #[.slice none 0 0, .int .i64 k]) ∧ Below w.heap.size w w' := by
  have H := Lib.hid h
  have HC := Lib.hid hc
  clear h hc
  unfold esV at H HC
  go_enter Tryd.func40, Tryd.ntmps40
  go_wp2_with fail
  refine (H.out).mono ?_
  rintro e w1 ⟨rfl, g1⟩
  have HG := Lib.hid g1
  clear g1
  go_wp2_with fail
  refine (HC.out _ HG.out).mono ?_
  rintro e w2 ⟨rfl, rfl⟩
  go_wp2
  go_ret2
  exact ⟨rfl, HG.out⟩
end Go.Proofs.YthocpiklbcahgaaDoor
