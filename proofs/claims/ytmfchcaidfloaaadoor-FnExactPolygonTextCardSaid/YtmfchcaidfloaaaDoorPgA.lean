/- Slices of points as arguments of laws: sizes, at a world that only grows. -/
import Derived.Test.YtmfchcaidfloaaaDoorK11
import Derived.Test.YtmfchcaidfloaaaDoorK8
import Derived.Test.YtmfchcaidfloaaaDoorK5
namespace Go.Proofs.YtmfchcaidfloaaaDoor
open Seq2 Go.ChangeShapes Go.WideShapes Go.ChangeAt Go.RowKit
theorem szPtB_any (ao : Option Addr) (n c : Nat) (l : Int) (w : World) (h0 : 0 ≤ l) (hl : l ≤ 1048576) (hm : n ≤ 9223372036854775807) :
    Calls Tryd.prog 21 #[.slice ao n c, .int .i64 l] w fun e w' => e = .returned (.int .i64 (lft l n)) ∧ Below w.heap.size w w' :=
  (szPt_any ao n c l w h0 hl hm).mono fun e w' h => ⟨h.1, by rw [← h.2]; exact Below.refl _ _⟩
end Go.Proofs.YtmfchcaidfloaaaDoor
