/- Leaves of a species: mathematics, spec. -/
import Derived.Test.YtcjpplijbdfgbaaDoorK19
import Derived.Test.YtcjpplijbdfgbaaDoorVen1
import Derived.Test.YtcjpplijbdfgbaaDoorK8
import Derived.Test.YtcjpplijbdfgbaaDoorK15
import Derived.Test.YtcjpplijbdfgbaaDoorK11
namespace Go.Proofs.YtcjpplijbdfgbaaDoor
open Seq2 Go.ChangeShapes Go.WideShapes Go.ChangeAt Go.RowKit
set_option linter.unusedVariables false
set_option linter.unusedSimpArgs false

/-- The places ahead of k that meet p. -/
def plL (p : Nat → Bool) (k : Nat) : List Int := ((List.range k).filter p).map fun (j : Nat) => (j : Int)
theorem plL_yes {p : Nat → Bool} {k : Nat} (h : p k = true) : plL p (k + 1) = plL p k ++ [(k : Int)] := by
  simp [plL, List.range_succ, h]
theorem plL_no {p : Nat → Bool} {k : Nat} (h : p k = false) : plL p (k + 1) = plL p k := by
  simp [plL, List.range_succ, h]
theorem plL_len (p : Nat → Bool) (k : Nat) : (plL p k).length ≤ k := by
  simp only [plL, List.length_map]
  exact Nat.le_trans (List.length_filter_le _ _) (by simp)
/-- A slice of integers of the call's own. -/
def OwnI (w : World) (base : Nat) (v : Value) (L : List Int) : Prop := w.ownsRow base 2 1 v L.length (flatI L)
theorem OwnI.app {w : World} {base n : Nat} {v : Value} {L : List Int} {x : Int} (hn : n = L.length) (ho : w.ownsRow base 2 1 v (n + 1) (flatI L ++ [.int .i64 x])) : OwnI w base v (L ++ [x]) := by
  subst hn
  unfold OwnI flatI at *
  simpa using ho
theorem OwnI.below {w w' : World} {base : Nat} {v : Value} {L : List Int} (h : OwnI w base v L) (hb : Below w.heap.size w w') : OwnI w' base v L := own_below h hb
def eqS (a b : ByteArray) : Bool := a.toList == b.toList
def speP (zs : List Lf) (sp : ByteArray) (j : Nat) : Bool := eqS (zs.getD j lf0).ve.1 sp
def lvR (zs : List Lf) (sp : ByteArray) : List Int × Int := if lfsB zs then (if ixN sp < 10 then (plL (speP zs sp) zs.length, 0) else ([], 3)) else ([], 1)
theorem lvR_len (zs : List Lf) (sp : ByteArray) : (lvR zs sp).1.length ≤ 1000 := by
  unfold lvR
  cases h : lfsB zs with
  | false => simp
  | true =>
    have := (lfsB_ok h).1
    have := plL_len (speP zs sp) zs.length
    rw [if_pos rfl]
    split
    · simp only; omega
    · simp
end Go.Proofs.YtcjpplijbdfgbaaDoor
