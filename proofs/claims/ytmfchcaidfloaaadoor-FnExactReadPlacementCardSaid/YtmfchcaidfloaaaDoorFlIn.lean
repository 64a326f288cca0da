/- Flat structs of numbers that came in: Rules, Placement. -/
import Derived.Test.YtmfchcaidfloaaaDoorFlRules
import Derived.Test.YtmfchcaidfloaaaDoorFlPlacement
namespace Go.Proofs.YtmfchcaidfloaaaDoor
open Seq2 Go.ChangeShapes Go.WideShapes Go.ChangeAt Go.RowKit
set_option linter.unusedVariables false
set_option linter.unusedSimpArgs false

set_option maxRecDepth 100000 in
/-- One that came in. -/
theorem open_Ru {H : Type} {enc : TypeId × Value → H} {W : World} {base : Nat} {v : Value} {d : DataW H} {p : List MemPlace} (hval : Value.okWide Tryd.prog W .any base 38 v)
    (h : DataW.Trod enc Tryd.prog W 0 (fun _ => true) true 38 v d p) : ∃ x y a b : Int, v = .agg #[.int .i64 x, .int .i64 y, .int .i64 a, .int .i64 b] := by
  obtain ⟨cs, rfl, hcs⟩ := okWide_struct Tryd.underlying38 hval
  obtain ⟨fuel, hf0⟩ := h
  obtain ⟨l, rfl⟩ : ∃ l : List Value, cs = l.toArray := ⟨cs.toList, by simp⟩
  obtain ⟨z, e⟩ := Ru_cells hf0
  have e' : l = [.int .i64 z.1, .int .i64 z.2.1, .int .i64 z.2.2.1, .int .i64 z.2.2.2] := by simpa [Value.cells] using e
  subst e'
  exact ⟨_, _, _, _, rfl⟩
set_option maxRecDepth 100000 in
/-- One that came in. -/
theorem open_Pm {H : Type} {enc : TypeId × Value → H} {W : World} {base : Nat} {v : Value} {d : DataW H} {p : List MemPlace} (hval : Value.okWide Tryd.prog W .any base 23 v)
    (h : DataW.Trod enc Tryd.prog W 0 (fun _ => true) true 23 v d p) : ∃ x y a b c : Int, v = .agg #[.int .i64 x, .int .i64 y, .int .i64 a, .int .i64 b, .int .i64 c] := by
  obtain ⟨cs, rfl, hcs⟩ := okWide_struct Tryd.underlying23 hval
  obtain ⟨fuel, hf0⟩ := h
  obtain ⟨l, rfl⟩ : ∃ l : List Value, cs = l.toArray := ⟨cs.toList, by simp⟩
  obtain ⟨z, e⟩ := Pm_cells hf0
  have e' : l = [.int .i64 z.1, .int .i64 z.2.1, .int .i64 z.2.2.1, .int .i64 z.2.2.2.1, .int .i64 z.2.2.2.2] := by simpa [Value.cells] using e
  subst e'
  exact ⟨_, _, _, _, _, rfl⟩
end Go.Proofs.YtmfchcaidfloaaaDoor
