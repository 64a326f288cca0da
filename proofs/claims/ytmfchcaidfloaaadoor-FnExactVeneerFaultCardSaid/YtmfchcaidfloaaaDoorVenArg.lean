/- Veneers among the arguments of a law: what they are, sizes, copies. -/
import Derived.Test.YtmfchcaidfloaaaDoorVen1
import Derived.Test.YtmfchcaidfloaaaDoorLft
import Derived.Test.YtmfchcaidfloaaaDoorK5
import Derived.Lib.SmallJoins
import Derived.ChangeMaps5
namespace Go.Proofs.YtmfchcaidfloaaaDoor
open Seq2 Go.ChangeShapes Go.WideShapes Go.ChangeAt Go.RowKit Go.ChangeMaps
set_option linter.unusedVariables false
set_option linter.unusedSimpArgs false

theorem cLV : Tryd.prog.cellsOf 33 = 3 := by kernel_rfl
theorem cS1 : Tryd.prog.cellsOf 9 = 1 := by kernel_rfl
theorem cI1 : Tryd.prog.cellsOf 2 = 1 := by kernel_rfl
set_option maxRecDepth 100000 in
theorem open_ven {H : Type} {enc : TypeId × Value → H} {W : World} {base : Nat} {v : Value} {d : DataW H} {p : List MemPlace} (hval : Value.okWide Tryd.prog W .any base 33 v)
    (h : DataW.Trod enc Tryd.prog W 0 (fun _ => true) true 33 v d p) : ∃ (s : ByteArray) (a b : Int), v = .agg #[.string s, .int .i64 a, .int .i64 b] ∧ s.size ≤ maxLen ∧ (Lit.int .i64 a).wf = true ∧ (Lit.int .i64 b).wf = true := by
  obtain ⟨cs, rfl, hcs⟩ := okWide_struct Tryd.underlying33 hval
  obtain ⟨fuel, hf0⟩ := h
  obtain ⟨xs, m, _, hx, hl, hlen, hf⟩ := DataW.trod_struct Tryd.underlying33 hf0
  rw [cLV] at hcs
  obtain ⟨l, rfl⟩ : ∃ l : List Value, cs = l.toArray := ⟨cs.toList, by simp⟩
  match l, hcs with
  | [c0, c1, c2], _ =>
    match xs, hlen with
    | [y0, y1, y2], _ =>
      have h0 := hf 0 _ rfl
      have h1 := hf 1 _ rfl
      have h2 := hf 2 _ rfl
      change DataW.trod enc Tryd.prog W 0 (fun _ => true) true m 9 (([c0, c1, c2].drop 0).take (Tryd.prog.cellsOf 9)) = some y0 at h0
      change DataW.trod enc Tryd.prog W 0 (fun _ => true) true m 2 (([c0, c1, c2].drop 1).take (Tryd.prog.cellsOf 2)) = some y1 at h1
      change DataW.trod enc Tryd.prog W 0 (fun _ => true) true m 2 (([c0, c1, c2].drop 2).take (Tryd.prog.cellsOf 2)) = some y2 at h2
      rw [cS1] at h0
      rw [cI1] at h1 h2
      obtain ⟨s, e0, _, ms⟩ := DataW.trod_string Tryd.underlying9 h0
      obtain ⟨a, e1, _, wa⟩ := DataW.trod_int Tryd.underlying2 h1
      obtain ⟨b, e2, _, wb⟩ := DataW.trod_int Tryd.underlying2 h2
      simp at e0 e1 e2
      subst e0 e1 e2
      exact ⟨s, a, b, rfl, ms, wa, wb⟩
theorem toVen_any (s : ByteArray) (a b : Int) (w : World) : Calls Tryd.prog 16 #[.agg #[.string s, .int .i64 a, .int .i64 b]] w fun e w' => e = .returned (.agg #[.string s, .int .i64 a, .int .i64 b]) ∧ Below w.heap.size w w' := by
  go_enter Tryd.func16, Tryd.ntmps16
  go_wp2
  refine bodyPost_ret (v := .agg #[.string s, .int .i64 a, .int .i64 b]) (by simp [results, Tryd.results16, go_sem]) rfl ⟨rfl, ?_⟩
  have HB0 := Below.refl w.heap.size w
  (repeat (first | exact HB0 | refine Below.setCell ?_ (by first | exact Nat.le_refl _ | (dsimp only; omega) | (simp; done) | (simp; omega)) _ | refine Below.alloc ?_ (by first | exact Nat.le_refl _ | omega | (simp; done) | (simp; omega)) _))
theorem szVen_ok (s : ByteArray) (a b l : Int) (w : World) (h0 : (s.size : Int) ≤ l) (h1 : l ≤ 1048576) : Calls Tryd.prog 13 #[.agg #[.string s, .int .i64 a, .int .i64 b], .int .i64 l] w fun e w' => e = .returned (.int .i64 ((l - (s.size : Int)))) ∧ Below w.heap.size w w' := by
  have e1 : IntKind.i64.wrap (l - (s.size : Int)) = l - (s.size : Int) := IntWalk.i64_in _ (by omega)
  have hd : decide (l - (s.size : Int) < 0) = false := by simp; omega
  go_enter Tryd.func13, Tryd.ntmps13
  go_wp2
  go_ret
  exact ⟨rfl, one_alloc _⟩
theorem szVen_no (s : ByteArray) (a b l : Int) (w : World) (hs : s.size ≤ 9223372036854775807) (h0 : l < (s.size : Int)) (h1 : 0 ≤ l) : Calls Tryd.prog 13 #[.agg #[.string s, .int .i64 a, .int .i64 b], .int .i64 l] w fun e w' => e = .returned (.int .i64 (-1)) ∧ Below w.heap.size w w' := by
  have e1 : IntKind.i64.wrap (l - (s.size : Int)) = l - (s.size : Int) := IntWalk.i64_in _ (by omega)
  have hd : decide (l - (s.size : Int) < 0) = true := by simp; omega
  go_enter Tryd.func13, Tryd.ntmps13
  go_wp2
  go_ret
  exact ⟨rfl, one_alloc _⟩
theorem szVen_any (s : ByteArray) (a b l : Int) (w : World) (h0 : 0 ≤ l) (h1 : l ≤ 1048576) (hs : s.size ≤ 9223372036854775807) : Calls Tryd.prog 13 #[.agg #[.string s, .int .i64 a, .int .i64 b], .int .i64 l] w fun e w' => e = .returned (.int .i64 (lft l s.size)) ∧ Below w.heap.size w w' := by
  by_cases h : (s.size : Int) ≤ l
  · rw [lft_ok h]; exact szVen_ok s a b l w h h1
  · rw [lft_no h]; exact szVen_no s a b l w hs (by omega) h0
theorem eqVen_same (s : ByteArray) (a b : Int) (w : World) : Calls Tryd.prog 46 #[.agg #[.string s, .int .i64 a, .int .i64 b], .agg #[.string s, .int .i64 a, .int .i64 b]] w fun e w' => e = .returned (.bool true) ∧ Below w.heap.size w w' := by
  go_enter Tryd.func46, Tryd.ntmps46
  go_wp2
  go_ret
  exact ⟨rfl, two_allocs _ _⟩
end Go.Proofs.YtmfchcaidfloaaaDoor
