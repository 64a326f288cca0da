/- Slices of the struct Placement in laws: what came in, sizes, copies, equality. -/
import Derived.Test.YtmfchcaidfloaaaDoorTyPlacement
import Derived.Test.YtmfchcaidfloaaaDoorK5
import Derived.Test.YtmfchcaidfloaaaDoorLft
import Derived.Lib.SmallJoins
import Derived.ChangeMaps5
namespace Go.Proofs.YtmfchcaidfloaaaDoor
open Seq2 Go.ChangeShapes Go.WideShapes Go.ChangeAt Go.RowKit Go.ChangeMaps Go.Joins Go.Deep
set_option linter.unusedVariables false
set_option linter.unusedSimpArgs false

/-- A slice that came in. -/
def PmL (w : World) (ao : Option Addr) (n : Nat) (zs : List Pm) : Prop := n = zs.length ∧ (n = 0 ∨ ∃ b off, ao = some ⟨b, off, none⟩ ∧ ∀ j, j < n → PmAt w b (off + j * 5) (zs.getD j pm0))
theorem PmL.below {w w' : World} {ao : Option Addr} {n : Nat} {zs : List Pm} (h : PmL w ao n zs) (hb : Below w.heap.size w w') : PmL w' ao n zs :=
  ⟨h.1, h.2.imp id fun ⟨b, off, e, h1⟩ => ⟨b, off, e, fun j hj => (h1 j hj).below hb⟩⟩
theorem cPm : Tryd.prog.cellsOf 23 = 5 := by kernel_rfl
theorem cBPm : Tryd.prog.cellsOf 9 = 1 := by kernel_rfl
theorem cIPm : Tryd.prog.cellsOf 2 = 1 := by kernel_rfl
set_option maxRecDepth 100000 in
theorem Pm_cells {H : Type} {enc : TypeId × Value → H} {W : World} {base : Nat} {sp : Nat → Bool} {fuel : Nat} {cs : List Value} {x : DataW H × List MemPlace} (h : DataW.trod enc Tryd.prog W base sp true fuel 23 cs = some x) :
    ∃ z : Pm, cs = [.int .i64 z.1, .int .i64 z.2.1, .int .i64 z.2.2.1, .int .i64 z.2.2.2.1, .int .i64 z.2.2.2.2] := by
  obtain ⟨xs, m, _, hx, hl, hlen, hf⟩ := DataW.trod_struct Tryd.underlying23 h
  rw [cPm] at hl
  match cs, hl with
  | [c0, c1, c2, c3, c4], _ =>
    match xs, hlen with
    | [y0, y1, y2, y3, y4], _ =>
      have h0 := hf 0 _ rfl
      have h1 := hf 1 _ rfl
      have h2 := hf 2 _ rfl
      have h3 := hf 3 _ rfl
      have h4 := hf 4 _ rfl
      change DataW.trod enc Tryd.prog W base sp true m 2 (([c0, c1, c2, c3, c4].drop 0).take (Tryd.prog.cellsOf 2)) = some y0 at h0
      change DataW.trod enc Tryd.prog W base sp true m 2 (([c0, c1, c2, c3, c4].drop 1).take (Tryd.prog.cellsOf 2)) = some y1 at h1
      change DataW.trod enc Tryd.prog W base sp true m 2 (([c0, c1, c2, c3, c4].drop 2).take (Tryd.prog.cellsOf 2)) = some y2 at h2
      change DataW.trod enc Tryd.prog W base sp true m 2 (([c0, c1, c2, c3, c4].drop 3).take (Tryd.prog.cellsOf 2)) = some y3 at h3
      change DataW.trod enc Tryd.prog W base sp true m 2 (([c0, c1, c2, c3, c4].drop 4).take (Tryd.prog.cellsOf 2)) = some y4 at h4
      rw [cIPm] at h0 h1 h2 h3 h4
      obtain ⟨x0, e0, _, _⟩ := DataW.trod_int Tryd.underlying2 h0
      obtain ⟨x1, e1, _, _⟩ := DataW.trod_int Tryd.underlying2 h1
      obtain ⟨x2, e2, _, _⟩ := DataW.trod_int Tryd.underlying2 h2
      obtain ⟨x3, e3, _, _⟩ := DataW.trod_int Tryd.underlying2 h3
      obtain ⟨x4, e4, _, _⟩ := DataW.trod_int Tryd.underlying2 h4
      simp at e0 e1 e2 e3 e4
      subst e0 e1 e2 e3 e4
      exact ⟨(x0, x1, x2, x3, x4), rfl⟩
def PmSz (zs : List Pm) : Nat := zs.length
theorem toPm_any (x0 : Int) (x1 : Int) (x2 : Int) (x3 : Int) (x4 : Int) (w : World) : Calls Tryd.prog 8 #[.agg #[.int .i64 x0, .int .i64 x1, .int .i64 x2, .int .i64 x3, .int .i64 x4]] w fun e w' => e = .returned (.agg #[.int .i64 x0, .int .i64 x1, .int .i64 x2, .int .i64 x3, .int .i64 x4]) ∧ Below w.heap.size w w' := by
  go_enter Tryd.func8, Tryd.ntmps8
  go_wp2
  refine bodyPost_ret (v := .agg #[.int .i64 x0, .int .i64 x1, .int .i64 x2, .int .i64 x3, .int .i64 x4]) (by simp [results, Tryd.results8, go_sem]) rfl ⟨rfl, ?_⟩
  have HB0 := Below.refl w.heap.size w
  (repeat (first | exact HB0 | refine Below.setCell ?_ (by first | exact Nat.le_refl _ | (dsimp only; omega) | (simp; done) | (simp; omega)) _ | refine Below.alloc ?_ (by first | exact Nat.le_refl _ | omega | (simp; done) | (simp; omega)) _))
theorem infoPm : (Tryd.prog.info? 25).map (fun i => (i.zero, i.size, i.bytes)) = some (some (.agg #[.int .i64 0, .int .i64 0, .int .i64 0, .int .i64 0, .int .i64 0]), 5, 40) := by kernel_rfl
/-- The cells of one; of a row of which the first k are laid. -/
def PmC (z : Pm) (i : Nat) : Value := if i = 0 then .int .i64 z.1 else if i = 1 then .int .i64 z.2.1 else if i = 2 then .int .i64 z.2.2.1 else if i = 3 then .int .i64 z.2.2.2.1 else .int .i64 z.2.2.2.2
def PmZ (i : Nat) : Value := if i = 0 then .int .i64 0 else if i = 1 then .int .i64 0 else if i = 2 then .int .i64 0 else if i = 3 then .int .i64 0 else .int .i64 0
def PmF (zs : List Pm) (k j : Nat) : Value := if j < k * 5 then PmC (zs.getD (j / 5) pm0) (j % 5) else PmZ (j % 5)
theorem madePm (w : World) (n : Nat) (zs : List Pm) (t : TypeId) : (w.alloc (.cells (madeCells #[.int .i64 0, .int .i64 0, .int .i64 0, .int .i64 0, .int .i64 0] (n * 5)) t)).rowIs w.heap.size t (n * 5) (PmF zs 0) := by
  have h := World.rowIs_alloc w (madeCells #[.int .i64 0, .int .i64 0, .int .i64 0, .int .i64 0, .int .i64 0] (n * 5)) t (PmF zs 0) (fun i hi => by
    rw [size_madeCells] at hi
    have h2 : i % 5 = 0 ∨ i % 5 = 1 ∨ i % 5 = 2 ∨ i % 5 = 3 ∨ i % 5 = 4 := by omega
    rcases h2 with h2 | h2 | h2 | h2 | h2 <;> simp [madeCells, hi, PmF, PmZ, h2])
  rw [size_madeCells] at h
  exact h
theorem PmF_step {zs : List Pm} {k : Nat} {x0 : Int} {x1 : Int} {x2 : Int} {x3 : Int} {x4 : Int} (h : zs.getD k pm0 = (x0, x1, x2, x3, x4)) (j : Nat) : (if j = k * 5 + 4 then Value.int .i64 x4 else if j = k * 5 + 3 then Value.int .i64 x3 else if j = k * 5 + 2 then Value.int .i64 x2 else if j = k * 5 + 1 then Value.int .i64 x1 else if j = k * 5 then Value.int .i64 x0 else PmF zs k j) = PmF zs (k + 1) j := by
  unfold PmF
  by_cases h4_ : j = k * 5 + 4
  · subst h4_
    have a1 : (k * 5 + 4) / 5 = k := by omega
    have a2 : (k * 5 + 4) % 5 = 4 := by omega
    rw [if_pos rfl, if_pos (by omega), a1, a2, h]; rfl
  rw [if_neg h4_]
  by_cases h3_ : j = k * 5 + 3
  · subst h3_
    have a1 : (k * 5 + 3) / 5 = k := by omega
    have a2 : (k * 5 + 3) % 5 = 3 := by omega
    rw [if_pos rfl, if_pos (by omega), a1, a2, h]; rfl
  rw [if_neg h3_]
  by_cases h2_ : j = k * 5 + 2
  · subst h2_
    have a1 : (k * 5 + 2) / 5 = k := by omega
    have a2 : (k * 5 + 2) % 5 = 2 := by omega
    rw [if_pos rfl, if_pos (by omega), a1, a2, h]; rfl
  rw [if_neg h2_]
  by_cases h1_ : j = k * 5 + 1
  · subst h1_
    have a1 : (k * 5 + 1) / 5 = k := by omega
    have a2 : (k * 5 + 1) % 5 = 1 := by omega
    rw [if_pos rfl, if_pos (by omega), a1, a2, h]; rfl
  rw [if_neg h1_]
  by_cases h0_ : j = k * 5
  · subst h0_
    have a1 : (k * 5) / 5 = k := by omega
    have a2 : (k * 5) % 5 = 0 := by omega
    rw [if_pos rfl, if_pos (by omega), a1, a2, h]; rfl
  rw [if_neg h0_]
  by_cases h3 : j < k * 5
  · rw [if_pos h3, if_pos (show j < (k + 1) * 5 by omega)]
  · rw [if_neg h3, if_neg (show ¬ j < (k + 1) * 5 by omega)]
theorem Pm_row {w : World} {b n : Nat} {t : TypeId} {zs : List Pm} (hz : n = zs.length) (h : w.rowIs b t (n * 5) (PmF zs n)) : PmV w (some ⟨b, 0, none⟩) n zs := by
  refine ⟨hz, Or.inr ⟨b, rfl, fun j hj => ⟨h.lt, ?_, ?_, ?_, ?_, ?_⟩⟩⟩
  · have h1 := h.cell (i := j * 5) (by omega)
    have a1 : (j * 5) / 5 = j := by omega
    have a2 : (j * 5) % 5 = 0 := by omega
    rw [PmF, if_pos (by omega), a1, a2] at h1
    simpa [PmC] using h1
  · have h1 := h.cell (i := j * 5 + 1) (by omega)
    have a1 : (j * 5 + 1) / 5 = j := by omega
    have a2 : (j * 5 + 1) % 5 = 1 := by omega
    rw [PmF, if_pos (by omega), a1, a2] at h1
    simpa [PmC] using h1
  · have h1 := h.cell (i := j * 5 + 2) (by omega)
    have a1 : (j * 5 + 2) / 5 = j := by omega
    have a2 : (j * 5 + 2) % 5 = 2 := by omega
    rw [PmF, if_pos (by omega), a1, a2] at h1
    simpa [PmC] using h1
  · have h1 := h.cell (i := j * 5 + 3) (by omega)
    have a1 : (j * 5 + 3) / 5 = j := by omega
    have a2 : (j * 5 + 3) % 5 = 3 := by omega
    rw [PmF, if_pos (by omega), a1, a2] at h1
    simpa [PmC] using h1
  · have h1 := h.cell (i := j * 5 + 4) (by omega)
    have a1 : (j * 5 + 4) / 5 = j := by omega
    have a2 : (j * 5 + 4) % 5 = 4 := by omega
    rw [PmF, if_pos (by omega), a1, a2] at h1
    simpa [PmC] using h1
def PmPost (n : Nat) (zs : List Pm) (w : World) (e : Ending) (w' : World) : Prop := ∃ g, e = .returned (.slice (some ⟨g, 0, none⟩) n n) ∧ w.heap.size ≤ g ∧ w'.rowIs g 25 (n * 5) (PmF zs n) ∧ Below w.heap.size w w'
theorem eqPm_same (x0 : Int) (x1 : Int) (x2 : Int) (x3 : Int) (x4 : Int) (w : World) : Calls Tryd.prog 12 #[.agg #[.int .i64 x0, .int .i64 x1, .int .i64 x2, .int .i64 x3, .int .i64 x4], .agg #[.int .i64 x0, .int .i64 x1, .int .i64 x2, .int .i64 x3, .int .i64 x4]] w fun e w' => e = .returned (.bool true) ∧ Below w.heap.size w w' := by
  go_enter Tryd.func12, Tryd.ntmps12
  go_wp2
  go_ret
  exact ⟨rfl, two_allocs _ _⟩
end Go.Proofs.YtmfchcaidfloaaaDoor
