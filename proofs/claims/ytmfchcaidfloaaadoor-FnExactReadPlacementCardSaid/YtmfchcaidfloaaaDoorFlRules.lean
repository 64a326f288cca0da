/- Slices of the struct Rules in laws: what came in, sizes, copies, equality. -/
import Derived.Test.YtmfchcaidfloaaaDoorTyRules
import Derived.Test.YtmfchcaidfloaaaDoorK5
import Derived.Test.YtmfchcaidfloaaaDoorLft
import Derived.Lib.SmallJoins
import Derived.ChangeMaps5
namespace Go.Proofs.YtmfchcaidfloaaaDoor
open Seq2 Go.ChangeShapes Go.WideShapes Go.ChangeAt Go.RowKit Go.ChangeMaps Go.Joins Go.Deep
set_option linter.unusedVariables false
set_option linter.unusedSimpArgs false

/-- A slice that came in. -/
def RuL (w : World) (ao : Option Addr) (n : Nat) (zs : List Ru) : Prop := n = zs.length ∧ (n = 0 ∨ ∃ b off, ao = some ⟨b, off, none⟩ ∧ ∀ j, j < n → RuAt w b (off + j * 4) (zs.getD j ru0))
theorem RuL.below {w w' : World} {ao : Option Addr} {n : Nat} {zs : List Ru} (h : RuL w ao n zs) (hb : Below w.heap.size w w') : RuL w' ao n zs :=
  ⟨h.1, h.2.imp id fun ⟨b, off, e, h1⟩ => ⟨b, off, e, fun j hj => (h1 j hj).below hb⟩⟩
theorem cRu : Tryd.prog.cellsOf 38 = 4 := by kernel_rfl
theorem cBRu : Tryd.prog.cellsOf 9 = 1 := by kernel_rfl
theorem cIRu : Tryd.prog.cellsOf 2 = 1 := by kernel_rfl
set_option maxRecDepth 100000 in
theorem Ru_cells {H : Type} {enc : TypeId × Value → H} {W : World} {base : Nat} {sp : Nat → Bool} {fuel : Nat} {cs : List Value} {x : DataW H × List MemPlace} (h : DataW.trod enc Tryd.prog W base sp true fuel 38 cs = some x) :
    ∃ z : Ru, cs = [.int .i64 z.1, .int .i64 z.2.1, .int .i64 z.2.2.1, .int .i64 z.2.2.2] := by
  obtain ⟨xs, m, _, hx, hl, hlen, hf⟩ := DataW.trod_struct Tryd.underlying38 h
  rw [cRu] at hl
  match cs, hl with
  | [c0, c1, c2, c3], _ =>
    match xs, hlen with
    | [y0, y1, y2, y3], _ =>
      have h0 := hf 0 _ rfl
      have h1 := hf 1 _ rfl
      have h2 := hf 2 _ rfl
      have h3 := hf 3 _ rfl
      change DataW.trod enc Tryd.prog W base sp true m 2 (([c0, c1, c2, c3].drop 0).take (Tryd.prog.cellsOf 2)) = some y0 at h0
      change DataW.trod enc Tryd.prog W base sp true m 2 (([c0, c1, c2, c3].drop 1).take (Tryd.prog.cellsOf 2)) = some y1 at h1
      change DataW.trod enc Tryd.prog W base sp true m 2 (([c0, c1, c2, c3].drop 2).take (Tryd.prog.cellsOf 2)) = some y2 at h2
      change DataW.trod enc Tryd.prog W base sp true m 2 (([c0, c1, c2, c3].drop 3).take (Tryd.prog.cellsOf 2)) = some y3 at h3
      rw [cIRu] at h0 h1 h2 h3
      obtain ⟨x0, e0, _, _⟩ := DataW.trod_int Tryd.underlying2 h0
      obtain ⟨x1, e1, _, _⟩ := DataW.trod_int Tryd.underlying2 h1
      obtain ⟨x2, e2, _, _⟩ := DataW.trod_int Tryd.underlying2 h2
      obtain ⟨x3, e3, _, _⟩ := DataW.trod_int Tryd.underlying2 h3
      simp at e0 e1 e2 e3
      subst e0 e1 e2 e3
      exact ⟨(x0, x1, x2, x3), rfl⟩
def RuSz (zs : List Ru) : Nat := zs.length
theorem toRu_any (x0 : Int) (x1 : Int) (x2 : Int) (x3 : Int) (w : World) : Calls Tryd.prog 18 #[.agg #[.int .i64 x0, .int .i64 x1, .int .i64 x2, .int .i64 x3]] w fun e w' => e = .returned (.agg #[.int .i64 x0, .int .i64 x1, .int .i64 x2, .int .i64 x3]) ∧ Below w.heap.size w w' := by
  go_enter Tryd.func18, Tryd.ntmps18
  go_wp2
  refine bodyPost_ret (v := .agg #[.int .i64 x0, .int .i64 x1, .int .i64 x2, .int .i64 x3]) (by simp [results, Tryd.results18, go_sem]) rfl ⟨rfl, ?_⟩
  have HB0 := Below.refl w.heap.size w
  (repeat (first | exact HB0 | refine Below.setCell ?_ (by first | exact Nat.le_refl _ | (dsimp only; omega) | (simp; done) | (simp; omega)) _ | refine Below.alloc ?_ (by first | exact Nat.le_refl _ | omega | (simp; done) | (simp; omega)) _))
theorem infoRu : (Tryd.prog.info? 49).map (fun i => (i.zero, i.size, i.bytes)) = some (some (.agg #[.int .i64 0, .int .i64 0, .int .i64 0, .int .i64 0]), 4, 32) := by kernel_rfl
/-- The cells of one; of a row of which the first k are laid. -/
def RuC (z : Ru) (i : Nat) : Value := if i = 0 then .int .i64 z.1 else if i = 1 then .int .i64 z.2.1 else if i = 2 then .int .i64 z.2.2.1 else .int .i64 z.2.2.2
def RuZ (i : Nat) : Value := if i = 0 then .int .i64 0 else if i = 1 then .int .i64 0 else if i = 2 then .int .i64 0 else .int .i64 0
def RuF (zs : List Ru) (k j : Nat) : Value := if j < k * 4 then RuC (zs.getD (j / 4) ru0) (j % 4) else RuZ (j % 4)
theorem madeRu (w : World) (n : Nat) (zs : List Ru) (t : TypeId) : (w.alloc (.cells (madeCells #[.int .i64 0, .int .i64 0, .int .i64 0, .int .i64 0] (n * 4)) t)).rowIs w.heap.size t (n * 4) (RuF zs 0) := by
  have h := World.rowIs_alloc w (madeCells #[.int .i64 0, .int .i64 0, .int .i64 0, .int .i64 0] (n * 4)) t (RuF zs 0) (fun i hi => by
    rw [size_madeCells] at hi
    have h2 : i % 4 = 0 ∨ i % 4 = 1 ∨ i % 4 = 2 ∨ i % 4 = 3 := by omega
    rcases h2 with h2 | h2 | h2 | h2 <;> simp [madeCells, hi, RuF, RuZ, h2])
  rw [size_madeCells] at h
  exact h
theorem RuF_step {zs : List Ru} {k : Nat} {x0 : Int} {x1 : Int} {x2 : Int} {x3 : Int} (h : zs.getD k ru0 = (x0, x1, x2, x3)) (j : Nat) : (if j = k * 4 + 3 then Value.int .i64 x3 else if j = k * 4 + 2 then Value.int .i64 x2 else if j = k * 4 + 1 then Value.int .i64 x1 else if j = k * 4 then Value.int .i64 x0 else RuF zs k j) = RuF zs (k + 1) j := by
  unfold RuF
  by_cases h3_ : j = k * 4 + 3
  · subst h3_
    have a1 : (k * 4 + 3) / 4 = k := by omega
    have a2 : (k * 4 + 3) % 4 = 3 := by omega
    rw [if_pos rfl, if_pos (by omega), a1, a2, h]; rfl
  rw [if_neg h3_]
  by_cases h2_ : j = k * 4 + 2
  · subst h2_
    have a1 : (k * 4 + 2) / 4 = k := by omega
    have a2 : (k * 4 + 2) % 4 = 2 := by omega
    rw [if_pos rfl, if_pos (by omega), a1, a2, h]; rfl
  rw [if_neg h2_]
  by_cases h1_ : j = k * 4 + 1
  · subst h1_
    have a1 : (k * 4 + 1) / 4 = k := by omega
    have a2 : (k * 4 + 1) % 4 = 1 := by omega
    rw [if_pos rfl, if_pos (by omega), a1, a2, h]; rfl
  rw [if_neg h1_]
  by_cases h0_ : j = k * 4
  · subst h0_
    have a1 : (k * 4) / 4 = k := by omega
    have a2 : (k * 4) % 4 = 0 := by omega
    rw [if_pos rfl, if_pos (by omega), a1, a2, h]; rfl
  rw [if_neg h0_]
  by_cases h3 : j < k * 4
  · rw [if_pos h3, if_pos (show j < (k + 1) * 4 by omega)]
  · rw [if_neg h3, if_neg (show ¬ j < (k + 1) * 4 by omega)]
theorem Ru_row {w : World} {b n : Nat} {t : TypeId} {zs : List Ru} (hz : n = zs.length) (h : w.rowIs b t (n * 4) (RuF zs n)) : RuV w (some ⟨b, 0, none⟩) n zs := by
  refine ⟨hz, Or.inr ⟨b, rfl, fun j hj => ⟨h.lt, ?_, ?_, ?_, ?_⟩⟩⟩
  · have h1 := h.cell (i := j * 4) (by omega)
    have a1 : (j * 4) / 4 = j := by omega
    have a2 : (j * 4) % 4 = 0 := by omega
    rw [RuF, if_pos (by omega), a1, a2] at h1
    simpa [RuC] using h1
  · have h1 := h.cell (i := j * 4 + 1) (by omega)
    have a1 : (j * 4 + 1) / 4 = j := by omega
    have a2 : (j * 4 + 1) % 4 = 1 := by omega
    rw [RuF, if_pos (by omega), a1, a2] at h1
    simpa [RuC] using h1
  · have h1 := h.cell (i := j * 4 + 2) (by omega)
    have a1 : (j * 4 + 2) / 4 = j := by omega
    have a2 : (j * 4 + 2) % 4 = 2 := by omega
    rw [RuF, if_pos (by omega), a1, a2] at h1
    simpa [RuC] using h1
  · have h1 := h.cell (i := j * 4 + 3) (by omega)
    have a1 : (j * 4 + 3) / 4 = j := by omega
    have a2 : (j * 4 + 3) % 4 = 3 := by omega
    rw [RuF, if_pos (by omega), a1, a2] at h1
    simpa [RuC] using h1
def RuPost (n : Nat) (zs : List Ru) (w : World) (e : Ending) (w' : World) : Prop := ∃ g, e = .returned (.slice (some ⟨g, 0, none⟩) n n) ∧ w.heap.size ≤ g ∧ w'.rowIs g 49 (n * 4) (RuF zs n) ∧ Below w.heap.size w w'
end Go.Proofs.YtmfchcaidfloaaaDoor
