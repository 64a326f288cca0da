/- Slices of the struct Veneer in laws: what came in, sizes, copies, equality. -/
import Derived.Test.YtmfchcaidfloaaaDoorTyVeneer
import Derived.Test.YtmfchcaidfloaaaDoorK5
import Derived.Test.YtmfchcaidfloaaaDoorLft
import Derived.Lib.SmallJoins
import Derived.ChangeMaps5
namespace Go.Proofs.YtmfchcaidfloaaaDoor
open Seq2 Go.ChangeShapes Go.WideShapes Go.ChangeAt Go.RowKit Go.ChangeMaps Go.Joins Go.Deep
set_option linter.unusedVariables false
set_option linter.unusedSimpArgs false

/-- A slice that came in. -/
def VnL (w : World) (ao : Option Addr) (n : Nat) (zs : List Vn) : Prop := n = zs.length ∧ (n = 0 ∨ ∃ b off, ao = some ⟨b, off, none⟩ ∧ ∀ j, j < n → (zs.getD j vn0).1.size ≤ 9223372036854775807 ∧ VnAt w b (off + j * 3) (zs.getD j vn0))
theorem VnL.below {w w' : World} {ao : Option Addr} {n : Nat} {zs : List Vn} (h : VnL w ao n zs) (hb : Below w.heap.size w w') : VnL w' ao n zs :=
  ⟨h.1, h.2.imp id fun ⟨b, off, e, h1⟩ => ⟨b, off, e, fun j hj => ⟨(h1 j hj).1, (h1 j hj).2.below hb⟩⟩⟩
theorem cVn : Tryd.prog.cellsOf 33 = 3 := by kernel_rfl
theorem cBVn : Tryd.prog.cellsOf 9 = 1 := by kernel_rfl
theorem cIVn : Tryd.prog.cellsOf 2 = 1 := by kernel_rfl
set_option maxRecDepth 100000 in
theorem Vn_cells {H : Type} {enc : TypeId × Value → H} {W : World} {base : Nat} {sp : Nat → Bool} {fuel : Nat} {cs : List Value} {x : DataW H × List MemPlace} (h : DataW.trod enc Tryd.prog W base sp true fuel 33 cs = some x) :
    ∃ z : Vn, cs = [.string z.1, .int .i64 z.2.1, .int .i64 z.2.2] ∧ z.1.size ≤ 9223372036854775807 := by
  obtain ⟨xs, m, _, hx, hl, hlen, hf⟩ := DataW.trod_struct Tryd.underlying33 h
  rw [cVn] at hl
  match cs, hl with
  | [c0, c1, c2], _ =>
    match xs, hlen with
    | [y0, y1, y2], _ =>
      have h0 := hf 0 _ rfl
      have h1 := hf 1 _ rfl
      have h2 := hf 2 _ rfl
      change DataW.trod enc Tryd.prog W base sp true m 9 (([c0, c1, c2].drop 0).take (Tryd.prog.cellsOf 9)) = some y0 at h0
      change DataW.trod enc Tryd.prog W base sp true m 2 (([c0, c1, c2].drop 1).take (Tryd.prog.cellsOf 2)) = some y1 at h1
      change DataW.trod enc Tryd.prog W base sp true m 2 (([c0, c1, c2].drop 2).take (Tryd.prog.cellsOf 2)) = some y2 at h2
      rw [cBVn] at h0
      rw [cIVn] at h1 h2
      obtain ⟨x0, e0, _, m0⟩ := DataW.trod_string Tryd.underlying9 h0
      obtain ⟨x1, e1, _, _⟩ := DataW.trod_int Tryd.underlying2 h1
      obtain ⟨x2, e2, _, _⟩ := DataW.trod_int Tryd.underlying2 h2
      simp at e0 e1 e2
      subst e0 e1 e2
      exact ⟨(x0, x1, x2), rfl, by unfold maxLen at m0; omega⟩
def VnSz1 (z : Vn) : Nat := z.1.size
def VnSzF (zs : List Vn) (j : Nat) : Nat := VnSz1 (zs.getD j vn0)
def VnSz (zs : List Vn) : Nat := zs.length + sumL (VnSzF zs) zs.length
theorem szVn_any (x0 : ByteArray) (x1 : Int) (x2 : Int) (l : Int) (w : World) (h0 : 0 ≤ l) (h1 : l ≤ 1048576) (hs : x0.size ≤ 9223372036854775807) : Calls Tryd.prog 13 #[.agg #[.string x0, .int .i64 x1, .int .i64 x2], .int .i64 l] w fun e w' => e = .returned (.int .i64 (lft l x0.size)) ∧ Below w.heap.size w w' := by
  have e1 : IntKind.i64.wrap (l - (x0.size : Int)) = l - (x0.size : Int) := IntWalk.i64_in _ (by omega)
  by_cases hl : (x0.size : Int) ≤ l
  · have hd : decide (l - (x0.size : Int) < 0) = false := by simp; omega
    rw [lft_ok hl]
    go_enter Tryd.func13, Tryd.ntmps13
    go_wp2
    go_ret
    exact ⟨rfl, one_alloc _⟩
  · have hd : decide (l - (x0.size : Int) < 0) = true := by simp; omega
    rw [lft_no hl]
    go_enter Tryd.func13, Tryd.ntmps13
    go_wp2
    go_ret
    exact ⟨rfl, one_alloc _⟩
theorem toVn_any (x0 : ByteArray) (x1 : Int) (x2 : Int) (w : World) : Calls Tryd.prog 16 #[.agg #[.string x0, .int .i64 x1, .int .i64 x2]] w fun e w' => e = .returned (.agg #[.string x0, .int .i64 x1, .int .i64 x2]) ∧ Below w.heap.size w w' := by
  go_enter Tryd.func16, Tryd.ntmps16
  go_wp2
  refine bodyPost_ret (v := .agg #[.string x0, .int .i64 x1, .int .i64 x2]) (by simp [results, Tryd.results16, go_sem]) rfl ⟨rfl, ?_⟩
  have HB0 := Below.refl w.heap.size w
  (repeat (first | exact HB0 | refine Below.setCell ?_ (by first | exact Nat.le_refl _ | (dsimp only; omega) | (simp; done) | (simp; omega)) _ | refine Below.alloc ?_ (by first | exact Nat.le_refl _ | omega | (simp; done) | (simp; omega)) _))
theorem infoVn : (Tryd.prog.info? 43).map (fun i => (i.zero, i.size, i.bytes)) = some (some (.agg #[.string ⟨#[]⟩, .int .i64 0, .int .i64 0]), 3, 32) := by kernel_rfl
/-- The cells of one; of a row of which the first k are laid. -/
def VnC (z : Vn) (i : Nat) : Value := if i = 0 then .string z.1 else if i = 1 then .int .i64 z.2.1 else .int .i64 z.2.2
def VnZ (i : Nat) : Value := if i = 0 then .string ⟨#[]⟩ else if i = 1 then .int .i64 0 else .int .i64 0
def VnF (zs : List Vn) (k j : Nat) : Value := if j < k * 3 then VnC (zs.getD (j / 3) vn0) (j % 3) else VnZ (j % 3)
theorem madeVn (w : World) (n : Nat) (zs : List Vn) (t : TypeId) : (w.alloc (.cells (madeCells #[.string ⟨#[]⟩, .int .i64 0, .int .i64 0] (n * 3)) t)).rowIs w.heap.size t (n * 3) (VnF zs 0) := by
  have h := World.rowIs_alloc w (madeCells #[.string ⟨#[]⟩, .int .i64 0, .int .i64 0] (n * 3)) t (VnF zs 0) (fun i hi => by
    rw [size_madeCells] at hi
    have h2 : i % 3 = 0 ∨ i % 3 = 1 ∨ i % 3 = 2 := by omega
    rcases h2 with h2 | h2 | h2 <;> simp [madeCells, hi, VnF, VnZ, h2])
  rw [size_madeCells] at h
  exact h
theorem VnF_step {zs : List Vn} {k : Nat} {x0 : ByteArray} {x1 : Int} {x2 : Int} (h : zs.getD k vn0 = (x0, x1, x2)) (j : Nat) : (if j = k * 3 + 2 then Value.int .i64 x2 else if j = k * 3 + 1 then Value.int .i64 x1 else if j = k * 3 then Value.string x0 else VnF zs k j) = VnF zs (k + 1) j := by
  unfold VnF
  by_cases h2_ : j = k * 3 + 2
  · subst h2_
    have a1 : (k * 3 + 2) / 3 = k := by omega
    have a2 : (k * 3 + 2) % 3 = 2 := by omega
    rw [if_pos rfl, if_pos (by omega), a1, a2, h]; rfl
  rw [if_neg h2_]
  by_cases h1_ : j = k * 3 + 1
  · subst h1_
    have a1 : (k * 3 + 1) / 3 = k := by omega
    have a2 : (k * 3 + 1) % 3 = 1 := by omega
    rw [if_pos rfl, if_pos (by omega), a1, a2, h]; rfl
  rw [if_neg h1_]
  by_cases h0_ : j = k * 3
  · subst h0_
    have a1 : (k * 3) / 3 = k := by omega
    have a2 : (k * 3) % 3 = 0 := by omega
    rw [if_pos rfl, if_pos (by omega), a1, a2, h]; rfl
  rw [if_neg h0_]
  by_cases h3 : j < k * 3
  · rw [if_pos h3, if_pos (show j < (k + 1) * 3 by omega)]
  · rw [if_neg h3, if_neg (show ¬ j < (k + 1) * 3 by omega)]
theorem Vn_row {w : World} {b n : Nat} {t : TypeId} {zs : List Vn} (hz : n = zs.length) (h : w.rowIs b t (n * 3) (VnF zs n)) : VnV w (some ⟨b, 0, none⟩) n zs := by
  refine ⟨hz, Or.inr ⟨b, rfl, fun j hj => ⟨h.lt, ?_, ?_, ?_⟩⟩⟩
  · have h1 := h.cell (i := j * 3) (by omega)
    have a1 : (j * 3) / 3 = j := by omega
    have a2 : (j * 3) % 3 = 0 := by omega
    rw [VnF, if_pos (by omega), a1, a2] at h1
    simpa [VnC] using h1
  · have h1 := h.cell (i := j * 3 + 1) (by omega)
    have a1 : (j * 3 + 1) / 3 = j := by omega
    have a2 : (j * 3 + 1) % 3 = 1 := by omega
    rw [VnF, if_pos (by omega), a1, a2] at h1
    simpa [VnC] using h1
  · have h1 := h.cell (i := j * 3 + 2) (by omega)
    have a1 : (j * 3 + 2) / 3 = j := by omega
    have a2 : (j * 3 + 2) % 3 = 2 := by omega
    rw [VnF, if_pos (by omega), a1, a2] at h1
    simpa [VnC] using h1
def VnPost (n : Nat) (zs : List Vn) (w : World) (e : Ending) (w' : World) : Prop := ∃ g, e = .returned (.slice (some ⟨g, 0, none⟩) n n) ∧ w.heap.size ≤ g ∧ w'.rowIs g 43 (n * 3) (VnF zs n) ∧ Below w.heap.size w w'
theorem eqVn_same (x0 : ByteArray) (x1 : Int) (x2 : Int) (w : World) : Calls Tryd.prog 46 #[.agg #[.string x0, .int .i64 x1, .int .i64 x2], .agg #[.string x0, .int .i64 x1, .int .i64 x2]] w fun e w' => e = .returned (.bool true) ∧ Below w.heap.size w w' := by
  go_enter Tryd.func46, Tryd.ntmps46
  go_wp2
  go_ret
  exact ⟨rfl, two_allocs _ _⟩
end Go.Proofs.YtmfchcaidfloaaaDoor
