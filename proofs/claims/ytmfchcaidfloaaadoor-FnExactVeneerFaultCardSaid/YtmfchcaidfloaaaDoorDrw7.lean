/- Is a drawing valid: what it means, and the rings of faces in spec. -/
import Derived.Test.YtmfchcaidfloaaaDoorK11
import Derived.Test.YtmfchcaidfloaaaDoorLft
import Derived.Test.YtmfchcaidfloaaaDoorK16
import Derived.Test.YtmfchcaidfloaaaDoorSeq3
import Derived.Sort.Walk0
namespace Go.Proofs.YtmfchcaidfloaaaDoor
open Seq2 Go.ChangeShapes Go.WideShapes Go.ChangeAt Go.RowKit
set_option linter.unusedVariables false
set_option linter.unusedSimpArgs false

/-- The points with some indices. -/
def ringZ (zs : List P2) (r : List Int) : List P2 := r.map fun i => zs.getD i.toNat (0, 0)
theorem ringZ_len (zs : List P2) (r : List Int) : (ringZ zs r).length = r.length := by simp [ringZ]
def inAt (zs : List P2) (r : List Int) (k : Nat) : Bool := inI (r.getD k 0) 0 ((zs.length : Int) - 1)
def ringIn (zs : List P2) (r : List Int) : Bool := allTo (inAt zs r) r.length
def ringB (zs : List P2) (r : List Int) : Bool := ringIn zs r && polyB (ringZ zs r)
def ptIn (wd hg : Int) (p : P2) : Bool := inI p.1 0 wd && inI p.2 0 hg
def newB (zs : List P2) (i : Nat) : Bool := allTo (fun k => !eqP (zs.getD i (0, 0)) (zs.getD k (0, 0))) i
def ptB (wd hg : Int) (zs : List P2) (i : Nat) : Bool := ptIn wd hg (zs.getD i (0, 0)) && newB zs i
def ptsB (wd hg : Int) (zs : List P2) : Bool := allTo (ptB wd hg zs) zs.length && decide (zs.length ≤ 48)
def lessB (a b : ByteArray) : Bool := Op.bytesLess a.toList b.toList
def ordB (fs : List Fc) (i : Nat) : Bool := decide (i = 0) || lessB (fs.getD (i - 1) fc0).1 (fs.getD i fc0).1
def faceB (zs : List P2) (fs : List Fc) (i : Nat) : Bool := nameB (fs.getD i fc0).1 && ordB fs i && ringB zs (fs.getD i fc0).2
def facesB (zs : List P2) (fs : List Fc) : Bool := decide (fs.length ≤ 24) && allTo (faceB zs fs) fs.length
def panelB (D : Drw) : Bool := inI D.wd 10 20000 && inI D.hg 10 20000
def drB (D : Drw) : Bool := panelB D && ptsB D.wd D.hg D.ps && facesB D.ps D.fs

/-- A block that begins with four values. -/
def W4 (w : World) (q : Nat) (c0 c1 c2 c3 : Value) : Prop := ∃ cur t, w.heap[q]? = some (.cells cur t (0, 0)) ∧ cur[0]? = some c0 ∧ cur[1]? = some c1 ∧ cur[2]? = some c2 ∧ cur[3]? = some c3
theorem W4.of {w : World} {q : Nat} {c0 c1 c2 c3 : Value} {t : TypeId} (h : w.heap[q]? = some (.cells #[c0, c1, c2, c3] t (0, 0))) : W4 w q c0 c1 c2 c3 := ⟨_, t, h, rfl, rfl, rfl, rfl⟩
theorem W4.lt {w : World} {q : Nat} {c0 c1 c2 c3 : Value} (h : W4 w q c0 c1 c2 c3) : q < w.heap.size := by
  obtain ⟨_, _, h, _⟩ := h
  exact blk_lt h
theorem W4.keep {w w' : World} {q : Nat} {c0 c1 c2 c3 : Value} (h : W4 w q c0 c1 c2 c3) (e : w'.heap[q]? = w.heap[q]?) : W4 w' q c0 c1 c2 c3 := by
  obtain ⟨cur, t, h, h1⟩ := h
  exact ⟨cur, t, e.trans h, h1⟩
theorem W4.cells {w : World} {p : Nat} {c0 c1 c2 c3 : Value} (h : W4 w p c0 c1 c2 c3) :
    w.cell? ⟨p, 0, none⟩ = some c0 ∧ w.frozen? ⟨p, 0, none⟩ = false ∧ w.cell? ⟨p, 1, none⟩ = some c1 ∧ w.frozen? ⟨p, 1, none⟩ = false ∧ w.cell? ⟨p, 2, none⟩ = some c2 ∧ w.frozen? ⟨p, 2, none⟩ = false ∧ w.cell? ⟨p, 3, none⟩ = some c3 ∧ w.frozen? ⟨p, 3, none⟩ = false := by
  obtain ⟨cur, t, h, h0, h1, h2, h3⟩ := h
  exact ⟨(cell_of_arr h h0).1, (cell_of_arr h h0).2, (cell_of_arr h h1).1, (cell_of_arr h h1).2, (cell_of_arr h h2).1, (cell_of_arr h h2).2, (cell_of_arr h h3).1, (cell_of_arr h h3).2⟩
/-- A drawing that a pointer leads to: the first four cells of a block. -/
structure DP (w : World) (q : Nat) (D : Drw) : Prop where
  out : ∃ ao n c bo m d, W4 w q (.int .i64 D.wd) (.int .i64 D.hg) (.slice ao n c) (.slice bo m d) ∧ (Lit.int .i64 D.wd).wf = true ∧ (Lit.int .i64 D.hg).wf = true ∧ dSz D ≤ 1048576 ∧ PV w ao n D.ps ∧ FV w bo m D.fs
theorem DP.below {w w' : World} {q : Nat} {D : Drw} (h : DP w q D) (hb : Below w.heap.size w w') : DP w' q D := by
  obtain ⟨ao, n, c, bo, m, d, h1, h2, h3, h4, h5, h6⟩ := h.out
  exact ⟨ao, n, c, bo, m, d, h1.keep (hb.block q h1.lt), h2, h3, h4, h5.below hb, h6.below hb⟩
theorem ring_succ {zs : List P2} {r : List Int} {k j : Nat} {x y : Int} (hk : k < r.length) (e : r.getD k 0 = (j : Int)) (e2 : zs.getD j (0, 0) = (x, y)) : flatP (ringZ zs (r.take k)) ++ [.int .i64 x, .int .i64 y] = flatP (ringZ zs (r.take (k + 1))) := by
  have e' : r[k] = (j : Int) := by simpa [List.getD_eq_getElem?_getD, hk] using e
  rw [List.take_succ_eq_append_getElem hk, e']
  unfold ringZ
  rw [List.map_append, flatP_app]
  have : flatP (List.map (fun i => zs.getD (Int.toNat i) (0, 0)) [(j : Int)]) = [.int .i64 x, .int .i64 y] := by
    simp only [List.map_cons, List.map_nil, Int.toNat_natCast, e2]; rfl
  rw [this]
def RingPost (zs : List P2) (r : List Int) (w : World) (e : Ending) (w' : World) : Prop := ∃ v, e = .returned (.tuple #[v, .bool (ringIn zs r)]) ∧ Below w.heap.size w w' ∧ (ringIn zs r = true → w'.ownsRow w.heap.size 90 2 v r.length (flatP (ringZ zs r)))
end Go.Proofs.YtmfchcaidfloaaaDoor
