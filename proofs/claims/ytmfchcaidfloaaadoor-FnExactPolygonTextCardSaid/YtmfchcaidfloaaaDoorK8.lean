/- Several texts in one: Grow, PolyG1, PolyG2, PolyG3, PolyG4, OwnMark, OwnInt, LawSz, Rev, PolyG5. -/
import Derived.Test.YtmfchcaidfloaaaDoorK5
import Derived.Test.YtmfchcaidfloaaaDoorK3
import Derived.Lib.AppendZeros
import Derived.LoopN
import Derived.Test.YtmfchcaidfloaaaDoorK2
import Derived.Test.YtmfchcaidfloaaaDoorK7
import Derived.Test.YtmfchcaidfloaaaDoorLft
import Derived.Test.YtmfchcaidfloaaaDoorPlan
namespace Go.Proofs.YtmfchcaidfloaaaDoor
open Go.ChangeShapes Go.WideShapes Go.ChangeAt Go.RowKit
set_option linter.unusedVariables false
set_option linter.unusedSimpArgs false

theorem _root_.Go.World.ownsRow.base_le {w : World} {b b' e n : Nat} {size : Nat} {v : Value} {xs : List Value} (h : w.ownsRow b' e size v n xs) (hb : b ≤ b') : w.ownsRow b e size v n xs :=
  ⟨h.1, h.2.imp id fun ⟨g, cap, cur, h1, h2, h3⟩ => ⟨g, cap, cur, h1, Nat.le_trans hb h2, h3⟩⟩
end Go.Proofs.YtmfchcaidfloaaaDoor
namespace Go.Proofs.YtmfchcaidfloaaaDoor
open Go.ChangeShapes Go.WideShapes Go.ChangeAt Go.RowKit
set_option linter.unusedVariables false

theorem take_eq_succ {a b : List P2} {k : Nat} (hk : k < a.length) (hb : k < b.length) (h : a.take k = b.take k) (e : a.getD k (0, 0) = b.getD k (0, 0)) : a.take (k + 1) = b.take (k + 1) := by
  rw [List.take_succ_eq_append_getElem hk, List.take_succ_eq_append_getElem hb, h]
  congr 2
  simpa [List.getD_eq_getElem?_getD, hk, hb] using e
theorem take_eq_all {a b : List P2} {k : Nat} (ha : a.length = k) (hb : b.length = k) (h : a.take k = b.take k) : a = b := by
  rwa [List.take_of_length_le (by omega), List.take_of_length_le (by omega)] at h
/-- Two lists of points are equal up to where they begin, from the number k on of the second one. -/
def aroundB (a b : List P2) : Bool := (List.range b.length).any fun k => decide (a = rotL b k)
theorem any_range_snoc (f : Nat → Bool) (k : Nat) : (List.range (k + 1)).any f = ((List.range k).any f || f k) := by simp [List.range_succ]
theorem any_range_mono {f : Nat → Bool} {k n : Nat} (h : k < n) (hf : f k = true) : (List.range n).any f = true := List.any_eq_true.2 ⟨k, List.mem_range.2 h, hf⟩
end Go.Proofs.YtmfchcaidfloaaaDoor
namespace Go.Proofs.YtmfchcaidfloaaaDoor
open Go.ChangeShapes Go.WideShapes Go.ChangeAt Go.RowKit
set_option linter.unusedVariables false
set_option linter.unusedSimpArgs false

/-- The first place of a point. -/
def idxP (zs : List P2) (p : P2) : Option Nat := zs.findIdx? fun q => decide (q = p)
def ixI : Option Nat → Int
  | none => -1
  | some k => k
theorem idx_succ {zs : List P2} {p : P2} {k : Nat} (hk : k < zs.length) (h : idxP (zs.take k) p = none) (e : zs.getD k (0, 0) ≠ p) : idxP (zs.take (k + 1)) p = none := by
  unfold idxP at *
  rw [List.take_succ_eq_append_getElem hk, List.findIdx?_append, h]
  have e' : zs[k] ≠ p := by simpa [List.getD_eq_getElem?_getD, hk] using e
  simp [List.findIdx?_cons, e']
theorem idx_found {zs : List P2} {p : P2} {k : Nat} (hk : k < zs.length) (h : idxP (zs.take k) p = none) (e : zs.getD k (0, 0) = p) : idxP zs p = some k := by
  unfold idxP at *
  have e' : zs[k] = p := by simpa [List.getD_eq_getElem?_getD, hk] using e
  have h2 : zs = zs.take k ++ zs.drop k := (List.take_append_drop k zs).symm
  rw [h2, List.findIdx?_append, h, List.drop_eq_getElem_cons hk]
  simp [List.findIdx?_cons, e', List.length_take]
  omega
theorem idx_none {zs : List P2} {p : P2} {k : Nat} (hk : zs.length ≤ k) (h : idxP (zs.take k) p = none) : idxP zs p = none := by rwa [List.take_of_length_le hk] at h
/-- impl's test: begin with the second one's first point. -/
def isSameB (a b : List P2) : Bool := match idxP a (b.getD 0 (0, 0)) with
  | none => false
  | some k => decide (rotL a k = b)
theorem idx_lt {zs : List P2} {p : P2} {k : Nat} (h : idxP zs p = some k) : k < zs.length := by
  unfold idxP at h
  exact (List.findIdx?_eq_some_iff_getElem.1 h).1
end Go.Proofs.YtmfchcaidfloaaaDoor
namespace Go.Proofs.YtmfchcaidfloaaaDoor
open Go.ChangeShapes Go.WideShapes Go.ChangeAt Go.RowKit
set_option linter.unusedVariables false
set_option linter.unusedSimpArgs false

theorem on_start (x y u v : Int) : onB x y u v x y = true := by
  have h : sdI x y u v x y = 0 := by unfold sdI; rw [sg_zero]; unfold crI; grind
  unfold onB
  rw [h]
  simp [inI]
  omega
theorem poly_ne {zs : List P2} (hv : polyB zs = true) {i j : Nat} (hij : i < j) (hj : j < zs.length) : zs.getD i (0, 0) ≠ zs.getD j (0, 0) := by
  obtain ⟨h3, _, _, hg, ha, _⟩ := poly_ok hv
  have ei : pt zs i = zs.getD i (0, 0) := pt_lt (by omega)
  have ej : pt zs j = zs.getD j (0, 0) := pt_lt hj
  rw [← ei, ← ej]
  intro h
  have g := fun k (hk : k < zs.length) => (allTo_iff (goOk zs) zs.length).1 hg k hk
  by_cases h1 : j = i + 1
  · have := g i (by omega)
    subst h1
    unfold goOk at this
    rw [(eqP_iff _ _).2 h] at this
    simp at this
  · by_cases h2 : (j + 1) % zs.length = i
    · have hi0 : i = 0 ∧ j + 1 = zs.length := by
        rcases Nat.lt_or_ge (j + 1) zs.length with hl | hl
        · rw [Nat.mod_eq_of_lt hl] at h2; omega
        · have : j + 1 = zs.length := by omega
          rw [this, Nat.mod_self] at h2; omega
      have := g j hj
      have e : pt zs (j + 1) = pt zs i := by rw [hi0.2, hi0.1]; unfold pt; simp
      unfold goOk at this
      rw [(eqP_iff _ _).2 (by rw [e, h])] at this
      simp at this
    · have := (allTo_iff _ _).1 ((allTo_iff _ _).1 ha i (by omega)) j hj
      unfold cellOk at this
      have ht : tcP (pt zs i) (pt zs (i + 1)) (pt zs j) (pt zs (j + 1)) = true := by
        rw [← h]
        unfold tcP tcB
        rw [on_start]
        simp
      rw [ht] at this
      simp at this
      omega
theorem rot_back {a b : List P2} {k : Nat} (hk : k < a.length) (h : rotL a k = b) : ∃ j, j < a.length ∧ a = rotL b j := by
  subst h
  by_cases h0 : k = 0
  · subst h0; exact ⟨0, hk, by simp [rotL]⟩
  · refine ⟨a.length - k, by omega, ?_⟩
    unfold rotL
    rw [List.drop_append_of_le_length (by simp), List.take_append_of_le_length (by simp)]
    simp [List.drop_eq_nil_of_le, List.take_of_length_le]
theorem rot_first {a : List P2} {k : Nat} (hk : k < a.length) : (rotL a k).getD 0 (0, 0) = a.getD k (0, 0) := by
  unfold rotL
  have : 0 < (a.drop k).length := by simp; omega
  simp only [List.getD_eq_getElem?_getD]
  rw [List.getElem?_append_left this]
  simp
theorem same_around {a b : List P2} (ha : polyB a = true) (hb : polyB b = true) : isSameB a b = aroundB a b := by
  have la := (poly_ok ha).1
  have lb := (poly_ok hb).1
  rw [Bool.eq_iff_iff]
  constructor
  · intro h
    unfold isSameB at h
    split at h
    · cases h
    · rename_i k hk
      obtain ⟨j, hj, e⟩ := rot_back (idx_lt hk) (of_decide_eq_true h)
      have hl : b.length = a.length := by rw [← of_decide_eq_true h, rotL_len _ _ (Nat.le_of_lt (idx_lt hk))]
      exact List.any_eq_true.2 ⟨j, List.mem_range.2 (by omega), decide_eq_true e⟩
  · intro h
    obtain ⟨j, hj, e⟩ := List.any_eq_true.1 h
    have hj := List.mem_range.1 hj
    have e := of_decide_eq_true e
    obtain ⟨k, hk, e2⟩ := rot_back hj e.symm
    have hl : a.length = b.length := by rw [e, rotL_len _ _ (Nat.le_of_lt hj)]
    have hk' : k < a.length := by omega
    have e0 : b.getD 0 (0, 0) = a.getD k (0, 0) := by rw [e2, rot_first hk']
    have hi : idxP a (b.getD 0 (0, 0)) = some k := by
      rw [e0]
      unfold idxP
      rw [List.findIdx?_eq_some_iff_getElem]
      refine ⟨hk', by simp [List.getD_eq_getElem?_getD, hk'], fun i hi => ?_⟩
      have := poly_ne ha hi hk'
      simp only [List.getD_eq_getElem?_getD, hk', Nat.lt_trans hi hk', List.getElem?_eq_getElem, Option.getD_some] at this
      simpa using fun h => this (by simpa [List.getD_eq_getElem?_getD, hk'] using h)
    unfold isSameB
    rw [hi]
    simpa using e2.symm
end Go.Proofs.YtmfchcaidfloaaaDoor
namespace Go.Proofs.YtmfchcaidfloaaaDoor
open Go.ChangeShapes Go.WideShapes Go.ChangeAt Go.RowKit
set_option linter.unusedVariables false
set_option linter.unusedSimpArgs false

def shiftL (zs : List P2) (dx dy : Int) : List P2 := zs.map fun p => (p.1 + dx, p.2 + dy)
theorem shiftL_len (zs : List P2) (dx dy : Int) : (shiftL zs dx dy).length = zs.length := by simp [shiftL]
theorem shift_succ {zs : List P2} {k : Nat} {x y dx dy : Int} (hk : k < zs.length) (e : zs.getD k (0, 0) = (x, y)) : flatP (shiftL (zs.take k) dx dy) ++ [.int .i64 (x + dx), .int .i64 (y + dy)] = flatP (shiftL (zs.take (k + 1)) dx dy) := by
  have e' : zs[k] = (x, y) := by simpa [List.getD_eq_getElem?_getD, hk] using e
  rw [List.take_succ_eq_append_getElem hk, e']
  simp [shiftL, flatP]
theorem shift_at {zs : List P2} {k : Nat} {x y dx dy : Int} (hk : k < zs.length) (e : zs.getD k (0, 0) = (x, y)) : (shiftL zs dx dy).getD k (0, 0) = (x + dx, y + dy) := by
  have e' : zs[k] = (x, y) := by simpa [List.getD_eq_getElem?_getD, hk] using e
  simp [shiftL, List.getD_eq_getElem?_getD, hk, e']
/-- All coordinates are small. -/
def Small (M : Int) (zs : List P2) : Prop := ∀ k, k < zs.length → -M ≤ (zs.getD k (0, 0)).1 ∧ (zs.getD k (0, 0)).1 ≤ M ∧ -M ≤ (zs.getD k (0, 0)).2 ∧ (zs.getD k (0, 0)).2 ≤ M
theorem small_ok {zs : List P2} (h : allOk zs = true) : Small 20000 zs := fun k hk => by
  have := ok_bd (allOk_at h k hk)
  omega
theorem own_new (w : World) : (w.alloc (.cells #[] 90)).ownsRow w.heap.size 90 2 (.slice (some ⟨w.heap.size, 0, none⟩) 0 0) 0 [] := by
  have := World.ownsRow_made (base := w.heap.size) (e := 90) (size := 2) w #[] 0 (Nat.le_refl _) (by simp [maxLen]) (by simp)
  exact this
theorem own_below {w w' : World} {base e n : Nat} {size : Nat} {v : Value} {xs : List Value} (h : w.ownsRow base e size v n xs) (hb : Below w.heap.size w w') : w'.ownsRow base e size v n xs := h.kept (grown_none hb) (by cases h : v.ownBlock <;> simp)
theorem own_grown {w w' : World} {base e n : Nat} {size : Nat} {v : Value} {xs : List Value} {B : Nat} (h : w.ownsRow base e size v n xs) (hg : w.grownBy w' v.ownBlock) (hB : B ≤ base) (hw : B ≤ w.heap.size) : Below B w w' := grown_below hg hw (fun k hk => Nat.le_trans hB (World.ownsRow.lt h k hk).1)
theorem own_rowPts {w : World} {base g n : Nat} {zs : List P2} (hz : n = zs.length) (hn : n ≤ 1048576) (hb : base ≤ g) (h : w.rowIs g 90 (n * 2) (ptF zs n)) : w.ownsRow base 90 2 (.slice (some ⟨g, 0, none⟩) n n) n (flatP zs) := by
  obtain ⟨c, h1, h2, h3⟩ := h
  refine ⟨by rw [flatP_len, hz], Or.inr ⟨g, n, c, rfl, hb, h1, Nat.le_refl _, by unfold maxLen; omega, h2, ?_⟩⟩
  apply List.ext_getElem?
  intro j
  by_cases hj : j < n * 2
  · rw [List.getElem?_take_of_lt hj, Array.getElem?_toList, h3 j hj]
    have hk : j / 2 < zs.length := by omega
    have := flatP_at hk
    unfold ptF
    rw [if_pos hj]
    rcases Nat.mod_two_eq_zero_or_one j with hm | hm
    · have ej : j / 2 * 2 = j := by omega
      rw [ej] at this
      rw [if_pos hm, ← ej]; simpa [ej] using this.1.symm
    · have ej : j / 2 * 2 + 1 = j := by omega
      rw [ej] at this
      rw [if_neg (by omega), ← ej]; simpa [ej] using this.2.symm
  · rw [List.getElem?_take, if_neg hj, List.getElem?_eq_none (by rw [flatP_len]; omega)]
theorem make_outl (n : Nat) (hn : n ≤ 1048576) (w : World) : (Instr.makeSlice 127 (.int .i64 (n : Int)) (.int .i64 (n : Int))).run Tryd.prog w = .ok (.slice (some ⟨w.heap.size, 0, none⟩) n n) (w.alloc (.cells (madeCells #[.int .i64 0, .int .i64 0] (n * 2)) 90)) := by
  obtain ⟨i0, hi, hz0, hz1, hz2⟩ := info_parts info_pt
  have h := run_make (P := Tryd.prog) w 127 90 i0 _ Tryd.underlying127 hi hz0 .i64 .i64 n n (by omega) (by omega) (by rw [hz2]; omega) (by omega)
  rw [hz1, show (Value.agg #[.int .i64 0, .int .i64 0]).cells = #[.int .i64 0, .int .i64 0] from rfl] at h
  simpa using h
/-- A slice of points that the call has made, and a code. -/
def NewC (zs : List P2) (c : Int) (w : World) (e : Ending) (w' : World) : Prop := ∃ v, e = .returned (.tuple #[v, .int .i64 c]) ∧ NewP w w' v zs
theorem newC_nil {w w' : World} {c : Int} (h : Below w.heap.size w w') : NewC [] c w (.returned (.tuple #[.slice none 0 0, .int .i64 c])) w' := ⟨_, rfl, ⟨rfl, Or.inl ⟨rfl, rfl⟩⟩, h⟩
def startR (zs : List P2) (k : Int) : List P2 × Int := if polyB zs then (if inI k 0 (zs.length - 1) then (rotL zs k.toNat, 0) else ([], 2)) else ([], 1)
end Go.Proofs.YtmfchcaidfloaaaDoor
namespace Go.Proofs.YtmfchcaidfloaaaDoor
open Go.ChangeShapes Go.WideShapes Go.ChangeAt Go.RowKit
set_option linter.unusedVariables false
set_option linter.unusedSimpArgs false

def marks (k : Int) (m : Nat) : List Value := (List.range m).map fun (j : Nat) => .int .i64 (k + (j : Int))
theorem marks_len (k : Int) (m : Nat) : (marks k m).length = m := by simp [marks]
theorem take_marks {cur : Array Value} {k : Int} {m : Nat} (hm : m ≤ cur.size) (h : ∀ j, j < m → cur[j]? = some (.int .i64 (k + j))) : cur.toList.take m = marks k m := by
  apply List.ext_getElem?
  intro j
  by_cases hj : j < m
  · rw [List.getElem?_take_of_lt hj]
    have := h j hj
    simp [marks, hj]
    simpa using this
  · simp [marks, hj, List.getElem?_take]
theorem marks_at {cur : Array Value} {k : Int} {m : Nat} (h : cur.toList.take m = marks k m) {j : Nat} (hj : j < m) : cur[j]? = some (.int .i64 (k + j)) := by
  have := congrArg (fun l => l[j]?) h
  simpa [List.getElem?_take_of_lt hj, marks, hj] using this
theorem arr_some {cur : Array Value} {j : Nat} (h : j < cur.size) : ∃ v, cur[j]? = some v := ⟨cur[j], by simp [h]⟩
theorem grown_set {w w' : World} {b j : Nat} {v : Value} (h : w.grownBy w' (some b)) : w.grownBy (w'.setCell ⟨b, j, none⟩ v) (some b) :=
  ⟨h.os, h.tape, h.output, by simp [World.setCell]; exact h.size, fun k hk hne => by
    rw [Below.heap_setCell _ _ _ _ (by intro e; exact hne (by rw [e]))]
    exact h.block k hk hne⟩
theorem grown_refl (w : World) (row : Option Nat) : w.grownBy w row := ⟨rfl, rfl, rfl, Nat.le_refl _, fun _ _ _ => rfl⟩
/-- What is written so far. -/
structure MarkAt (w wr : World) (b S : Nat) (T : TypeId) (k : Int) (m : Nat) : Prop where
  grown : w.grownBy wr (some b)
  arr : ∃ cur : Array Value, wr.heap[b]? = some (.cells cur T (0, 0)) ∧ cur.size = S ∧ ∀ j, j < m → cur[j]? = some (.int .i64 (k + j))
theorem MarkAt.set {w wr : World} {b S : Nat} {T : TypeId} {k : Int} {m : Nat} (h : MarkAt w wr b S T k m) (x : Int) (hx : x = k + m) (hm : m < S) : MarkAt w (wr.setCell ⟨b, m, none⟩ (.int .i64 x)) b S T k (m + 1) := by
  obtain ⟨cur, h1, h2, h3⟩ := h.arr
  refine ⟨grown_set h.grown, cur.setIfInBounds m (.int .i64 x), heap_setCell_same _ b m _ _ _ h1, by simpa using h2, fun j hj => ?_⟩
  subst hx
  by_cases e : j = m
  · subst e
    have hs : j < cur.size := by omega
    simp [hs]
  · have e' : m ≠ j := Ne.symm e
    rw [Array.getElem?_setIfInBounds_ne e']
    exact h3 j (by omega)
end Go.Proofs.YtmfchcaidfloaaaDoor
namespace Go.Proofs.YtmfchcaidfloaaaDoor
open Go.ChangeShapes Go.WideShapes Go.ChangeAt Go.RowKit
set_option linter.unusedVariables false
set_option linter.unusedSimpArgs false

def flatI (zs : List Int) : List Value := zs.map fun z => .int .i64 z
theorem flatI_len (zs : List Int) : (flatI zs).length = zs.length := by simp [flatI]
/-- A slice of integers, as it lies in memory. -/
def IV (w : World) (ao : Option Addr) (n : Nat) (zs : List Int) : Prop := n = zs.length ∧ (n = 0 ∨ ∃ b, ao = some ⟨b, 0, none⟩ ∧ b < w.heap.size ∧ ∀ j, j < n → w.cell? ⟨b, j, none⟩ = some (.int .i64 (zs.getD j 0)))
theorem IV.below {w w' : World} {ao : Option Addr} {n : Nat} {zs : List Int} (h : IV w ao n zs) (hb : Below w.heap.size w w') : IV w' ao n zs :=
  ⟨h.1, h.2.imp id fun ⟨b, e, h1, h2⟩ => ⟨b, e, Nat.lt_of_lt_of_le h1 hb.size, fun j hj => (hb.cell (p := ⟨b, j, none⟩) h1).trans (h2 j hj)⟩⟩
theorem own_sliceI {w' : World} {base : Nat} {v : Value} {zs : List Int} (h : w'.ownsRow base 2 1 v zs.length (flatI zs)) : ∃ ao cap, v = .slice ao zs.length cap ∧ IV w' ao zs.length zs := by
  rcases id h with ⟨_, ⟨rfl, h0⟩ | ⟨g, cap, cur, rfl, hb, hg, hc1, hc2, hs, ht⟩⟩
  · exact ⟨none, 0, by rw [h0], rfl, Or.inl h0⟩
  · refine ⟨_, cap, rfl, rfl, Or.inr ⟨g, rfl, (Array.getElem?_eq_some_iff.1 hg).1, fun j hj => ?_⟩⟩
    have := congrArg (fun l => l[j]?) ht
    rw [Nat.mul_one] at this
    simp only [List.getElem?_take_of_lt hj, flatI, List.getElem?_map, List.getElem?_eq_getElem hj, Option.map_some] at this
    refine (cell_of_arr hg (j := j) ?_).1
    simpa [List.getD_eq_getElem?_getD, hj] using this
theorem own_pvI {w' : World} {base n cap : Nat} {ao : Option Addr} {zs : List Int} (hn : n = zs.length) (h : w'.ownsRow base 2 1 (.slice ao n cap) n (flatI zs)) : IV w' ao n zs := by
  subst hn
  obtain ⟨a, c, h1, h2⟩ := own_sliceI h
  cases h1
  exact h2
/-- A slice of integers that the call has made, and a code. -/
def NewCI (zs : List Int) (c : Int) (w : World) (e : Ending) (w' : World) : Prop := ∃ v, e = .returned (.tuple #[v, .int .i64 c]) ∧ w'.ownsRow w.heap.size 2 1 v zs.length (flatI zs) ∧ Below w.heap.size w w'
theorem newCI_nil {w w' : World} {c : Int} (h : Below w.heap.size w w') : NewCI [] c w (.returned (.tuple #[.slice none 0 0, .int .i64 c])) w' := ⟨_, rfl, ⟨rfl, Or.inl ⟨rfl, rfl⟩⟩, h⟩
theorem infoI : (Tryd.prog.info? 2).map (fun i => (i.zero, i.size, i.bytes)) = some (some (.int .i64 0), 1, 8) := by kernel_rfl
theorem info_int : ∃ i, Tryd.prog.info? 2 = some i ∧ i.zero = some (.int .i64 0) ∧ i.size = 1 ∧ i.bytes = 8 := by
  have h := infoI
  cases hi : Tryd.prog.info? 2 with
  | none => rw [hi] at h; cases h
  | some i =>
    rw [hi] at h
    simp only [Option.map_some, Option.some.injEq, Prod.mk.injEq] at h
    exact ⟨i, rfl, h.1, h.2.1, h.2.2⟩
theorem own_newI (w : World) : (w.alloc (.cells #[] 2)).ownsRow w.heap.size 2 1 (.slice (some ⟨w.heap.size, 0, none⟩) 0 0) 0 [] := by
  have := World.ownsRow_made (base := w.heap.size) (e := 2) (size := 1) w #[] 0 (Nat.le_refl _) (by simp [maxLen]) (by simp)
  exact this
end Go.Proofs.YtmfchcaidfloaaaDoor
namespace Go.Proofs.YtmfchcaidfloaaaDoor
open Go.ChangeShapes Go.WideShapes Go.ChangeAt Go.RowKit
set_option linter.unusedVariables false

theorem szI_ok (ao : Option Addr) (n c : Nat) (l : Int) (w : World) (h0 : 0 ≤ l) (hl : l ≤ 1048576) (hn : (n : Int) ≤ l) : Calls Tryd.prog 21 #[.slice ao n c, .int .i64 l] w fun e w' => e = .returned (.int .i64 (l - n)) ∧ w = w' := by
  have e1 : IntKind.i64.wrap (l - (n : Int)) = l - (n : Int) := IntWalk.i64_in _ (by omega)
  have e2 : decide (l - (n : Int) < 0) = false := by simp; omega
  go_enter Tryd.func21, Tryd.ntmps21
  go_wp2
  go_ret
  exact ⟨rfl, rfl⟩
theorem szI_no (ao : Option Addr) (n c : Nat) (l : Int) (w : World) (h0 : 0 ≤ l) (hl : l ≤ 1048576) (hn : l < (n : Int)) (hm : n ≤ 9223372036854775807) : Calls Tryd.prog 21 #[.slice ao n c, .int .i64 l] w fun e w' => e = .returned (.int .i64 (-1)) ∧ w = w' := by
  have e1 : IntKind.i64.wrap (l - (n : Int)) = l - (n : Int) := IntWalk.i64_in _ (by omega)
  have e2 : decide (l - (n : Int) < 0) = true := by simp; omega
  go_enter Tryd.func21, Tryd.ntmps21
  go_wp2
  go_ret
  exact ⟨rfl, rfl⟩
/-- A copy, as a slice that the call has made. -/
theorem own_copy {w : World} {base g n : Nat} {zs : List P2} (hz : n = zs.length) (hn : n ≤ 1048576) (hb : base ≤ g) (h : w.rowIs g 90 (n * 2) (ptF zs n)) : w.ownsRow base 90 2 (.slice (some ⟨g, 0, none⟩) n n) n (flatP zs) := by
  obtain ⟨c, h1, h2, h3⟩ := h
  refine ⟨by rw [flatP_len, hz], Or.inr ⟨g, n, c, rfl, hb, h1, Nat.le_refl _, by unfold maxLen; omega, h2, ?_⟩⟩
  apply List.ext_getElem?
  intro j
  by_cases hj : j < n * 2
  · rw [List.getElem?_take_of_lt hj, Array.getElem?_toList, h3 j hj]
    have hk : j / 2 < zs.length := by omega
    have := flatP_at hk
    unfold ptF
    rw [if_pos hj]
    rcases Nat.mod_two_eq_zero_or_one j with hm | hm
    · have ej : j / 2 * 2 = j := by omega
      rw [ej] at this
      rw [if_pos hm, ← ej]; simpa [ej] using this.1.symm
    · have ej : j / 2 * 2 + 1 = j := by omega
      rw [ej] at this
      rw [if_neg (by omega), ← ej]; simpa [ej] using this.2.symm
  · rw [List.getElem?_take, if_neg hj, List.getElem?_eq_none (by rw [flatP_len]; omega)]
theorem own_PV {w : World} {base n : Nat} {v : Value} {zs : List P2} (h : w.ownsRow base 90 2 v n (flatP zs)) : ∃ ao cap, v = .slice ao n cap ∧ n ≤ cap ∧ PV w ao n zs := by
  have hl : zs.length * 2 = n * 2 := by rw [← flatP_len]; exact h.1
  have hz : n = zs.length := by omega
  rcases id h with ⟨_, ⟨rfl, h0⟩ | ⟨g, cap, cur, rfl, hb, hg, hc1, hc2, _⟩⟩
  · exact ⟨none, 0, by rw [h0], by omega, hz, Or.inl h0⟩
  · subst hz
    exact ⟨_, cap, rfl, hc1, pts_PV rfl (own_pts h)⟩
set_option maxRecDepth 100000 in
set_option maxHeartbeats 1000000 in
theorem toPts_own (ao : Option Addr) (n c : Nat) (zs : List P2) (w : World) (hn : n ≤ 1048576) (hv : LView w ao n zs) :
    Calls Tryd.prog 23 #[.slice ao n c] w fun e w' => ∃ g, e = .returned (.slice (some ⟨g, 0, none⟩) n n) ∧ w'.ownsRow w.heap.size 90 2 (.slice (some ⟨g, 0, none⟩) n n) n (flatP zs) ∧ PV w' (some ⟨g, 0, none⟩) n zs ∧ Below w.heap.size w w' :=
  (toPoints_any ao n c zs w hn hv).mono fun _ _ ⟨g, h1, h2, h3, h4⟩ => ⟨g, h1, own_copy hv.1 hn h2 h3, pts_PV hv.1 (rowIs_pts hv.1 h3), h4⟩
theorem ne_block {w1 w' : World} {b1 b2 e1 e2 n m : Nat} {s1 s2 : Nat} {v u : Value} {xs ys : List Value} (h1 : w1.ownsRow b1 e1 s1 v n xs) (hb : w1.heap.size ≤ b2) (h2 : w'.ownsRow b2 e2 s2 u m ys) : u.ownBlock = none ∨ u.ownBlock ≠ v.ownBlock := by
  cases hu : u.ownBlock with
  | none => exact Or.inl rfl
  | some k =>
    refine Or.inr fun h => ?_
    have := (World.ownsRow.lt h1 k h.symm).2
    have := (World.ownsRow.lt h2 k hu).1
    omega
theorem ne_symm {u v : Value} (h : u.ownBlock = none ∨ u.ownBlock ≠ v.ownBlock) : v.ownBlock = none ∨ v.ownBlock ≠ u.ownBlock := by
  rcases h with h | h
  · cases hv : v.ownBlock with
    | none => exact Or.inl rfl
    | some k => exact Or.inr (by rw [h]; simp)
  · exact Or.inr (Ne.symm h)
theorem own_slice {w' : World} {base : Nat} {v : Value} {zs : List P2} (h : w'.ownsRow base 90 2 v zs.length (flatP zs)) : ∃ ao cap, v = .slice ao zs.length cap ∧ PV w' ao zs.length zs := by
  obtain ⟨ao, cap, h1, _, h2⟩ := own_PV h
  exact ⟨ao, cap, h1, h2⟩
theorem own_pv' {w' : World} {base n cap : Nat} {ao : Option Addr} {zs : List P2} (h : w'.ownsRow base 90 2 (.slice ao n cap) n (flatP zs)) : PV w' ao n zs := by
  obtain ⟨a, c, h1, _, h2⟩ := own_PV h
  cases h1
  exact h2
end Go.Proofs.YtmfchcaidfloaaaDoor
namespace Go.Proofs.YtmfchcaidfloaaaDoor
open Go.ChangeShapes Go.WideShapes Go.ChangeAt Go.RowKit
set_option linter.unusedVariables false
set_option linter.unusedSimpArgs false

/-- The points when i pairs have changed places. -/
def revF (zs : List P2) (i k : Nat) : P2 := if k = 0 then zs.getD 0 (0, 0) else if k ≤ i ∨ zs.length - i ≤ k then zs.getD (zs.length - k) (0, 0) else zs.getD k (0, 0)
/-- The block holds these points. -/
structure ArrP (w0 wr : World) (b n : Nat) (f : Nat → P2) : Prop where
  below : Below w0.heap.size w0 wr
  arr : ∃ cur : Array Value, wr.heap[b]? = some (.cells cur 90 (0, 0)) ∧ cur.size = n * 2 ∧ ∀ j, j < n → cur[j * 2]? = some (.int .i64 (f j).1) ∧ cur[j * 2 + 1]? = some (.int .i64 (f j).2)
theorem storedA {w : World} {p : Nat} {cur : Array Value} {t : TypeId} {x y : Value} {i : Nat} (h : w.heap[p]? = some (.cells cur t (0, 0))) : Stored p (.cells ((cur.setIfInBounds i x).setIfInBounds (i + 1) y) t (0, 0)) w ((w.setCell ⟨p, i, none⟩ x).setCell ⟨p, i + 1, none⟩ y) := by
  have h0 := heap_setCell_same _ p i _ _ x h
  have h1 := heap_setCell_same _ p (i + 1) _ _ y h0
  refine ⟨rfl, rfl, rfl, ?_, h1, fun k hk => ?_⟩
  · simp [World.setCell]
  · rw [Below.heap_setCell _ _ _ _ (by simpa using hk), Below.heap_setCell _ _ _ _ (by simpa using hk)]
theorem swap_at {cur : Array Value} {zs : List P2} {n i : Nat} (hz : n = zs.length) (hi : 2 * i + 2 < n) (hs : cur.size = n * 2) (hf : ∀ j, j < n → cur[j * 2]? = some (.int .i64 (revF zs i j).1) ∧ cur[j * 2 + 1]? = some (.int .i64 (revF zs i j).2)) (j : Nat) (hj : j < n) :
    ((((cur.setIfInBounds ((i + 1) * 2) (.int .i64 (zs.getD (n - 1 - i) (0, 0)).1)).setIfInBounds ((i + 1) * 2 + 1) (.int .i64 (zs.getD (n - 1 - i) (0, 0)).2)).setIfInBounds ((n - 1 - i) * 2) (.int .i64 (zs.getD (i + 1) (0, 0)).1)).setIfInBounds ((n - 1 - i) * 2 + 1) (.int .i64 (zs.getD (i + 1) (0, 0)).2))[j * 2]? = some (.int .i64 (revF zs (i + 1) j).1) ∧
    ((((cur.setIfInBounds ((i + 1) * 2) (.int .i64 (zs.getD (n - 1 - i) (0, 0)).1)).setIfInBounds ((i + 1) * 2 + 1) (.int .i64 (zs.getD (n - 1 - i) (0, 0)).2)).setIfInBounds ((n - 1 - i) * 2) (.int .i64 (zs.getD (i + 1) (0, 0)).1)).setIfInBounds ((n - 1 - i) * 2 + 1) (.int .i64 (zs.getD (i + 1) (0, 0)).2))[j * 2 + 1]? = some (.int .i64 (revF zs (i + 1) j).2) := by
  have hp : revF zs (i + 1) (i + 1) = zs.getD (n - 1 - i) (0, 0) := by
    unfold revF
    rw [if_neg (by omega), if_pos (Or.inl (Nat.le_refl _)), ← hz, show n - (i + 1) = n - 1 - i by omega]
  have hq : revF zs (i + 1) (n - 1 - i) = zs.getD (i + 1) (0, 0) := by
    unfold revF
    rw [if_neg (by omega), if_pos (Or.inr (by omega)), ← hz, show n - (n - 1 - i) = i + 1 by omega]
  have ho : ∀ k, k < n → k ≠ i + 1 → k ≠ n - 1 - i → revF zs (i + 1) k = revF zs i k := fun k hk h1 h2 => by
    unfold revF
    by_cases h0 : k = 0
    · rw [if_pos h0, if_pos h0]
    · rw [if_neg h0, if_neg h0]
      by_cases h3 : k ≤ i ∨ zs.length - i ≤ k
      · rw [if_pos h3, if_pos (by omega)]
      · rw [if_neg h3, if_neg (by omega)]
  by_cases e1 : j = i + 1
  · subst e1
    rw [hp]
    refine ⟨?_, ?_⟩
    · rw [Array.getElem?_setIfInBounds_ne (by omega), Array.getElem?_setIfInBounds_ne (by omega), Array.getElem?_setIfInBounds_ne (by omega)]
      rw [Array.getElem?_setIfInBounds_self_of_lt (by simp only [Array.size_setIfInBounds, hs]; omega)]
    · rw [Array.getElem?_setIfInBounds_ne (by omega), Array.getElem?_setIfInBounds_ne (by omega)]
      rw [Array.getElem?_setIfInBounds_self_of_lt (by simp only [Array.size_setIfInBounds, hs]; omega)]
  · by_cases e2 : j = n - 1 - i
    · subst e2
      rw [hq]
      refine ⟨?_, ?_⟩
      · rw [Array.getElem?_setIfInBounds_ne (by omega)]
        rw [Array.getElem?_setIfInBounds_self_of_lt (by simp only [Array.size_setIfInBounds, hs]; omega)]
      · rw [Array.getElem?_setIfInBounds_self_of_lt (by simp only [Array.size_setIfInBounds, hs]; omega)]
    · rw [ho j hj e1 e2]
      refine ⟨?_, ?_⟩
      · rw [Array.getElem?_setIfInBounds_ne (by omega), Array.getElem?_setIfInBounds_ne (by omega), Array.getElem?_setIfInBounds_ne (by omega), Array.getElem?_setIfInBounds_ne (by omega)]
        exact (hf j hj).1
      · rw [Array.getElem?_setIfInBounds_ne (by omega), Array.getElem?_setIfInBounds_ne (by omega), Array.getElem?_setIfInBounds_ne (by omega), Array.getElem?_setIfInBounds_ne (by omega)]
        exact (hf j hj).2
end Go.Proofs.YtmfchcaidfloaaaDoor
namespace Go.Proofs.YtmfchcaidfloaaaDoor
open Go.ChangeShapes Go.WideShapes Go.ChangeAt Go.RowKit
set_option linter.unusedVariables false
set_option linter.unusedSimpArgs false

def shiftR (zs : List P2) (dx dy : Int) : List P2 × Int := if polyB zs then (if inI dx (-20000) 20000 && inI dy (-20000) 20000 then (if polyB (shiftL zs dx dy) then (shiftL zs dx dy, 0) else ([], 6)) else ([], 2)) else ([], 1)
theorem newP_own {w w' : World} {v : Value} {zs : List P2} (h : NewP w w' v zs) : ∃ ao cap, v = .slice ao zs.length cap ∧ PV w' ao zs.length zs ∧ w'.ownsRow w.heap.size 90 2 (.slice ao zs.length cap) zs.length (flatP zs) := by
  obtain ⟨ao, cap, rfl, hp⟩ := h.pv
  exact ⟨ao, cap, rfl, hp, h.1⟩
theorem startR_len (zs : List P2) (k : Int) : (startR zs k).1.length ≤ 1000 := by
  unfold startR
  split
  · rename_i h
    have := poly_ok h
    split
    · rename_i h2
      have := in_bd h2
      show (rotL zs k.toNat).length ≤ 1000
      rw [rotL_len _ _ (by omega)]; omega
    · simp
  · simp
theorem shiftR_len (zs : List P2) (dx dy : Int) : (shiftR zs dx dy).1.length ≤ 1000 := by
  unfold shiftR
  split
  · rename_i h
    have := poly_ok h
    split
    · split
      · show (shiftL zs dx dy).length ≤ 1000
        rw [shiftL_len]; omega
      · simp
    · simp
  · simp
end Go.Proofs.YtmfchcaidfloaaaDoor
