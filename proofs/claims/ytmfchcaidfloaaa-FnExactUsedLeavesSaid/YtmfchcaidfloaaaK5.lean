/- Several texts in one: Apart, IsApart, PolyValid, PtArg, Again, PolyArg, OwnP. -/
import Derived.Test.YtmfchcaidfloaaaK2
import Derived.Test.YtmfchcaidfloaaaK1
import Derived.Test.YtmfchcaidfloaaaProg
import Derived.Lib.SmallJoins
import Derived.ChangeStays
import Derived.ReadAgain
import Derived.Deep.Slices
import Derived.Deep.OwnRows
import Derived.LoopTactic
import Derived.Test.YtmfchcaidfloaaaK3
import Derived.Laws.OwnMore
namespace Go.Proofs.Ytmfchcaidfloaaa
open Go.ChangeShapes Go.WideShapes Go.ChangeAt Go.RowKit
set_option linter.unusedVariables false

theorem segCs_at (zs : List P2) (pre : List Nat) (j r : Nat) (hj : j < pre.length) (hr : r < 4) : (segCs zs pre)[j * 4 + r]? = (segC zs (pre.getD j 0))[r]? := by
  induction pre generalizing j with
  | nil => simp at hj
  | cons a l ih =>
    have e : segCs zs (a :: l) = segC zs a ++ segCs zs l := by simp [segCs]
    rw [e]
    match j with
    | 0 =>
      rw [List.getElem?_append_left (by simp [segC]; omega)]
      simp
    | j + 1 =>
      rw [List.getElem?_append_right (by simp [segC]; omega)]
      rw [show (j + 1) * 4 + r - (segC zs a).length = j * 4 + r by simp [segC]; omega, ih j (by simpa using hj)]
      simp
/-- The edges of a polygon lie in a row from the start of block g. -/
def SegsAt (w : World) (g : Nat) (zs : List P2) (len : Nat) : Prop := g < w.heap.size ∧ ∀ k, k < len → w.cell? ⟨g, k * 4, none⟩ = some (.int .i64 (pt zs k).1) ∧ w.cell? ⟨g, k * 4 + 1, none⟩ = some (.int .i64 (pt zs k).2) ∧ w.cell? ⟨g, k * 4 + 2, none⟩ = some (.int .i64 (pt zs (k + 1)).1) ∧ w.cell? ⟨g, k * 4 + 3, none⟩ = some (.int .i64 (pt zs (k + 1)).2)
theorem SegsAt.below {B g len : Nat} {w w' : World} {zs : List P2} (h : SegsAt w g zs len) (hb : Below B w w') (hB : g < B) : SegsAt w' g zs len :=
  ⟨Nat.lt_of_lt_of_le h.1 hb.size, fun k hk => by
    obtain ⟨c0, c1, c2, c3⟩ := h.2 k hk
    exact ⟨(hb.cell (p := ⟨g, k * 4, none⟩) hB).trans c0, (hb.cell (p := ⟨g, k * 4 + 1, none⟩) hB).trans c1, (hb.cell (p := ⟨g, k * 4 + 2, none⟩) hB).trans c2, (hb.cell (p := ⟨g, k * 4 + 3, none⟩) hB).trans c3⟩⟩
/-- The first index that meets f, or -1. -/
def firstIx (f : Nat → Bool) : Nat → Int
  | 0 => -1
  | n + 1 => if 0 ≤ firstIx f n then firstIx f n else if f n then n else -1
theorem firstIx_none {f : Nat → Bool} {n : Nat} (h : ∀ j, j < n → f j = false) : firstIx f n = -1 := by
  induction n with
  | zero => rfl
  | succ n ih => simp [firstIx, ih (fun j hj => h j (by omega)), h n (by omega)]
theorem firstIx_at {f : Nat → Bool} {k : Nat} (h : ∀ j, j < k → f j = false) (hf : f k = true) : ∀ n, k < n → firstIx f n = k := by
  intro n
  induction n with
  | zero => intro h; omega
  | succ n ih =>
    intro hk
    rcases Nat.lt_succ_iff_lt_or_eq.1 hk with h1 | rfl
    · rw [firstIx, ih h1, if_pos (by omega)]
    · rw [firstIx, firstIx_none h, if_neg (by omega), hf, if_pos rfl]
theorem firstIx_rng (f : Nat → Bool) (n : Nat) : -1 ≤ firstIx f n ∧ firstIx f n < n := by
  induction n with
  | zero => simp [firstIx]
  | succ n ih => simp only [firstIx]; split <;> (try split) <;> omega
def anyTo (f : Nat → Bool) (n : Nat) : Bool := !allTo (fun j => !f j) n
theorem firstIx_ge (f : Nat → Bool) (n : Nat) : decide (0 ≤ firstIx f n) = anyTo f n := by
  unfold anyTo
  induction n with
  | zero => rfl
  | succ n ih =>
    show decide (0 ≤ firstIx f (n + 1)) = !(allTo (fun j => !f j) n && !f n)
    rw [Bool.not_and, ← ih]
    have e : firstIx f (n + 1) = if 0 ≤ firstIx f n then firstIx f n else if f n then n else -1 := rfl
    by_cases h : 0 ≤ firstIx f n
    · rw [e, if_pos h]; simp [h]
    · rw [e, if_neg h]
      cases f n <;> simp [h]
def tcF (zs : List P2) (i s j : Nat) : Bool := tcP (pt zs i) (pt zs (i + 1)) (pt zs (s + j)) (pt zs (s + j + 1))
end Go.Proofs.Ytmfchcaidfloaaa
namespace Go.Proofs.Ytmfchcaidfloaaa
open Go.ChangeShapes Go.WideShapes Go.ChangeAt Go.RowKit
set_option linter.unusedVariables false

theorem cells_any (zs : List P2) (i s m : Nat) (h3 : 3 ≤ zs.length) (hi : i < zs.length) (hs : s = min (i + 2) zs.length) (hm : m = if i = 0 then zs.length - 3 else zs.length - s) : allTo (cellOk zs i) zs.length = !anyTo (tcF zs i s) m := by
  unfold anyTo
  rw [Bool.not_not, Bool.eq_iff_iff, allTo_iff, allTo_iff]
  constructor
  · intro h j hj
    have hsj : s = i + 2 := by split at hm <;> omega
    have hk : s + j < zs.length := by split at hm <;> omega
    have h1 := h (s + j) hk
    unfold cellOk at h1
    rw [decide_eq_true (by omega), Bool.true_and] at h1
    have hne : (s + j + 1) % zs.length ≠ i := by
      by_cases he : s + j + 1 = zs.length
      · rw [he, Nat.mod_self]; split at hm <;> omega
      · rw [Nat.mod_eq_of_lt (by omega)]; omega
    rw [decide_eq_true hne, Bool.true_and] at h1
    exact h1
  · intro h k hk
    unfold cellOk
    by_cases hik : i + 2 ≤ k
    · by_cases hne : (k + 1) % zs.length = i
      · simp [hne]
      · have hsj : s = i + 2 := by omega
        have hkm : k - s < m := by
          by_cases he : k + 1 = zs.length
          · rw [he, Nat.mod_self] at hne; rw [if_neg (by omega)] at hm; omega
          · split at hm <;> omega
        have h1 := h (k - s) hkm
        unfold tcF at h1
        rw [show s + (k - s) = k by omega] at h1
        simp only [Bool.not_and, Bool.or_eq_true]
        right
        exact h1
    · simp [hik]
def apTo (zs : List P2) (i : Nat) : Bool := allTo (cellOk zs i) zs.length
theorem apB_bad {zs : List P2} {i : Nat} (hi : i < zs.length) (h : apTo zs i = false) : apB zs = false := allTo_bad hi h
theorem apB_end {zs : List P2} {k : Nat} (hk : zs.length ≤ k) (h : allTo (apTo zs) k = true) : apB zs = true := allTo_ok fun j hj => (allTo_iff _ _).1 h j (by omega)
end Go.Proofs.Ytmfchcaidfloaaa
namespace Go.Proofs.Ytmfchcaidfloaaa
open Go.ChangeShapes Go.WideShapes Go.ChangeAt Go.RowKit
set_option linter.unusedVariables false

/-- A slice of points at the start of a block, or an empty one. -/
def PV (w : World) (ao : Option Addr) (len : Nat) (zs : List P2) : Prop := len = zs.length ∧ (len = 0 ∨ ∃ b, ao = some ⟨b, 0, none⟩ ∧ PtsAt w b zs)
theorem PV.below {w w' : World} {ao : Option Addr} {len : Nat} {zs : List P2} (h : PV w ao len zs) (hb : Below w.heap.size w w') : PV w' ao len zs :=
  ⟨h.1, h.2.imp id fun ⟨b, e, hp⟩ => ⟨b, e, hp.below hb hp.1⟩⟩
theorem PV.at {w : World} {ao : Option Addr} {len : Nat} {zs : List P2} (h : PV w ao len zs) (h1 : 1 ≤ len) : ∃ b, ao = some ⟨b, 0, none⟩ ∧ PtsAt w b zs := h.2.resolve_left (by omega)
theorem pts_PV {w : World} {b len : Nat} {zs : List P2} (hz : len = zs.length) (h : PtsAt w b zs) : PV w (some ⟨b, 0, none⟩) len zs := ⟨hz, Or.inr ⟨b, rfl, h⟩⟩
end Go.Proofs.Ytmfchcaidfloaaa
namespace Go.Proofs.Ytmfchcaidfloaaa
open Go.ChangeShapes Go.WideShapes Go.ChangeAt Go.RowKit Go.Joins

end Go.Proofs.Ytmfchcaidfloaaa
namespace Go.Proofs.Ytmfchcaidfloaaa
open Go.ChangeShapes Go.WideShapes Go.ChangeAt Go.RowKit Go.Joins Go.Deep

theorem kids : Kids Try.prog (· < Try.prog.types.size) := kids_rows (by kernel_rfl) (by kernel_rfl)
theorem full : ∀ t e, t < Try.prog.types.size → Try.prog.underlying t = some (.slice e) → 0 < Try.prog.cellsOf e := slices_full_of _ (by kernel_rfl)
theorem sameAt_below {B : Nat} {w w' : World} (h : Below B w w') {p : MemPlace} (hp : p.block < B) : w.sameAt w' p := by
  cases p with
  | cell b o => exact World.cell?_of_block (w := w) (h.block b hp)
  | map b => exact h.block b hp
theorem trod_again {H : Type} {enc : TypeId × Value → H} {W W' : World} {t : TypeId} {v : Value} {d : DataW H} {p : List MemPlace} (ht : t < Try.prog.types.size)
    (h : DataW.Trod enc Try.prog W 0 (fun _ => true) true t v d p) (hlt : ∀ x ∈ p, x.block < W.heap.size) (hb : Below W.heap.size W W') (sp : Nat → Bool) (hsp : ∀ x ∈ p, sp x.block = true) : DataW.Trod enc Try.prog W' 0 sp true t v d p := by
  obtain ⟨n, hn⟩ := h
  exact ⟨n, DataW.trod_stays kids (fun ht he => full _ _ ht he) (fun h => by cases h) ht hn (fun x hx => sameAt_below hb (hlt x hx)) hsp⟩

/-- A slice of points that came in: n of them, at a place of a block. -/
def LView (w : World) (ao : Option Addr) (n : Nat) (zs : List P2) : Prop := n = zs.length ∧ (n = 0 ∨ ∃ b off, ao = some ⟨b, off, none⟩ ∧ b < w.heap.size ∧ ∀ j, j < n → w.cell? ⟨b, off + j * 2, none⟩ = some (.int .i64 (zs.getD j (0, 0)).1) ∧ w.cell? ⟨b, off + j * 2 + 1, none⟩ = some (.int .i64 (zs.getD j (0, 0)).2))
theorem LView.below {w w' : World} {ao : Option Addr} {n : Nat} {zs : List P2} (h : LView w ao n zs) (hb : Below w.heap.size w w') : LView w' ao n zs :=
  ⟨h.1, h.2.imp id fun ⟨b, off, e, h1, h2⟩ => ⟨b, off, e, Nat.lt_of_lt_of_le h1 hb.size, fun j hj => ⟨(hb.cell (p := ⟨b, off + j * 2, none⟩) h1).trans (h2 j hj).1, (hb.cell (p := ⟨b, off + j * 2 + 1, none⟩) h1).trans (h2 j hj).2⟩⟩⟩
theorem add_off (b off j : Nat) : Addr.add ⟨b, off, none⟩ j = ⟨b, off + j, none⟩ := by
  unfold Addr.add
  split
  · subst_vars; rfl
  · simp
end Go.Proofs.Ytmfchcaidfloaaa
namespace Go.Proofs.Ytmfchcaidfloaaa
open Go.ChangeShapes Go.WideShapes Go.ChangeAt Go.RowKit
set_option linter.unusedVariables false

theorem info_pt : (Try.prog.info? 57).map (fun i => (i.zero, i.size, i.bytes)) = some (some (.agg #[.int .i64 0, .int .i64 0]), 2, 16) := by kernel_rfl
theorem make_pts (n : Nat) (hn : n ≤ 1048576) (w : World) : (Instr.makeSlice 104 (.int .i64 (n : Int)) (.int .i64 (n : Int))).run Try.prog w = .ok (.slice (some ⟨w.heap.size, 0, none⟩) n n) (w.alloc (.cells (madeCells #[.int .i64 0, .int .i64 0] (n * 2)) 57)) := by
  obtain ⟨i0, hi, hz0, hz1, hz2⟩ := info_parts info_pt
  have h := run_make (P := Try.prog) w 104 57 i0 _ Try.underlying104 hi hz0 .i64 .i64 n n (by omega) (by omega) (by rw [hz2]; omega) (by omega)
  rw [hz1, show (Value.agg #[.int .i64 0, .int .i64 0]).cells = #[.int .i64 0, .int .i64 0] from rfl] at h
  simpa using h
/-- The cells of a row of points, of which the first k are laid. -/
def ptF (zs : List P2) (k j : Nat) : Value := if j < k * 2 then (if j % 2 = 0 then .int .i64 (zs.getD (j / 2) (0, 0)).1 else .int .i64 (zs.getD (j / 2) (0, 0)).2) else .int .i64 0
theorem made_pts (w : World) (n : Nat) (zs : List P2) (t : TypeId) : (w.alloc (.cells (madeCells #[.int .i64 0, .int .i64 0] (n * 2)) t)).rowIs w.heap.size t (n * 2) (ptF zs 0) := by
  have h := World.rowIs_alloc w (madeCells #[.int .i64 0, .int .i64 0] (n * 2)) t (ptF zs 0) (fun i hi => by
    rw [size_madeCells] at hi
    have h2 : i % 2 = 0 ∨ i % 2 = 1 := by omega
    rcases h2 with h2 | h2 <;> simp [madeCells, hi, ptF, h2])
  rw [size_madeCells] at h
  exact h
theorem ptF_step {zs : List P2} {k : Nat} {x y : Int} (h : zs.getD k (0, 0) = (x, y)) (j : Nat) : (if j = k * 2 + 1 then Value.int .i64 y else if j = k * 2 then Value.int .i64 x else ptF zs k j) = ptF zs (k + 1) j := by
  unfold ptF
  by_cases h1 : j = k * 2 + 1
  · subst h1
    have a1 : (k * 2 + 1) / 2 = k := by omega
    have a2 : (k * 2 + 1) % 2 = 1 := by omega
    rw [if_pos rfl, if_pos (by omega), a1, a2, h]; rfl
  · rw [if_neg h1]
    by_cases h2 : j = k * 2
    · subst h2
      have a1 : (k * 2) / 2 = k := by omega
      have a2 : (k * 2) % 2 = 0 := by omega
      rw [if_pos rfl, if_pos (by omega), a1, a2, h]; rfl
    · rw [if_neg h2]
      by_cases h3 : j < k * 2
      · rw [if_pos h3, if_pos (show j < (k + 1) * 2 by omega)]
      · rw [if_neg h3, if_neg (show ¬ j < (k + 1) * 2 by omega)]
theorem rowIs_below {w w' : World} {b n : Nat} {t : TypeId} {f : Nat → Value} (h : w.rowIs b t n f) (hb : Below w.heap.size w w') : w'.rowIs b t n f := h.of_block (hb.block b h.lt)
theorem rowIs_pts {w : World} {b n : Nat} {t : TypeId} {zs : List P2} (hz : n = zs.length) (h : w.rowIs b t (n * 2) (ptF zs n)) : PtsAt w b zs := by
  refine ⟨h.lt, fun j hj => ?_⟩
  have h1 := h.cell (i := j * 2) (by omega)
  have h2 := h.cell (i := j * 2 + 1) (by omega)
  have a1 : (j * 2) / 2 = j := by omega
  have a2 : (j * 2) % 2 = 0 := by omega
  have a3 : (j * 2 + 1) / 2 = j := by omega
  have a4 : (j * 2 + 1) % 2 = 1 := by omega
  rw [ptF, if_pos (by omega), a1, a2] at h1
  rw [ptF, if_pos (by omega), a3, a4] at h2
  exact ⟨h1, h2⟩
def CopyPost (n : Nat) (zs : List P2) (w : World) (e : Ending) (w' : World) : Prop := ∃ g, e = .returned (.slice (some ⟨g, 0, none⟩) n n) ∧ w.heap.size ≤ g ∧ w'.rowIs g 57 (n * 2) (ptF zs n) ∧ Below w.heap.size w w'
end Go.Proofs.Ytmfchcaidfloaaa
namespace Go.Proofs.Ytmfchcaidfloaaa
open Go.ChangeShapes Go.WideShapes Go.ChangeAt Go.RowKit
set_option linter.unusedVariables false
set_option linter.unusedSimpArgs false

def flatP (zs : List P2) : List Value := zs.flatMap fun z => [.int .i64 z.1, .int .i64 z.2]
theorem flatP_len (zs : List P2) : (flatP zs).length = zs.length * 2 := by
  induction zs with
  | nil => rfl
  | cons z l ih => show (flatP l).length + 2 = _; rw [ih]; simp only [List.length_cons]; omega
theorem flatP_app (xs ys : List P2) : flatP (xs ++ ys) = flatP xs ++ flatP ys := by simp [flatP]
theorem flatP_at {zs : List P2} : ∀ {k : Nat}, k < zs.length → (flatP zs)[k * 2]? = some (.int .i64 (zs.getD k (0, 0)).1) ∧ (flatP zs)[k * 2 + 1]? = some (.int .i64 (zs.getD k (0, 0)).2) := by
  induction zs with
  | nil => intro k h; simp at h
  | cons z l ih =>
    intro k h
    match k, h with
    | 0, _ => exact ⟨rfl, rfl⟩
    | k + 1, h =>
      have h1 := ih (k := k) (by simpa using h)
      have e1 : (k + 1) * 2 = k * 2 + 2 := by omega
      have e2 : (k + 1) * 2 + 1 = k * 2 + 1 + 2 := by omega
      refine ⟨?_, ?_⟩
      · rw [e1]; simpa [flatP] using h1.1
      · rw [e2]; simpa [flatP] using h1.2
theorem flatP_one {zs : List P2} : ∀ u ∈ flatP zs, u.oneCell' = true := by
  intro u hu
  unfold flatP at hu
  obtain ⟨z, _, hz⟩ := List.mem_flatMap.1 hu
  simp at hz
  rcases hz with rfl | rfl <;> rfl
theorem add_lit (g s j : Nat) : Addr.add ⟨g, s, none⟩ j = ⟨g, s + j, none⟩ := by
  unfold Addr.add
  split
  · subst_vars; rfl
  · simp
/-- A piece of the points, as cells from its first one on. -/
theorem pts_cells {w : World} {b : Nat} {zs : List P2} (h : PtsAt w b zs) {s m : Nat} (hs : s + m ≤ zs.length) : ∀ j u, (flatP ((zs.drop s).take m))[j]? = some u → w.cell? (Addr.add ⟨b, s * 2, none⟩ j) = some u := by
  intro j u hj
  have hl : j < m * 2 := by
    have := (List.getElem?_eq_some_iff.1 hj).1
    rw [flatP_len, List.length_take, List.length_drop] at this
    omega
  have hk : j / 2 < ((zs.drop s).take m).length := by rw [List.length_take, List.length_drop]; omega
  have e : ((zs.drop s).take m).getD (j / 2) (0, 0) = zs.getD (s + j / 2) (0, 0) := by
    simp only [List.getD_eq_getElem?_getD, List.getElem?_take, List.getElem?_drop]
    rw [if_pos (by omega)]
  have h1 := flatP_at hk
  have h2 := h.2 (s + j / 2) (by omega)
  rw [e] at h1
  rw [add_lit]
  rcases Nat.mod_two_eq_zero_or_one j with hm | hm
  · have ej : j = j / 2 * 2 := by omega
    rw [show s * 2 + j = (s + j / 2) * 2 by omega, h2.1]
    rw [ej, h1.1] at hj
    exact hj
  · have ej : j = j / 2 * 2 + 1 := by omega
    rw [show s * 2 + j = (s + j / 2) * 2 + 1 by omega, h2.2]
    rw [ej, h1.2] at hj
    exact hj
/-- The call that began in w has made a slice of these points. -/
def NewP (w w' : World) (v : Value) (zs : List P2) : Prop := w'.ownsRow w.heap.size 57 2 v zs.length (flatP zs) ∧ Below w.heap.size w w'
def NewPost (zs : List P2) (w : World) (e : Ending) (w' : World) : Prop := ∃ v, e = .returned v ∧ NewP w w' v zs
theorem own_pts {w : World} {base g cap : Nat} {zs : List P2} (h : w.ownsRow base 57 2 (.slice (some ⟨g, 0, none⟩) zs.length cap) zs.length (flatP zs)) : PtsAt w g zs := by
  refine ⟨(h.lt g rfl).2, fun j hj => ?_⟩
  have h1 := flatP_at hj
  exact ⟨(h.cellAt (j * 2) (by omega)).trans h1.1, (h.cellAt (j * 2 + 1) (by omega)).trans h1.2⟩
theorem own_at {w : World} {base : Nat} {v : Value} {zs : List P2} (h1 : 1 ≤ zs.length) (h : w.ownsRow base 57 2 v zs.length (flatP zs)) :
    ∃ g cap, v = .slice (some ⟨g, 0, none⟩) zs.length cap ∧ base ≤ g ∧ zs.length ≤ cap ∧ cap ≤ maxLen ∧ PtsAt w g zs := by
  rcases id h with ⟨_, ⟨_, h0⟩ | ⟨g, cap, cur, rfl, hb, hg, hc1, hc2, _⟩⟩
  · omega
  · exact ⟨g, cap, rfl, hb, hc1, hc2, own_pts h⟩
theorem NewP.pv {w w' : World} {v : Value} {zs : List P2} (h : NewP w w' v zs) : ∃ ao cap, v = .slice ao zs.length cap ∧ PV w' ao zs.length zs := by
  by_cases h1 : 1 ≤ zs.length
  · obtain ⟨g, cap, rfl, _, _, _, hp⟩ := own_at h1 h.1
    exact ⟨_, _, rfl, pts_PV rfl hp⟩
  · rcases h.1 with ⟨_, ⟨rfl, _⟩ | ⟨g, cap, cur, rfl, _⟩⟩
    · exact ⟨none, 0, by rw [show zs.length = 0 by omega], rfl, Or.inl (by omega)⟩
    · exact ⟨_, _, rfl, rfl, Or.inl (by omega)⟩
theorem grown_below {w w' : World} {row : Option Nat} {B : Nat} (h : w.grownBy w' row) (hB : B ≤ w.heap.size) (hr : ∀ k, row = some k → B ≤ k) : Below B w w' :=
  ⟨h.os, h.tape, h.output, h.size, fun k hk => h.block k (by omega) (fun e => by have := hr k e.symm; omega)⟩
/-- The points from number k on, and then those before it. -/
def rotL (zs : List P2) (k : Nat) : List P2 := zs.drop k ++ zs.take k
theorem rotL_len (zs : List P2) (k : Nat) (hk : k ≤ zs.length) : (rotL zs k).length = zs.length := by simp [rotL]; omega
theorem rotL_flat (zs : List P2) (k : Nat) : flatP (rotL zs k) = flatP ((zs.drop k).take (zs.length - k)) ++ flatP ((zs.drop 0).take k) := by
  rw [rotL, flatP_app, List.drop_zero]
  congr 2
  rw [List.take_of_length_le (by simp)]
end Go.Proofs.Ytmfchcaidfloaaa
