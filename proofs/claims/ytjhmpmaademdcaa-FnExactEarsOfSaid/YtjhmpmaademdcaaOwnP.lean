/- Slices of points that a call has made; a list of points that begins with another one, of spec. -/
import Derived.Test.YtjhmpmaademdcaaPolyArg
import Derived.Test.YtjhmpmaademdcaaK3
import Derived.Laws.OwnMore
namespace Go.Proofs.Ytjhmpmaademdcaa
open Go.ChangeShapes Go.WideShapes Go.ChangeAt Go.RowKit
set_option linter.unusedVariables false
set_option linter.unusedSimpArgs false

def flatP (zs : List P2) : List Value := zs.flatMap fun z => [.int .i64 z.1, .int .i64 z.2]
theorem flatP_len (zs : List P2) : (flatP zs).length = zs.length * 2 := by
  induction zs with
  | nil => rfl
  | cons z l ih => show (flatP l).length + 2 = _; rw [ih]; simp only [List.length_cons]; omega
theorem flatP_app (xs ys : List P2) : flatP (xs ++ ys) = flatP xs ++ flatP ys := by simp [flatP]
theorem flatP_at {zs : List P2} : ∀ {k : Nat}, k < zs.length → (flatP zs)[k * 2]? = some (.int .i64 (zs.getD k (0, 0)).1) ∧ (flatP zs)[k * 2 + 1]? = some (.int .i64 (zs.getD k (0, 0)).2) := by
  induction zs with
  | nil => intro k h; simp at h
  | cons z l ih =>
    intro k h
    match k, h with
    | 0, _ => exact ⟨rfl, rfl⟩
    | k + 1, h =>
      have h1 := ih (k := k) (by simpa using h)
      have e1 : (k + 1) * 2 = k * 2 + 2 := by omega
      have e2 : (k + 1) * 2 + 1 = k * 2 + 1 + 2 := by omega
      refine ⟨?_, ?_⟩
      · rw [e1]; simpa [flatP] using h1.1
      · rw [e2]; simpa [flatP] using h1.2
theorem flatP_one {zs : List P2} : ∀ u ∈ flatP zs, u.oneCell' = true := by
  intro u hu
  unfold flatP at hu
  obtain ⟨z, _, hz⟩ := List.mem_flatMap.1 hu
  simp at hz
  rcases hz with rfl | rfl <;> rfl
theorem add_lit (g s j : Nat) : Addr.add ⟨g, s, none⟩ j = ⟨g, s + j, none⟩ := by
  unfold Addr.add
  split
  · subst_vars; rfl
  · simp
/-- A piece of the points, as cells from its first one on. -/
theorem pts_cells {w : World} {b : Nat} {zs : List P2} (h : PtsAt w b zs) {s m : Nat} (hs : s + m ≤ zs.length) : ∀ j u, (flatP ((zs.drop s).take m))[j]? = some u → w.cell? (Addr.add ⟨b, s * 2, none⟩ j) = some u := by
  intro j u hj
  have hl : j < m * 2 := by
    have := (List.getElem?_eq_some_iff.1 hj).1
    rw [flatP_len, List.length_take, List.length_drop] at this
    omega
  have hk : j / 2 < ((zs.drop s).take m).length := by rw [List.length_take, List.length_drop]; omega
  have e : ((zs.drop s).take m).getD (j / 2) (0, 0) = zs.getD (s + j / 2) (0, 0) := by
    simp only [List.getD_eq_getElem?_getD, List.getElem?_take, List.getElem?_drop]
    rw [if_pos (by omega)]
  have h1 := flatP_at hk
  have h2 := h.2 (s + j / 2) (by omega)
  rw [e] at h1
  rw [add_lit]
  rcases Nat.mod_two_eq_zero_or_one j with hm | hm
  · have ej : j = j / 2 * 2 := by omega
    rw [show s * 2 + j = (s + j / 2) * 2 by omega, h2.1]
    rw [ej, h1.1] at hj
    exact hj
  · have ej : j = j / 2 * 2 + 1 := by omega
    rw [show s * 2 + j = (s + j / 2) * 2 + 1 by omega, h2.2]
    rw [ej, h1.2] at hj
    exact hj
/-- The call that began in w has made a slice of these points. -/
def NewP (w w' : World) (v : Value) (zs : List P2) : Prop := w'.ownsRow w.heap.size 30 2 v zs.length (flatP zs) ∧ Below w.heap.size w w'
def NewPost (zs : List P2) (w : World) (e : Ending) (w' : World) : Prop := ∃ v, e = .returned v ∧ NewP w w' v zs
theorem own_pts {w : World} {base g cap : Nat} {zs : List P2} (h : w.ownsRow base 30 2 (.slice (some ⟨g, 0, none⟩) zs.length cap) zs.length (flatP zs)) : PtsAt w g zs := by
  refine ⟨(h.lt g rfl).2, fun j hj => ?_⟩
  have h1 := flatP_at hj
  exact ⟨(h.cellAt (j * 2) (by omega)).trans h1.1, (h.cellAt (j * 2 + 1) (by omega)).trans h1.2⟩
theorem own_at {w : World} {base : Nat} {v : Value} {zs : List P2} (h1 : 1 ≤ zs.length) (h : w.ownsRow base 30 2 v zs.length (flatP zs)) :
    ∃ g cap, v = .slice (some ⟨g, 0, none⟩) zs.length cap ∧ base ≤ g ∧ zs.length ≤ cap ∧ cap ≤ maxLen ∧ PtsAt w g zs := by
  rcases id h with ⟨_, ⟨_, h0⟩ | ⟨g, cap, cur, rfl, hb, hg, hc1, hc2, _⟩⟩
  · omega
  · exact ⟨g, cap, rfl, hb, hc1, hc2, own_pts h⟩
theorem NewP.pv {w w' : World} {v : Value} {zs : List P2} (h : NewP w w' v zs) : ∃ ao cap, v = .slice ao zs.length cap ∧ PV w' ao zs.length zs := by
  by_cases h1 : 1 ≤ zs.length
  · obtain ⟨g, cap, rfl, _, _, _, hp⟩ := own_at h1 h.1
    exact ⟨_, _, rfl, pts_PV rfl hp⟩
  · rcases h.1 with ⟨_, ⟨rfl, _⟩ | ⟨g, cap, cur, rfl, _⟩⟩
    · exact ⟨none, 0, by rw [show zs.length = 0 by omega], rfl, Or.inl (by omega)⟩
    · exact ⟨_, _, rfl, rfl, Or.inl (by omega)⟩
theorem grown_below {w w' : World} {row : Option Nat} {B : Nat} (h : w.grownBy w' row) (hB : B ≤ w.heap.size) (hr : ∀ k, row = some k → B ≤ k) : Below B w w' :=
  ⟨h.os, h.tape, h.output, h.size, fun k hk => h.block k (by omega) (fun e => by have := hr k e.symm; omega)⟩
/-- The points from number k on, and then those before it. -/
def rotL (zs : List P2) (k : Nat) : List P2 := zs.drop k ++ zs.take k
theorem rotL_len (zs : List P2) (k : Nat) (hk : k ≤ zs.length) : (rotL zs k).length = zs.length := by simp [rotL]; omega
theorem rotL_flat (zs : List P2) (k : Nat) : flatP (rotL zs k) = flatP ((zs.drop k).take (zs.length - k)) ++ flatP ((zs.drop 0).take k) := by
  rw [rotL, flatP_app, List.drop_zero]
  congr 2
  rw [List.take_of_length_le (by simp)]
end Go.Proofs.Ytjhmpmaademdcaa
