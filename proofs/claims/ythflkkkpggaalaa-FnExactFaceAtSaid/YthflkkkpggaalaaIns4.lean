/- Both say the same of a valid polygon: its edges pass a point once more in one direction than in the other, or as often. -/
import Derived.Test.YthflkkkpggaalaaIns2
import Derived.Test.YthflkkkpggaalaaIns3
namespace Go.Proofs.Ythflkkkpggaalaa
open Go.ChangeShapes Go.WideShapes Go.ChangeAt Go.RowKit
set_option linter.unusedVariables false
set_option linter.unusedSimpArgs false

theorem pt_per (zs : List P2) (k : Nat) : pt zs (k + zs.length) = pt zs k := by unfold pt; rw [Nat.add_mod_right]
theorem pt_mod (zs : List P2) (k : Nat) : pt zs (k % zs.length) = pt zs k := by unfold pt; rw [Nat.mod_mod]
theorem pt_mod_add (zs : List P2) (k j : Nat) : pt zs (k % zs.length + j) = pt zs (k + j) := by unfold pt; rw [Nat.mod_add_mod]
theorem go_ns {zs : List P2} {k : Nat} (h : goOk zs k = true) : J.NS (pt zs (k + 1)) (pt zs k) (pt zs (k + 2)) := by
  unfold goOk at h
  simp only [Bool.not_eq_true', Bool.or_eq_false_iff] at h
  exact ⟨by rw [J.on_symm]; exact h.1.2, h.2⟩
/-- A valid polygon as a closed way that does not meet itself. -/
theorem poly_smp {zs : List P2} (hv : polyB zs = true) : J.Smp (pt zs) zs.length := by
  obtain ⟨h3, _, _, hg, ha, _⟩ := poly_ok hv
  have hn : 0 < zs.length := by omega
  have goA : ∀ k, goOk zs (k % zs.length) = true := fun k => (allTo_iff _ _).1 hg _ (Nat.mod_lt _ hn)
  have cellA : ∀ i k, i < zs.length → k < zs.length → i + 2 ≤ k → (k + 1) % zs.length ≠ i → tcP (pt zs i) (pt zs (i + 1)) (pt zs k) (pt zs (k + 1)) = false := fun i k hi hk h1 h2 => by
    have := (allTo_iff _ _).1 ((allTo_iff _ _).1 ha i hi) k hk
    unfold cellOk at this
    rw [decide_eq_true h1, decide_eq_true h2] at this
    simpa using this
  refine ⟨h3, pt_per zs, fun k => ?_, fun i j h1 h2 => ?_⟩
  · have := go_ns (goA k)
    rwa [pt_mod_add, pt_mod, pt_mod_add] at this
  · have hi := Nat.mod_lt i hn
    have hk := Nat.mod_lt (i + j) hn
    rw [← pt_mod zs i, ← pt_mod_add zs i 1, ← pt_mod zs (i + j), ← pt_mod_add zs (i + j) 1]
    have e : (i + j) % zs.length = if i % zs.length + j < zs.length then i % zs.length + j else i % zs.length + j - zs.length := by
      rw [Nat.add_mod, Nat.mod_eq_of_lt (show j < zs.length by omega)]
      split
      · rename_i h; exact Nat.mod_eq_of_lt h
      · rw [Nat.mod_eq_sub_mod (by omega), Nat.mod_eq_of_lt (by omega)]
    generalize hx : i % zs.length = x at *
    generalize hy : (i + j) % zs.length = y at *
    by_cases hc : x + j < zs.length
    · rw [if_pos hc] at e
      refine cellA x y hi hk (by omega) ?_
      subst e
      rcases Nat.lt_or_ge (x + j + 1) zs.length with h | h
      · rw [Nat.mod_eq_of_lt h]; omega
      · rw [show x + j + 1 = zs.length by omega, Nat.mod_self]; omega
    · rw [if_neg hc] at e
      have := cellA y x hk hi (by omega) (by
        subst e
        rcases Nat.lt_or_ge (x + 1) zs.length with h | h
        · rw [Nat.mod_eq_of_lt h]; omega
        · rw [show x + 1 = zs.length by omega, Nat.mod_self]; omega)
      rw [← Bool.not_eq_true] at this ⊢
      exact fun h => this (J.tc_symm _ _ _ _ h)
theorem pas_par (zs : List P2) (q : P2) (k : Nat) : ∃ c : Int, 2 * sumTo (pasF zs q) k = 4 * c + (insT zs q k + 1) := by
  induction k with
  | zero => exact ⟨0, by simp [sumTo, insT]⟩
  | succ k ih =>
    obtain ⟨c, hc⟩ := ih
    have hb := pas_bd zs q k
    have hr := insT_rng zs q k
    by_cases h0 : pasF zs q k = 0
    · rw [ins_keep h0 rfl]
      exact ⟨c, by simp only [sumTo]; omega⟩
    · rw [ins_flip h0 rfl]
      simp only [sumTo]
      rcases hr with hr | hr <;> rcases (show pasF zs q k = 1 ∨ pasF zs q k = -1 by omega) with h1 | h1
      · exact ⟨c + 1, by omega⟩
      · exact ⟨c, by omega⟩
      · exact ⟨c, by omega⟩
      · exact ⟨c - 1, by omega⟩
theorem pas_wn (zs : List P2) (q : P2) : sumTo (pasF zs q) zs.length = J.wn (pt zs) zs.length q := by
  unfold J.wn
  exact sumTo_congr fun j _ => pas_cr1 _ _ _
theorem off_all {zs : List P2} {q : P2} (h0 : 0 < zs.length) (h : allTo (offF zs q) zs.length = true) (k : Nat) : onP (pt zs k) (pt zs (k + 1)) q = false := by
  have := (allTo_iff _ _).1 h (k % zs.length) (Nat.mod_lt _ h0)
  unfold offF at this
  rw [pt_mod, pt_mod_add] at this
  simpa using this
theorem ins_same {zs : List P2} (hv : polyB zs = true) (q : P2) : insI zs q = insS zs q := by
  unfold insI insS
  by_cases h : allTo (offF zs q) zs.length = true
  · rw [if_pos h, if_pos h]
    have hs := poly_smp hv
    have hw := hs.wn_off (off_all (by have := hs.n3; omega) h)
    have h01 := hs.WW_01
    obtain ⟨c, hc⟩ := pas_par zs q zs.length
    have hr := insT_rng zs q zs.length
    rw [pas_wn] at hc ⊢
    rcases hr with hr | hr
    · rw [hr] at hc ⊢
      rw [if_neg (by omega)]
    · rw [hr] at hc ⊢
      rw [if_pos (by omega)]
  · rw [if_neg h, if_neg h]
def insR (zs : List P2) (x y : Int) : Int × Int := if polyB zs && okI x y then (insS zs (x, y), 0) else (0, 1)
end Go.Proofs.Ythflkkkpggaalaa
