/- The turns that map a polygon to itself. -/
import Derived.Test.YtjhmpmaademdcaaPolyG7
import Derived.Test.YtjhmpmaademdcaaPolyG3
import Derived.Test.YtjhmpmaademdcaaOwnInt
namespace Go.Proofs.Ytjhmpmaademdcaa
open Go.ChangeShapes Go.WideShapes Go.ChangeAt Go.RowKit
set_option linter.unusedVariables false
set_option linter.unusedSimpArgs false

def Diff (a : List P2) : Prop := ∀ i j, i < j → j < a.length → a.getD i (0, 0) ≠ a.getD j (0, 0)
theorem same_around' {a b : List P2} (hd : Diff a) : isSameB a b = aroundB a b := by
  rw [Bool.eq_iff_iff]
  constructor
  · intro h
    unfold isSameB at h
    split at h
    · cases h
    · rename_i k hk
      obtain ⟨j, hj, e⟩ := rot_back (idx_lt hk) (of_decide_eq_true h)
      have hl : b.length = a.length := by rw [← of_decide_eq_true h, rotL_len _ _ (Nat.le_of_lt (idx_lt hk))]
      exact List.any_eq_true.2 ⟨j, List.mem_range.2 (by omega), decide_eq_true e⟩
  · intro h
    obtain ⟨j, hj, e⟩ := List.any_eq_true.1 h
    have hj := List.mem_range.1 hj
    have e := of_decide_eq_true e
    obtain ⟨k, hk, e2⟩ := rot_back hj e.symm
    have hl : a.length = b.length := by rw [e, rotL_len _ _ (Nat.le_of_lt hj)]
    have hk' : k < a.length := by omega
    have e0 : b.getD 0 (0, 0) = a.getD k (0, 0) := by rw [e2, rot_first hk']
    have hi : idxP a (b.getD 0 (0, 0)) = some k := by
      rw [e0]
      unfold idxP
      rw [List.findIdx?_eq_some_iff_getElem]
      refine ⟨hk', by simp [List.getD_eq_getElem?_getD, hk'], fun i hi => ?_⟩
      have := hd i k hi hk'
      simp only [List.getD_eq_getElem?_getD, hk', Nat.lt_trans hi hk', List.getElem?_eq_getElem, Option.getD_some] at this
      simpa using fun h => this (by simpa [List.getD_eq_getElem?_getD, hk'] using h)
    unfold isSameB
    rw [hi]
    simpa using e2.symm
theorem turnL_zero (zs : List P2) : turnL zs 0 = zs := by
  apply ext_getD (turnL_len _ _)
  intro k hk
  rw [turnL_len] at hk
  rw [turnL_at hk]
  unfold turnJ turnP
  rw [if_neg (by omega)]
  rfl
theorem shift_getD {zs : List P2} {dx dy : Int} {k : Nat} (hk : k < zs.length) : (shiftL zs dx dy).getD k (0, 0) = ((zs.getD k (0, 0)).1 + dx, (zs.getD k (0, 0)).2 + dy) := shift_at hk rfl
theorem diff_norm {zs : List P2} (hv : polyB zs = true) : Diff (normL (turnL zs 0)) := by
  rw [turnL_zero]
  intro i j hij hj
  rw [normL_len] at hj
  have h := poly_ne hv hij hj
  unfold normL
  rw [shift_getD (by omega), shift_getD hj]
  intro e
  apply h
  have e1 := congrArg Prod.fst e
  have e2 := congrArg Prod.snd e
  simp only at e1 e2
  exact Prod.ext (by omega) (by omega)
def turnsTo (zs : List P2) (k : Nat) : List Int := ((List.range k).filter fun (j : Nat) => aroundB (normL (turnL zs 0)) (normL (turnL zs (j : Int)))).map fun (j : Nat) => (j : Int)
theorem turnsTo_le (zs : List P2) (k : Nat) : (turnsTo zs k).length ≤ k := by
  unfold turnsTo
  rw [List.length_map]
  exact Nat.le_trans (List.length_filter_le _ _) (by simp)
theorem turnsTo_yes {zs : List P2} {k : Nat} (h : aroundB (normL (turnL zs 0)) (normL (turnL zs (k : Int))) = true) : turnsTo zs (k + 1) = turnsTo zs k ++ [(k : Int)] := by
  unfold turnsTo
  rw [List.range_succ, List.filter_append, List.map_append]
  simp [h]
theorem turnsTo_no {zs : List P2} {k : Nat} (h : aroundB (normL (turnL zs 0)) (normL (turnL zs (k : Int))) = false) : turnsTo zs (k + 1) = turnsTo zs k := by
  unfold turnsTo
  rw [List.range_succ, List.filter_append, List.map_append]
  simp [h]
def turnsR (zs : List P2) : List Int × Int := if polyB zs then (turnsTo zs 8, 0) else ([], 1)
theorem turnsR_len (zs : List P2) : (turnsR zs).1.length ≤ 1000 := by
  unfold turnsR
  split
  · have := turnsTo_le zs 8
    show (turnsTo zs 8).length ≤ 1000
    omega
  · simp
theorem flatI_snoc (zs : List Int) (x : Int) : flatI zs ++ [.int .i64 x] = flatI (zs ++ [x]) := by simp [flatI]
end Go.Proofs.Ytjhmpmaademdcaa
