/- The point with a text: plain mathematics. -/
import Derived.Test.YtfaahcbdglbcjaaDoorNumMath
import Derived.Test.YtfaahcbdglbcjaaDoorSplMath
import Derived.Test.YtfaahcbdglbcjaaDoorPtImpl
import Derived.Lib.IndexMore
namespace Go.Proofs.YtfaahcbdglbcjaaDoor
open Go.ChangeShapes Go.WideShapes Go.ChangeAt Go.RowKit

/-- The point with two numerals, if they are those of a valid point. -/
def rdP (a b : List UInt8) : Option (Int × Int) := match numI a, numI b with
  | some x, some y => if okI x y then some (x, y) else none
  | _, _ => none
def rpO (l : List UInt8) : Option (Int × Int) := rdP (Lib.cut l [44]).1 (Lib.cut l [44]).2.1
theorem rd_no1 {a b : List UInt8} (h : numI a = none) : rdP a b = none := by unfold rdP; rw [h]
theorem rd_no2 {a b : List UInt8} (h : numI b = none) : rdP a b = none := by unfold rdP; rw [h]; cases numI a <;> rfl
theorem rd_no3 {a b : List UInt8} {x y : Int} (h1 : numI a = some x) (h2 : numI b = some y) (h : okI x y = false) : rdP a b = none := by unfold rdP; rw [h1, h2]; simp [h]
theorem rd_yes {a b : List UInt8} {x y : Int} (h1 : numI a = some x) (h2 : numI b = some y) (h : okI x y = true) : rdP a b = some (x, y) := by unfold rdP; rw [h1, h2]; simp [h]
theorem num_comma (l : List UInt8) (h : 44 ∈ l) : numI l = none := by
  have h1 : 44 ∈ tailD l := by
    unfold tailD
    split
    · rename_i h45
      match l, h, h45 with
      | c :: r, h, h45 =>
        simp at h45
        subst h45
        rcases List.mem_cons.1 h with e | e
        · cases e
        · exact e
    · exact h
  have h2 : (tailD l).all isD = false := by
    rw [List.all_eq_false]
    exact ⟨44, h1, by decide⟩
  unfold numI okNum
  rw [h2]
  simp
theorem num_empty : numI [] = none := rfl
theorem cut_cases (l : List UInt8) : (44 ∉ l ∧ Lib.cut l [44] = (l, [], false)) ∨ ∃ p r, l = p ++ 44 :: r ∧ 44 ∉ p ∧ Lib.cut l [44] = (p, r, true) := by
  unfold Lib.cut
  rw [Lib.index_one]
  rcases idx_split 44 l with ⟨h1, h2⟩ | ⟨p, r, rfl, h2, h3⟩
  · left
    rw [h1]
    exact ⟨h2, rfl⟩
  · right
    refine ⟨p, r, rfl, h2, ?_⟩
    rw [h3, if_pos (by omega)]
    have e1 : (p ++ 44 :: r).take ((p.length : Int).toNat) = p := by simp
    have e2 : (p ++ 44 :: r).drop ((p.length : Int).toNat + [(44 : UInt8)].length) = r := by
      have : (p.length : Int).toNat + [(44 : UInt8)].length = p.length + 1 := by simp
      rw [this, List.drop_append]
      simp
    rw [e1, e2]
/-- The pieces tell the same. -/
theorem spl_two {l a b : List UInt8} (h : spl 44 l = [a, b]) : rpO l = rdP a b := by
  unfold rpO
  rcases cut_cases l with ⟨h1, h2⟩ | ⟨p, r, rfl, h1, h2⟩
  · rw [spl_last 44 l h1] at h
    simp at h
  · rw [spl_first 44 p r h1] at h
    rw [h2]
    by_cases hr : 44 ∈ r
    · exfalso
      have h3 := spl_len 44 r
      have h4 : 0 < r.count 44 := List.count_pos_iff.2 hr
      have h5 : (spl 44 r) = [b] := by simpa using (List.cons.inj h).2
      rw [h5] at h3
      simp at h3
      omega
    · rw [spl_last 44 r hr] at h
      have h6 := List.cons.inj h
      rw [h6.1, (List.cons.inj h6.2).1]
theorem spl_other {l : List UInt8} (h : (spl 44 l).length ≠ 2) : rpO l = none := by
  unfold rpO
  rcases cut_cases l with ⟨h1, h2⟩ | ⟨p, r, rfl, h1, h2⟩
  · rw [h2]; exact rd_no2 num_empty
  · rw [h2]
    rw [spl_first 44 p r h1] at h
    by_cases hr : 44 ∈ r
    · exact rd_no2 (num_comma r hr)
    · rw [spl_last 44 r hr] at h
      simp at h
theorem len_two {α : Type} {l : List α} (h : l.length = 2) : ∃ a b, l = [a, b] := by
  match l, h with
  | [a, b], _ => exact ⟨a, b, rfl⟩
theorem cut_size (l : List UInt8) : (Lib.cut l [44]).1.length ≤ l.length ∧ (Lib.cut l [44]).2.1.length ≤ l.length := by
  rcases cut_cases l with ⟨h1, h2⟩ | ⟨p, r, rfl, h1, h2⟩
  · rw [h2]; simp
  · rw [h2]; simp; omega
end Go.Proofs.YtfaahcbdglbcjaaDoor
