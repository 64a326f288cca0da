/- Sorting and compacting integers of a call's own: mathematics, the library's sort. -/
import Derived.Test.YtmfchcaidfloaaaUsd1
import Derived.Test.YtmfchcaidfloaaaCpI
import Derived.Test.YtmfchcaidfloaaaShelfSort
import Derived.Sort.OwnSortedInts
namespace Go.Proofs.Ytmfchcaidfloaaa
open Seq2 Go.ChangeShapes Go.WideShapes Go.ChangeAt Go.RowKit
set_option linter.unusedVariables false
set_option linter.unusedSimpArgs false

def srtL (O : List Int) : List Int := O.mergeSort (fun x y => decide (x ≤ y))
theorem srtL_len (O : List Int) : (srtL O).length = O.length := by unfold srtL; simp
theorem srtL_mem (O : List Int) (y : Int) : y ∈ srtL O ↔ y ∈ O := by unfold srtL; exact List.mem_mergeSort
theorem srtL_up (O : List Int) : (srtL O).Pairwise (· ≤ ·) := by
  have h := List.pairwise_mergeSort (le := fun x y : Int => decide (x ≤ y)) (fun a b c h1 h2 => by simp at *; omega) (fun a b => by simp; omega) O
  exact h.imp (fun h => by simpa using h)
theorem up_getD {S : List Int} (h : S.Pairwise (· ≤ ·)) {i j : Nat} (hij : i ≤ j) (hj : j < S.length) : S.getD i 0 ≤ S.getD j 0 := by
  by_cases e : i = j
  · subst e; exact Int.le_refl _
  · have := List.pairwise_iff_getElem.1 h i j (by omega) hj (by omega)
    simpa [List.getD_eq_getElem?_getD, show i < S.length by omega, hj] using this
theorem cpI_all {S : List Int} (h : S.Pairwise (· ≤ ·)) : ∀ k, k ≤ S.length → (cpK idI S k).Pairwise (· < ·) ∧ ∀ y, y ∈ cpK idI S k ↔ ∃ j, j < k ∧ y = S.getD j 0
  | 0, _ => by simp [cpK]
  | k + 1, hk => by
    obtain ⟨h1, h2⟩ := cpI_all h k (by omega)
    by_cases hc : k = 0 ∨ ¬ idI (S.getD k 0) = idI (S.getD (k - 1) 0)
    · rw [cpK_yes hc]
      refine ⟨List.pairwise_append.2 ⟨h1, by simp, fun a ha b hb => ?_⟩, fun y => ?_⟩
      · obtain rfl : b = S.getD k 0 := by simpa using hb
        obtain ⟨j, hj, rfl⟩ := (h2 a).1 ha
        have hne := hc.resolve_left (by omega)
        unfold idI at hne
        have a1 := up_getD h (show j ≤ k - 1 by omega) (by omega)
        have a2 := up_getD h (show k - 1 ≤ k by omega) (by omega)
        omega
      · rw [List.mem_append, h2 y]
        constructor
        · rintro (⟨j, hj, e⟩ | e)
          · exact ⟨j, by omega, e⟩
          · exact ⟨k, by omega, by simpa using e⟩
        · rintro ⟨j, hj, e⟩
          by_cases hjk : j = k
          · subst hjk; exact Or.inr (by simp [e])
          · exact Or.inl ⟨j, by omega, e⟩
    · have h0 : ¬ k = 0 := fun e => hc (Or.inl e)
      have he : idI (S.getD k 0) = idI (S.getD (k - 1) 0) := Classical.byContradiction fun e => hc (Or.inr e)
      rw [cpK_no h0 he]
      refine ⟨h1, fun y => ?_⟩
      rw [h2 y]
      constructor
      · rintro ⟨j, hj, e⟩; exact ⟨j, by omega, e⟩
      · rintro ⟨j, hj, e⟩
        by_cases hjk : j = k
        · subst hjk; unfold idI at he; exact ⟨j - 1, by omega, e.trans he⟩
        · exact ⟨j, by omega, e⟩
theorem up_unique : ∀ {l r : List Int}, l.Pairwise (· < ·) → r.Pairwise (· < ·) → (∀ y, y ∈ l ↔ y ∈ r) → l = r
  | [], [], _, _, _ => rfl
  | [], b :: r, _, _, h => absurd ((h b).2 (by simp)) (by simp)
  | a :: l, [], _, _, h => absurd ((h a).1 (by simp)) (by simp)
  | a :: l, b :: r, h1, h2, h => by
    obtain ⟨p1, p2⟩ := List.pairwise_cons.1 h1
    obtain ⟨q1, q2⟩ := List.pairwise_cons.1 h2
    have e : a = b := by
      rcases List.mem_cons.1 ((h a).1 (by simp)) with e | e
      · exact e
      · rcases List.mem_cons.1 ((h b).2 (by simp)) with e2 | e2
        · exact e2.symm
        · have := q1 a e; have := p1 b e2; omega
    subst e
    rw [up_unique p2 q2 (fun y => ?_)]
    constructor
    · intro hy
      rcases List.mem_cons.1 ((h y).1 (by simp [hy])) with e | e
      · have := p1 y hy; omega
      · exact e
    · intro hy
      rcases List.mem_cons.1 ((h y).2 (by simp [hy])) with e | e
      · have := q1 y hy; omega
      · exact e
/-- The leaves of the first k placements, one after another. -/
def lvL (zs : List Pm) : Nat → List Int
  | 0 => []
  | k + 1 => lvL zs k ++ [(zs.getD k pm0).2.1]
theorem lvL_len (zs : List Pm) : ∀ k, (lvL zs k).length = k
  | 0 => rfl
  | k + 1 => by simp [lvL, lvL_len zs k]
theorem lvL_mem (zs : List Pm) (y : Int) : ∀ k, y ∈ lvL zs k ↔ ∃ j, j < k ∧ y = (zs.getD j pm0).2.1
  | 0 => by simp [lvL]
  | k + 1 => by
    simp only [lvL, List.mem_append, lvL_mem zs y k, List.mem_singleton]
    constructor
    · rintro (⟨j, hj, e⟩ | e)
      · exact ⟨j, by omega, e⟩
      · exact ⟨k, by omega, e⟩
    · rintro ⟨j, hj, e⟩
      by_cases hjk : j = k
      · subst hjk; exact Or.inr e
      · exact Or.inl ⟨j, by omega, e⟩
theorem us_same (zs : List Pm) (n : Nat) : cpK idI (srtL (lvL zs n)) n = usL zs n := by
  have hl : (srtL (lvL zs n)).length = n := by rw [srtL_len, lvL_len]
  obtain ⟨h1, h2⟩ := cpI_all (srtL_up (lvL zs n)) n (by rw [hl]; exact Nat.le_refl _)
  refine up_unique h1 (usL_up zs n) (fun y => ?_)
  rw [h2 y, usL_mem zs y n, ← lvL_mem zs y n, ← srtL_mem (lvL zs n) y]
  constructor
  · rintro ⟨j, hj, rfl⟩
    rw [List.getD_eq_getElem?_getD, List.getElem?_eq_getElem (by rw [hl]; exact hj)]
    exact List.getElem_mem _
  · intro hy
    obtain ⟨j, hj, e⟩ := List.getElem_of_mem hy
    exact ⟨j, by rw [← hl]; exact hj, by rw [List.getD_eq_getElem?_getD, List.getElem?_eq_getElem hj]; exact e.symm⟩
theorem srt_own (g cap M : Nat) (O : List Int) (w w0 : World) (hl : O.length ≤ 1000) (hown : OwnI w w0.heap.size (.slice (some ⟨g, 0, none⟩) M cap) O) (hb : Below w0.heap.size w0 w) :
    Calls Try.prog 33 #[.slice (some ⟨g, 0, none⟩) M cap] w fun e w' => e = .returned (.tuple #[]) ∧ OwnI w' w0.heap.size (.slice (some ⟨g, 0, none⟩) M cap) (srtL O) ∧ Below w0.heap.size w0 w' := by
  obtain ⟨h1, ⟨h2, _⟩ | ⟨g', cap', cur, h2, h3, h4, h5, h6, h7, h8⟩⟩ := hown
  · cases h2
  · cases h2
    rw [Nat.mul_one] at h8
    refine (Try.slices_Sort_33 g 0 cap O w (holds_of_blockI h4 h8) (blk_lt h4) (by omega)).mono ?_
    rintro e w' ⟨rfl, n, os, rfl⟩
    refine ⟨rfl, ?_, hb.grown (grownBy_sortedI _) hb.size (fun k hk => by cases hk; exact h3)⟩
    have := ownsRow_sortedI (w := w) (base := w0.heap.size) (n := n) (os := os) (ss := O) (ts := srtL O) (srtL_len O) h3 h4 h5 h6 h7
    unfold OwnI
    rw [srtL_len]
    exact this
end Go.Proofs.Ytmfchcaidfloaaa
