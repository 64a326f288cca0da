/- A text cut at each byte c: the pieces. -/
import Derived.Lib.Split
import Derived.Lib.SplitLaws
import Derived.Lib.IndexBytes
namespace Go.Proofs.YthjimogeimigmaaDoor

def spl (c : UInt8) : List UInt8 → List (List UInt8)
  | [] => [[]]
  | x :: r => if x = c then [] :: spl c r else match spl c r with
    | p :: ps => (x :: p) :: ps
    | [] => [[x]]
theorem spl_ne (c : UInt8) (l : List UInt8) : spl c l ≠ [] := by
  cases l with
  | nil => simp [spl]
  | cons x r =>
    unfold spl
    split
    · simp
    · split <;> simp
theorem spl_last (c : UInt8) : ∀ (p : List UInt8), c ∉ p → spl c p = [p]
  | [], _ => rfl
  | x :: p, h => by
    have h1 : x ≠ c := fun e => h (by simp [e])
    have h2 : c ∉ p := fun e => h (by simp [e])
    rw [spl, if_neg h1, spl_last c p h2]
theorem spl_first (c : UInt8) : ∀ (p r : List UInt8), c ∉ p → spl c (p ++ c :: r) = p :: spl c r
  | [], r, _ => by rw [List.nil_append, spl, if_pos rfl]
  | x :: p, r, h => by
    have h1 : x ≠ c := fun e => h (by simp [e])
    have h2 : c ∉ p := fun e => h (by simp [e])
    rw [List.cons_append, spl, if_neg h1, spl_first c p r h2]
theorem idx_split (c : UInt8) : ∀ (l : List UInt8), (Lib.indexByte l c = -1 ∧ c ∉ l) ∨ ∃ p r, l = p ++ c :: r ∧ c ∉ p ∧ Lib.indexByte l c = (p.length : Int)
  | [] => Or.inl ⟨rfl, by simp⟩
  | x :: l => by
    by_cases hx : x = c
    · subst hx
      exact Or.inr ⟨[], l, rfl, by simp, by rw [Lib.indexByte]; simp⟩
    · have hx2 : (x == c) = false := by simpa using hx
      rcases idx_split c l with ⟨h1, h2⟩ | ⟨p, r, rfl, h2, h3⟩
      · left
        refine ⟨by rw [Lib.indexByte, hx2, h1]; rfl, ?_⟩
        intro h
        rcases List.mem_cons.1 h with e | e
        · exact hx e.symm
        · exact h2 e
      · right
        refine ⟨x :: p, r, rfl, ?_, ?_⟩
        · intro h
          rcases List.mem_cons.1 h with e | e
          · exact hx e.symm
          · exact h2 e
        · have h4 : ((p.length : Int) == -1) = false := by rw [beq_eq_false_iff_ne]; omega
          rw [Lib.indexByte, hx2, h3, h4]
          simp
theorem splitK_spl (c : UInt8) : ∀ (k : Nat) (l : List UInt8), l.count c ≤ k → Lib.splitK [c] 0 k l = spl c l
  | 0, l, h => by
    have : c ∉ l := List.count_eq_zero.1 (by omega)
    rw [spl_last c l this]; rfl
  | k + 1, l, h => by
    rw [Lib.splitK, Lib.index_one]
    rcases idx_split c l with ⟨h1, h2⟩ | ⟨p, r, rfl, h2, h3⟩
    · rw [h1, spl_last c l h2]; rfl
    · have h4 : ((p.length : Int) == -1) = false := by rw [beq_eq_false_iff_ne]; omega
      rw [h3, h4, spl_first c p r h2]
      have e1 : (p ++ c :: r).take ((p.length : Int).toNat + 0) = p := by simp
      have e2 : (p ++ c :: r).drop ((p.length : Int).toNat + [c].length) = r := by
        have : (p.length : Int).toNat + [c].length = p.length + 1 := by simp
        rw [this, List.drop_append]
        simp
      have h5 : r.count c ≤ k := by
        rw [List.count_append, List.count_cons_self] at h
        omega
      rw [e1, e2, splitK_spl c k r h5]
      simp
theorem splitK_len (c : UInt8) : ∀ (k : Nat) (l : List UInt8), (Lib.splitK [c] 0 k l).length = min k (l.count c) + 1
  | 0, l => by simp [Lib.splitK]
  | k + 1, l => by
    rw [Lib.splitK, Lib.index_one]
    rcases idx_split c l with ⟨h1, h2⟩ | ⟨p, r, rfl, h2, h3⟩
    · rw [h1, List.count_eq_zero.2 h2]; simp
    · have h4 : ((p.length : Int) == -1) = false := by rw [beq_eq_false_iff_ne]; omega
      rw [h3, h4]
      have e2 : (p ++ c :: r).drop ((p.length : Int).toNat + [c].length) = r := by
        have : (p.length : Int).toNat + [c].length = p.length + 1 := by simp
        rw [this, List.drop_append]
        simp
      simp only [Bool.false_eq_true, if_false, List.length_cons]
      rw [show (p ++ c :: r).drop ((p.length : Int).toNat + ([].length + 1)) = r from e2, splitK_len c k r, List.count_append, List.count_cons_self, List.count_eq_zero.2 h2]
      omega
theorem spl_len (c : UInt8) (l : List UInt8) : (spl c l).length = l.count c + 1 := by
  rw [← splitK_spl c (l.count c) l (Nat.le_refl _), splitK_len]; omega
theorem spl_size (c : UInt8) (l : List UInt8) : (spl c l).length ≤ l.length + 1 := by
  rw [spl_len]; have := List.count_le_length (a := c) (l := l); omega
theorem spl_piece (c : UInt8) : ∀ (l : List UInt8) (p : List UInt8), p ∈ spl c l → p.length ≤ l.length
  | [], p, h => by simp [spl] at h; subst h; simp
  | x :: r, p, h => by
    unfold spl at h
    split at h
    · rcases List.mem_cons.1 h with e | e
      · subst e; simp
      · have := spl_piece c r p e; simp; omega
    · split at h
      · rename_i q qs hq
        rcases List.mem_cons.1 h with e | e
        · subst e
          have := spl_piece c r q (by rw [hq]; simp)
          simp; omega
        · have := spl_piece c r p (by rw [hq]; simp [e])
          simp; omega
      · rename_i hq; exact absurd hq (spl_ne c r)
end Go.Proofs.YthjimogeimigmaaDoor
