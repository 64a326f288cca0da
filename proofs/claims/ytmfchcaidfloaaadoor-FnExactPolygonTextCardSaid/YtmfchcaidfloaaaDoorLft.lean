/- What is left of a size. -/
import Derived.Test.YtmfchcaidfloaaaDoorSeq3
namespace Go.Proofs.YtmfchcaidfloaaaDoor
/-- What is left of l. -/
def lft (l : Int) (n : Nat) : Int := if (n : Int) ≤ l then l - n else -1
theorem lft_ok {l : Int} {n : Nat} (h : (n : Int) ≤ l) : lft l n = l - n := if_pos h
theorem lft_no {l : Int} {n : Nat} (h : ¬ (n : Int) ≤ l) : lft l n = -1 := if_neg h
theorem blk_lt {w : World} {b : Nat} {o : Obj} (h : w.heap[b]? = some o) : b < w.heap.size := (Array.getElem?_eq_some_iff.1 h).1
theorem cell_of_arr {w : World} {b : Nat} {cur : Array Value} {T : TypeId} (h : w.heap[b]? = some (.cells cur T (0, 0))) {j : Nat} {v : Value} (hj : cur[j]? = some v) : w.cell? ⟨b, j, none⟩ = some v ∧ w.frozen? ⟨b, j, none⟩ = false := by
  refine ⟨?_, ?_⟩
  · simp [World.cell?, h, hj]
  · simp [World.frozen?, h]
def sumL (f : Nat → Nat) : Nat → Nat
  | 0 => 0
  | k + 1 => sumL f k + f k
theorem sumL_le (f : Nat → Nat) {k m : Nat} (h : k ≤ m) : sumL f k ≤ sumL f m := by
  induction m with
  | zero => have : k = 0 := by omega
            subst this; exact Nat.le_refl _
  | succ m ih =>
    by_cases hk : k ≤ m
    · exact Nat.le_trans (ih hk) (Nat.le_add_right _ _)
    · have : k = m + 1 := by omega
      subst this; exact Nat.le_refl _
theorem cell_ltF {w : World} {a : Addr} {v : Value} (h : w.cell? a = some v) : a.block < w.heap.size := by
  unfold World.cell? at h
  cases e : w.heap[a.block]? with
  | none => rw [e] at h; cases h
  | some o => exact (Array.getElem?_eq_some_iff.1 e).1
end Go.Proofs.YtmfchcaidfloaaaDoor
