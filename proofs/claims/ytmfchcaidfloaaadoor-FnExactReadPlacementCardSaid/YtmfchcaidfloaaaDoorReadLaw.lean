/- The walk of FnExactReadList where the text has at most 1048576 bytes. -/
import Derived.Test.YtmfchcaidfloaaaDoorReadImpl
import Derived.Test.YtmfchcaidfloaaaDoorK15
namespace Go.Proofs.YtmfchcaidfloaaaDoor
open Go.ChangeShapes Go.WideShapes Go.ChangeAt Go.RowKit

/-- What is owned stays owned where only younger blocks change. -/
theorem own_keep {w w' : World} {base e size n B : Nat} {v : Value} {xs : List Value} (h : w.ownsRow base e size v n xs) (hlt : ∀ k, v.ownBlock = some k → k < B) (hb : Below B w w') : w'.ownsRow base e size v n xs := by
  obtain ⟨h1, h2 | ⟨g, cap, cur, rfl, h3, h4, h5⟩⟩ := h
  · exact ⟨h1, Or.inl h2⟩
  · refine ⟨h1, Or.inr ⟨g, cap, cur, rfl, h3, ?_, h5⟩⟩
    rw [hb.block g (hlt g rfl)]
    exact h4
theorem marked_below {w w' : World} {base n B : Nat} {v : Value} (h : Marked w base v n) (hb : Below B w w') (hB : w.heap.size ≤ B) : Marked w' base v n := by
  obtain ⟨X, h1, h2⟩ := h
  exact ⟨X, ownB_below h1 hb hB, h2⟩
theorem drew_below (w : World) (n : Nat) (B : Nat) : Below B w (w.drewN n) := ⟨rfl, rfl, rfl, Nat.le_refl _, fun _ _ => rfl⟩
theorem rdPost_zs {l : List UInt8} {B : Nat} {w w' : World} {e : Ending} {zs : List Int} {b : Bool} (h : RdPost l B w e w') (hz : rlL l = zs) (hb : rlB l = b) :
    ∃ v, e = .returned (.tuple #[v, .bool b]) ∧ w'.ownsRow B 2 1 v zs.length (zs.map (Value.int .i64)) ∧ Below w.heap.size w w' := by
  subst hz hb
  exact h
theorem rl_len (l : List UInt8) : (rlL l).length ≤ 64 := by
  unfold rlL
  split
  · simp
  · split
    · rename_i hg
      simp only [rlGood, Bool.and_eq_true, decide_eq_true_eq] at hg
      rw [rdvals_len]; exact hg.1
    · simp

end Go.Proofs.YtmfchcaidfloaaaDoor
