/- Several texts in one: WordsLaw, StrLaw. -/
import Derived.Test.YtcjpplijbdfgbaaDoorK14
namespace Go.Proofs.YtcjpplijbdfgbaaDoor
open Go.ChangeShapes Go.WideShapes Go.ChangeAt Go.RowKit

theorem own_keepW {w w' : World} {base e size n B : Nat} {v : Value} {xs : List Value} (h : w.ownsRow base e size v n xs) (hlt : ∀ k, v.ownBlock = some k → k < B) (hb : Below B w w') : w'.ownsRow base e size v n xs := by
  obtain ⟨h1, h2 | ⟨g, cap, cur, rfl, h3, h4, h5⟩⟩ := h
  · exact ⟨h1, Or.inl h2⟩
  · refine ⟨h1, Or.inr ⟨g, cap, cur, rfl, h3, ?_, h5⟩⟩
    rw [hb.block g (hlt g rfl)]
    exact h4
theorem markedS_below {w w' : World} {base n B : Nat} {v : Value} (h : MarkedS w base v n) (hb : Below B w w') (hB : w.heap.size ≤ B) : MarkedS w' base v n := by
  obtain ⟨X, h1, h2⟩ := h
  exact ⟨X, ownB_below h1 hb hB, h2⟩
theorem drew_belowW (w : World) (n : Nat) (B : Nat) : Below B w (w.drewN n) := ⟨rfl, rfl, rfl, Nat.le_refl _, fun _ _ => rfl⟩
theorem wdPost_zs {l : List UInt8} {B : Nat} {w w' : World} {e : Ending} {L : List (List UInt8)} (h : WdPost l B w e w') (hz : wd l = L) :
    ∃ v, e = .returned v ∧ w'.ownsRow B 9 1 v L.length (L.map sV) ∧ Below w.heap.size w w' := by
  subst hz
  exact h
theorem wd_len (s : ByteArray) (hs : s.size ≤ 1048576) : (wd s.data.toList).length ≤ 1048577 := by
  have h1 := List.length_filter_le neB (spl 32 s.data.toList)
  have h2 := spl_size 32 s.data.toList
  simp at h2
  unfold wd
  omega

end Go.Proofs.YtcjpplijbdfgbaaDoor
namespace Go.Proofs.YtcjpplijbdfgbaaDoor
open Go.ChangeShapes Go.WideShapes Go.ChangeAt Go.RowKit
set_option linter.unusedVariables false

end Go.Proofs.YtcjpplijbdfgbaaDoor
