/- Marks that a law writes into a slice of placements of its own. -/
import Derived.Test.YtmfchcaidfloaaaFmPlacement
import Derived.Test.YtmfchcaidfloaaaFlPlacement
import Derived.Test.YtmfchcaidfloaaaDrw6
namespace Go.Proofs.Ytmfchcaidfloaaa
open Seq2 Go.ChangeShapes Go.WideShapes Go.ChangeAt Go.RowKit
set_option linter.unusedVariables false
set_option linter.unusedSimpArgs false

structure PmX (lo hi : Nat) (w : World) (b : Nat) (zs : List Pm) : Prop where
  out : lo ≤ b ∧ b < hi ∧ hi ≤ w.heap.size ∧ w.rowIs b 45 (zs.length * 5) (PmF zs zs.length)
theorem PmX.of {lo n b : Nat} {w : World} {zs : List Pm} (hz : n = zs.length) (hl : lo ≤ b) (h : w.rowIs b 45 (n * 5) (PmF zs n)) : PmX lo w.heap.size w b zs := by
  subst hz
  exact ⟨hl, h.lt, Nat.le_refl _, h⟩
theorem PmX.below {lo hi : Nat} {w w' : World} {b : Nat} {zs : List Pm} (h : PmX lo hi w b zs) (hb : Below w.heap.size w w') : PmX lo hi w' b zs := by
  obtain ⟨h1, h2, h3, h4⟩ := h.out
  exact ⟨h1, h2, Nat.le_trans h3 hb.size, rowIs_below h4 hb⟩
theorem markPms_any (lo hi b m k0 : Nat) (zs : List Pm) (w : World) (hm : m = zs.length) (h1 : 1 ≤ k0) (hk : k0 ≤ 50000000) (hl : m ≤ 1048576) (h : PmX lo hi w b zs) :
    Calls Try.prog 17 #[.slice (some ⟨b, 0, none⟩) m m, .int .i64 (k0 : Nat)] w fun e w' => ∃ k : Nat, e = .returned (.int .i64 (k : Int)) ∧ (1 ≤ k ∧ k ≤ 100000000) ∧ Btw lo hi w w' := by
  obtain ⟨a1, a2, a3, a4⟩ := h.out
  subst hm
  refine (markPms_lay b zs.length zs.length k0 w (Nat.le_refl _) hl h1 (by omega) (Lay.row a4)).mono ?_
  rintro e w' ⟨rfl, _, hb⟩
  exact ⟨_, rfl, by omega, hb.wide a1 (by omega)⟩
end Go.Proofs.Ytmfchcaidfloaaa
