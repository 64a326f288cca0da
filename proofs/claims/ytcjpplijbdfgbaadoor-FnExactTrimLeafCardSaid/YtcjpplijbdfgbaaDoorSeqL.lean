/- A block made at any time, into which a leaf is stored: what stays. -/
import Derived.Test.YtcjpplijbdfgbaaDoorLfS
import Derived.Test.YtcjpplijbdfgbaaDoorK23
import Derived.Test.YtcjpplijbdfgbaaDoorSeq4
namespace Go.Proofs.YtcjpplijbdfgbaaDoor
open Go.ChangeShapes Go.WideShapes Go.ChangeAt Go.RowKit
set_option linter.unusedVariables false
set_option linter.unusedSimpArgs false

/-- A row of boxes does not lie in a block of a leaf. -/
theorem own_apart {w : World} {base n p : Nat} {v : Value} {xs : List Value} {cs : Array Value} (h : w.ownsRow base 37 4 v n xs) (hp : w.heap[p]? = some (.cells cs 33 (0, 0))) : v.ownBlock ≠ some p := by
  obtain ⟨_, ⟨rfl, _⟩ | ⟨g, cap, cur, rfl, _, hg, _⟩⟩ := h
  · simp [Value.ownBlock]
  · intro e
    have e2 : g = p := by simpa [Value.ownBlock] using e
    subst e2
    rw [hp] at hg
    simp only [Option.some.injEq, Obj.cells.injEq] at hg
    exact absurd hg.2.1 (by decide)
theorem keep_apart {w : World} {base e size n : Nat} {v : Value} {xs : List Value} (h : w.ownsRow base e size v n xs) (a : Addr) (u : Value) (ha : v.ownBlock ≠ some a.block) : (w.setCell a u).ownsRow base e size v n xs :=
  h.kept (grown_setC w a u) (by
    cases hv : v.ownBlock with
    | none => exact Or.inl rfl
    | some k => exact Or.inr (fun e => ha (by rw [hv, e])))
theorem keep9_apart {w : World} {base e size n p : Nat} {v : Value} {xs : List Value} {x0 x1 x2 x3 x4 x5 x6 x7 x8 : Value} (h : w.ownsRow base e size v n xs) (hp : v.ownBlock ≠ some p) : (((((((((w.setCell ⟨p, 0, none⟩ x0).setCell ⟨p, 1, none⟩ x1).setCell ⟨p, 2, none⟩ x2).setCell ⟨p, 3, none⟩ x3).setCell ⟨p, 4, none⟩ x4).setCell ⟨p, 5, none⟩ x5).setCell ⟨p, 6, none⟩ x6).setCell ⟨p, 7, none⟩ x7).setCell ⟨p, 8, none⟩ x8).ownsRow base e size v n xs :=
  keep_apart (keep_apart (keep_apart (keep_apart (keep_apart (keep_apart (keep_apart (keep_apart (keep_apart h ⟨p, 0, none⟩ x0 hp) ⟨p, 1, none⟩ x1 hp) ⟨p, 2, none⟩ x2 hp) ⟨p, 3, none⟩ x3 hp) ⟨p, 4, none⟩ x4 hp) ⟨p, 5, none⟩ x5 hp) ⟨p, 6, none⟩ x6 hp) ⟨p, 7, none⟩ x7 hp) ⟨p, 8, none⟩ x8 hp
end Go.Proofs.YtcjpplijbdfgbaaDoor
