/- Marks that a law writes into a drawing of its own. -/
import Derived.Test.YtmfchcaidfloaaaK11
namespace Go.Proofs.Ytmfchcaidfloaaa
open Go.ChangeShapes Go.WideShapes Go.ChangeAt Go.RowKit
set_option linter.unusedVariables false
set_option linter.unusedSimpArgs false

/-- Only blocks from lo on and ahead of hi have turned, and new ones. -/
structure Btw (lo hi : Nat) (w w' : World) : Prop where
  os : w'.os = w.os
  tape : w'.tape = w.tape
  output : w'.output = w.output
  size : w.heap.size ≤ w'.heap.size
  block : ∀ j, j < w.heap.size → ¬ (lo ≤ j ∧ j < hi) → w'.heap[j]? = w.heap[j]?
theorem Btw.refl (lo hi : Nat) (w : World) : Btw lo hi w w := ⟨rfl, rfl, rfl, Nat.le_refl _, fun _ _ _ => rfl⟩
theorem Btw.trans {lo hi : Nat} {a b c : World} (h : Btw lo hi a b) (k : Btw lo hi b c) : Btw lo hi a c :=
  ⟨k.os.trans h.os, k.tape.trans h.tape, k.output.trans h.output, Nat.le_trans h.size k.size, fun j hj hn => (k.block j (Nat.lt_of_lt_of_le hj h.size) hn).trans (h.block j hj hn)⟩
theorem Btw.of_below {lo hi : Nat} {a b : World} (h : Below a.heap.size a b) : Btw lo hi a b := ⟨h.os, h.tape, h.output, h.size, fun j hj _ => h.block j hj⟩
theorem Btw.of_grown {lo hi r : Nat} {a b : World} (h : a.grownBy b (some r)) (h1 : lo ≤ r) (h2 : r < hi) : Btw lo hi a b :=
  ⟨h.os, h.tape, h.output, h.size, fun j hj hn => h.block j hj (fun e => hn (by cases e; exact ⟨h1, h2⟩))⟩
theorem Btw.below {lo hi : Nat} {w0 a b : World} (h : Btw lo hi a b) (h0 : Below w0.heap.size w0 a) (hl : w0.heap.size ≤ lo) : Below w0.heap.size w0 b :=
  ⟨h.os.trans h0.os, h.tape.trans h0.tape, h.output.trans h0.output, Nat.le_trans h0.size h.size, fun j hj => (h.block j (Nat.lt_of_lt_of_le hj h0.size) (by omega)).trans (h0.block j hj)⟩
theorem Btw.own {lo hi : Nat} {a b : World} {base e size n : Nat} {v : Value} {xs : List Value} (h : Btw lo hi a b) (ho : a.ownsRow base e size v n xs) (hn : ∀ k, v.ownBlock = some k → ¬ (lo ≤ k ∧ k < hi)) : b.ownsRow base e size v n xs := by
  rcases ho with ⟨h1, h2 | ⟨g, cap, cur, h2, h3, h4, h5⟩⟩
  · exact ⟨h1, Or.inl h2⟩
  · refine ⟨h1, Or.inr ⟨g, cap, cur, h2, h3, (h.block g (Array.getElem?_eq_some_iff.1 h4).1 (hn g (by rw [h2]; rfl))).trans h4, h5⟩⟩
theorem own_parts {w : World} {base e r n : Nat} {xs : List Value} (h : w.ownsRow base e 1 (.slice (some ⟨r, 0, none⟩) n n) n xs) : base ≤ r ∧ ∃ cur, w.heap[r]? = some (.cells cur e (0, 0)) ∧ cur.size = n := by
  rcases h with ⟨h1, ⟨h2, _⟩ | ⟨g, cap, cur, h2, h3, h4, h5, h6, h7, h8⟩⟩
  · cases h2
  · cases h2
    exact ⟨h3, cur, h4, by omega⟩
def fcMk (fs : List Fc) (j : Nat) : Nat := 1 + ringL fs j
theorem own_partsP {w : World} {base e g n : Nat} {xs : List Value} (h : w.ownsRow base e 2 (.slice (some ⟨g, 0, none⟩) n n) n xs) : base ≤ g ∧ ∃ cur, w.heap[g]? = some (.cells cur e (0, 0)) := by
  rcases h with ⟨h1, ⟨h2, _⟩ | ⟨g', cap, cur, h2, h3, h4, h5⟩⟩
  · cases h2
  · cases h2
    exact ⟨h3, cur, h4⟩
theorem fcMk_le (fs : List Fc) (k : Nat) : sumN (fcMk fs) k ≤ k + sumN (fcAt fs) k := by
  induction k with
  | zero => exact Nat.le_refl _
  | succ k ih =>
    have h1 : sumN (fcMk fs) (k + 1) = sumN (fcMk fs) k + (1 + ringL fs k) := rfl
    have h2 : sumN (fcAt fs) (k + 1) = sumN (fcAt fs) k + ((fs.getD k fc0).1.size + ringL fs k) := rfl
    omega
end Go.Proofs.Ytmfchcaidfloaaa
