/- ListText of impl: the text of a list of numbers. -/
import Derived.Test.YthjimogeimigmaaDoorListText
import Derived.Test.YthjimogeimigmaaDoorDecimal
namespace Go.Proofs.YthjimogeimigmaaDoor
open Go.ChangeShapes Go.WideShapes Go.ChangeAt Go.RowKit Go.Joins

theorem Tryd.infoStr : (Tryd.prog.info? 9).map (fun i => (i.zero, i.size, i.bytes)) = some (some (.string ⟨#[]⟩), 1, 16) := by kernel_rfl

/-- What is owned stays owned behind a call that leaves all older blocks alone. -/
theorem own_below {w w' : World} {base e size n B : Nat} {v : Value} {xs : List Value} (h : w.ownsRow base e size v n xs) (hb : Below B w w') (hB : w.heap.size ≤ B) : w'.ownsRow base e size v n xs := by
  have hlt := h.lt
  obtain ⟨h1, h2 | ⟨g, cap, cur, rfl, h3, h4, h5⟩⟩ := h
  · exact ⟨h1, Or.inl h2⟩
  · refine ⟨h1, Or.inr ⟨g, cap, cur, rfl, h3, ?_, h5⟩⟩
    rw [hb.block g (by have := (hlt g rfl).2; omega)]
    exact h4

/-- The loop: the first k texts are written. -/
structure TxInv (zs : List Int) (k B g : Nat) (w wr : World) : Prop where
  own : ∃ X, wr.ownsRow B 9 1 (.slice (some ⟨g, 0, none⟩) zs.length zs.length) zs.length X ∧ ∀ j, j < k → X[j]? = some (.string (tb (Lib.itoa (zs.getD j 0))))
  below : Below B w wr
  lt : B ≤ g ∧ g < wr.heap.size
theorem tx_call {zs : List Int} {k B g : Nat} {w wr w1 : World} (h : TxInv zs k B g w wr) (hb : Below wr.heap.size wr w1) (hBw : B ≤ wr.heap.size) : TxInv zs k B g w w1 := by
  obtain ⟨⟨X, h1, h2⟩, h3, h4⟩ := h
  exact ⟨⟨X, own_below h1 hb (Nat.le_refl _), h2⟩, h3.trans (hb.mono hBw), h4.1, by have := hb.size; omega⟩
theorem tx_step {zs : List Int} {k B g : Nat} {w wr : World} (h : TxInv zs k B g w wr) (hk : k < zs.length) : TxInv zs (k + 1) B g w (wr.setCell ⟨g, k, none⟩ (.string (tb (Lib.itoa (zs.getD k 0))))) := by
  obtain ⟨⟨X, h1, h2⟩, h3, h4⟩ := h
  have hX : X.length = zs.length := by have := h1.1; simpa using this
  obtain ⟨s1, s2⟩ := h1.stored k (.string (tb (Lib.itoa (zs.getD k 0))))
  refine ⟨⟨_, s1, fun j hj => ?_⟩, h3.setCell h4.1 _, h4.1, by have := s2.size; omega⟩
  by_cases e : j = k
  · subst e; rw [List.getElem?_set_self (by omega)]
  · rw [List.getElem?_set_ne (by omega)]; exact h2 j (by omega)
theorem tx_free {zs : List Int} {k B g : Nat} {w wr : World} (h : TxInv zs k B g w wr) (j : Nat) : wr.frozen? ⟨g, j, none⟩ = false := by
  obtain ⟨⟨X, h1, _⟩, _, _⟩ := h
  exact h1.frozenAt j
theorem tx_cell {zs : List Int} {k B g : Nat} {w wr : World} (h : TxInv zs k B g w wr) (j : Nat) (hj : j < zs.length) : ∃ v, wr.cell? ⟨g, j, none⟩ = some v := by
  obtain ⟨⟨X, h1, _⟩, _, _⟩ := h
  have hX : X.length = zs.length := by have := h1.1; simpa using this
  exact ⟨X[j]'(by omega), by rw [h1.cellAt j (by omega)]; simp⟩
theorem tx_end {zs : List Int} {k B g : Nat} {w wr : World} (h : TxInv zs k B g w wr) (hk : zs.length ≤ k) : ∀ (j : Nat) x, (zs.map fun z => tb (Lib.itoa z))[j]? = some x → wr.cell? ⟨g, 0 + j, none⟩ = some (.string x) := by
  obtain ⟨⟨X, h1, h2⟩, _, h4⟩ := h
  intro j x hx
  have hj : j < zs.length := by
    have := (List.getElem?_eq_some_iff.1 hx).1
    simpa using this
  rw [Nat.zero_add, h1.cellAt j (by omega), h2 j (by omega)]
  simp [hj] at hx
  simp [hj, hx]
theorem decimal_tb (n : Int) (w : World) (h1 : -9223372036854775808 ≤ n) (h2 : n ≤ 9223372036854775807) (ht : TabOk w) :
    Calls Tryd.prog 68 #[.int .i64 n] w fun e w' => e = .returned (.string (tb (Lib.itoa n))) ∧ Below w.heap.size w w' := decimal_impl n w h1 h2 ht
end Go.Proofs.YthjimogeimigmaaDoor
