/- What an argument reads as it reads again behind a call that changes nothing below its start, whatever its type. And a slice of points among the arguments of a law. -/
import Derived.Test.YtjhmpmaademdcaaPolyValid
import Derived.Test.YtjhmpmaademdcaaPtArg
import Derived.ChangeStays
import Derived.ReadAgain
import Derived.Deep.Slices
namespace Go.Proofs.Ytjhmpmaademdcaa
open Go.ChangeShapes Go.WideShapes Go.ChangeAt Go.RowKit Go.Joins Go.Deep

theorem kids : Kids Try.prog (· < Try.prog.types.size) := kids_rows (by kernel_rfl) (by kernel_rfl)
theorem full : ∀ t e, t < Try.prog.types.size → Try.prog.underlying t = some (.slice e) → 0 < Try.prog.cellsOf e := slices_full_of _ (by kernel_rfl)
theorem sameAt_below {B : Nat} {w w' : World} (h : Below B w w') {p : MemPlace} (hp : p.block < B) : w.sameAt w' p := by
  cases p with
  | cell b o => exact World.cell?_of_block (w := w) (h.block b hp)
  | map b => exact h.block b hp
theorem trod_again {H : Type} {enc : TypeId × Value → H} {W W' : World} {t : TypeId} {v : Value} {d : DataW H} {p : List MemPlace} (ht : t < Try.prog.types.size)
    (h : DataW.Trod enc Try.prog W 0 (fun _ => true) true t v d p) (hlt : ∀ x ∈ p, x.block < W.heap.size) (hb : Below W.heap.size W W') (sp : Nat → Bool) (hsp : ∀ x ∈ p, sp x.block = true) : DataW.Trod enc Try.prog W' 0 sp true t v d p := by
  obtain ⟨n, hn⟩ := h
  exact ⟨n, DataW.trod_stays kids (fun ht he => full _ _ ht he) (fun h => by cases h) ht hn (fun x hx => sameAt_below hb (hlt x hx)) hsp⟩

/-- A slice of points that came in: n of them, at a place of a block. -/
def LView (w : World) (ao : Option Addr) (n : Nat) (zs : List P2) : Prop := n = zs.length ∧ (n = 0 ∨ ∃ b off, ao = some ⟨b, off, none⟩ ∧ b < w.heap.size ∧ ∀ j, j < n → w.cell? ⟨b, off + j * 2, none⟩ = some (.int .i64 (zs.getD j (0, 0)).1) ∧ w.cell? ⟨b, off + j * 2 + 1, none⟩ = some (.int .i64 (zs.getD j (0, 0)).2))
theorem LView.below {w w' : World} {ao : Option Addr} {n : Nat} {zs : List P2} (h : LView w ao n zs) (hb : Below w.heap.size w w') : LView w' ao n zs :=
  ⟨h.1, h.2.imp id fun ⟨b, off, e, h1, h2⟩ => ⟨b, off, e, Nat.lt_of_lt_of_le h1 hb.size, fun j hj => ⟨(hb.cell (p := ⟨b, off + j * 2, none⟩) h1).trans (h2 j hj).1, (hb.cell (p := ⟨b, off + j * 2 + 1, none⟩) h1).trans (h2 j hj).2⟩⟩⟩
theorem add_off (b off j : Nat) : Addr.add ⟨b, off, none⟩ j = ⟨b, off + j, none⟩ := by
  unfold Addr.add
  split
  · subst_vars; rfl
  · simp
set_option maxRecDepth 100000 in
/-- The two cells of a point. -/
theorem pt_cells {H : Type} {enc : TypeId × Value → H} {W : World} {base : Nat} {sp : Nat → Bool} {n : Nat} {cs : List Value} {x : DataW H × List MemPlace} (h : DataW.trod enc Try.prog W base sp true n 24 cs = some x) : ∃ a b : Int, cs = [.int .i64 a, .int .i64 b] := by
  obtain ⟨xs, m, _, _, hl, _, hf⟩ := DataW.trod_struct Try.underlying24 h
  rw [cLP] at hl
  match cs, hl with
  | [c0, c1], _ =>
    have h0 := hf 0 _ rfl
    have h1 := hf 1 _ rfl
    obtain ⟨x0, hx0⟩ : ∃ y, xs[0]? = some y := by
      cases h : xs[0]? with
      | none => simp_all
      | some y => exact ⟨y, rfl⟩
    obtain ⟨x1, hx1⟩ : ∃ y, xs[1]? = some y := by
      cases h : xs[1]? with
      | none => simp_all
      | some y => exact ⟨y, rfl⟩
    have hc : Try.prog.cellsOf 2 = 1 := by kernel_rfl
    rw [hx0] at h0
    rw [hx1] at h1
    change DataW.trod enc Try.prog W base sp true m 2 (([c0, c1].drop 0).take (Try.prog.cellsOf 2)) = _ at h0
    change DataW.trod enc Try.prog W base sp true m 2 (([c0, c1].drop 1).take (Try.prog.cellsOf 2)) = _ at h1
    rw [hc] at h0 h1
    obtain ⟨a, e0, _, _⟩ := DataW.trod_int Try.underlying2 h0
    obtain ⟨b, e1, _, _⟩ := DataW.trod_int Try.underlying2 h1
    simp at e0 e1
    subst e0 e1
    exact ⟨a, b, rfl⟩
set_option maxRecDepth 100000 in
theorem open_pts {H : Type} {enc : TypeId × Value → H} {W : World} {base : Nat} {v : Value} {d : DataW H} {p : List MemPlace} (hval : Value.okWide Try.prog W .any base 22 v)
    (h : DataW.Trod enc Try.prog W 0 (fun _ => true) true 22 v d p) (hlt : ∀ x ∈ p, x.block < W.heap.size) : ∃ ao n cap zs, v = .slice ao n cap ∧ n ≤ 9223372036854775807 ∧ LView W ao n zs := by
  obtain ⟨a0, len, cap, rfl⟩ := okWide_slice Try.underlying22 hval
  obtain ⟨fuel, hf⟩ := h
  rcases open_slice Try.underlying22 hf with ⟨hcs, hx⟩ | ⟨a, len', cap', m, n, D, Pl, hcs, _, hl, hm, hmm, hx, hi⟩
  · simp [Value.cells] at hcs
    obtain ⟨rfl, rfl, rfl⟩ := hcs
    exact ⟨none, 0, 0, [], rfl, by omega, rfl, Or.inl rfl⟩
  · simp [Value.cells] at hcs
    obtain ⟨rfl, rfl, rfl⟩ := hcs
    simp only [Prod.mk.injEq] at hx
    obtain ⟨rfl, rfl⟩ := hx
    simp only [if_true] at hmm
    rw [cLP] at hi
    have hi2 : ∀ i, i < m → ∃ q : P2, W.cell? ((a.add (i * 2)).add 0) = some (.int .i64 q.1) ∧ W.cell? ((a.add (i * 2)).add 1) = some (.int .i64 q.2) := fun i him => by
      obtain ⟨cs', hc, ht⟩ := hi i him
      obtain ⟨_, hcl, hat⟩ := World.cells?_some hc
      obtain ⟨x, y, rfl⟩ := pt_cells ht
      exact ⟨(x, y), hat 0 (by omega), hat 1 (by omega)⟩
    obtain ⟨f, hfn⟩ := choose_lt hi2
    refine ⟨some a, len, cap, (List.range len).map f, rfl, by unfold maxLen at hm; omega, by simp, ?_⟩
    by_cases h0 : len = 0
    · exact Or.inl h0
    · right
      obtain ⟨b, off, spot⟩ := a
      have hspot : spot = none := by
        have := World.cell?_spot (hfn 0 (by omega)).1
        simpa [Addr.add] using this
      subst hspot
      refine ⟨b, off, rfl, ?_, fun j hj => ?_⟩
      · have := hlt (.cell b off) (List.mem_append_left _ (MemPlace.mem_row.2 ⟨0, by rw [cLP]; omega, rfl⟩))
        exact this
      · have h2 := hfn j (by omega)
        rw [add_off, add_off, add_off] at h2
        have e : ((List.range len).map f).getD j (0, 0) = f j := by simp [hj]
        rw [e]
        exact h2
end Go.Proofs.Ytjhmpmaademdcaa
