/- Slices of numbers as arguments of laws. -/
import Derived.Test.YtcjpplijbdfgbaaDoorK15
import Derived.Test.YtcjpplijbdfgbaaDoorK17
import Derived.ChangeSlices
import Derived.ChangeMaps5
namespace Go.Proofs.YtcjpplijbdfgbaaDoor
open Go.ChangeShapes Go.WideShapes Go.ChangeAt Go.RowKit
set_option linter.unusedVariables false
set_option linter.unusedSimpArgs false

/-- Numbers at the start of a block. -/
def IsAt (w : World) (q : Nat) (zs : List Int) : Prop := IntsAt w q zs
theorem IsAt.below {w w' : World} {q : Nat} {zs : List Int} (h : IsAt w q zs) (hb : Below w.heap.size w w') : IsAt w' q zs := IntsAt.below h hb (Nat.le_refl _)
/-- The numbers that came in. -/
def IsL (w : World) (ao : Option Addr) (zs : List Int) : Prop := View w ao zs
theorem IsL.below {w w' : World} {ao : Option Addr} {zs : List Int} (h : IsL w ao zs) (hb : Below w.heap.size w w') : IsL w' ao zs := View.below h hb (Nat.le_refl _)
theorem toIs_own (ao : Option Addr) (c : Nat) (zs : List Int) (w : World) (hl : zs.length ≤ 1048576) (h : IsL w ao zs) :
    Calls Tryd.prog 29 #[.slice ao zs.length c] w fun e w' => e = .returned (.slice (some ⟨w.heap.size, 0, none⟩) zs.length zs.length) ∧ IsAt w' w.heap.size zs ∧ Below w.heap.size w w' := toInts_view ao c zs w hl h
theorem eqIs_same (b1 b2 c1 c2 : Nat) (zs : List Int) (w : World) (hl : zs.length ≤ 1048576) (h1 : IsAt w b1 zs) (h2 : IsAt w b2 zs) :
    Calls Tryd.prog 31 #[.slice (some ⟨b1, 0, none⟩) zs.length c1, .slice (some ⟨b2, 0, none⟩) zs.length c2] w fun e w' => e = .returned (.bool true) ∧ Below w.heap.size w w' := by
  refine (eqInts_yes b1 b2 c1 c2 zs w hl h1 h2).mono ?_
  rintro e w' ⟨rfl, n, rfl⟩
  exact ⟨rfl, drew_belowW w n _⟩
section
theorem cInt64 : Tryd.prog.cellsOf 2 = 1 := by kernel_rfl
set_option maxRecDepth 100000 in
set_option maxHeartbeats 2000000 in
theorem open_is {H : Type} {enc : TypeId × Value → H} {W : World} {base : Nat} {v : Value} {d : DataW H} {p : List MemPlace} (hval : Value.okWide Tryd.prog W .any base 55 v)
    (h : DataW.Trod enc Tryd.prog W 0 (fun _ => true) true 55 v d p) (hlt : ∀ x ∈ p, x.block < W.heap.size) : ∃ ao cap zs, v = .slice ao zs.length cap ∧ zs.length ≤ 9223372036854775807 ∧ IsL W ao zs := by
  obtain ⟨a0, len, cap, rfl⟩ := okWide_slice Tryd.underlying55 hval
  obtain ⟨fuel, hf⟩ := h
  rcases open_ints Tryd.underlying55 Tryd.underlying2 cInt64 hf with ⟨hcs, hx⟩ | ⟨a, len', cap', zs, hcs, _, hl, hm, hz, hx, hcell, hwz⟩
  · simp [Value.cells] at hcs
    obtain ⟨rfl, rfl, rfl⟩ := hcs
    exact ⟨none, 0, [], rfl, by simp, Or.inl rfl⟩
  · simp [Value.cells] at hcs
    obtain ⟨rfl, rfl, rfl⟩ := hcs
    simp only [Prod.mk.injEq] at hx
    obtain ⟨rfl, rfl⟩ := hx
    simp only [if_true] at hz
    have hlen : (zs.take len).length = len := by rw [List.length_take]; omega
    refine ⟨some a, cap, zs.take len, by rw [hlen], by rw [hlen]; unfold maxLen at hm; omega, ?_⟩
    by_cases hl0 : len = 0
    · left; subst hl0; rfl
    · right
      obtain ⟨b, off, spot⟩ := a
      have hspot : spot = none := by simpa [Addr.add] using World.cell?_spot (hcell 0 (by omega))
      subst hspot
      refine ⟨b, off, rfl, ?_, fun j hj => ?_⟩
      · exact hlt (.cell b off) (MemPlace.mem_row.2 ⟨0, by omega, rfl⟩)
      · rw [hlen] at hj
        rw [← add_plain, hcell j (by omega)]
        congr 2
        rw [List.getD, List.getD, List.getElem?_take_of_lt hj]
end
end Go.Proofs.YtcjpplijbdfgbaaDoor
