/- A copy of a leaf, turned over: impl. -/
import Derived.Test.YtcjpplijbdfgbaaDoorMat1
import Derived.Test.YtcjpplijbdfgbaaDoorLfS
import Derived.Test.YtcjpplijbdfgbaaDoorLea13
import Derived.Lib.LazyBuf
namespace Go.Proofs.YtcjpplijbdfgbaaDoor
open Seq2 Go.ChangeShapes Go.WideShapes Go.ChangeAt Go.RowKit
set_option linter.unusedVariables false
set_option linter.unusedSimpArgs false

theorem flatBx_at (ds : List Bx) (j : Nat) (u : Value) (h : (flatBx ds)[j]? = some u) : ∃ i q, i < ds.length ∧ q < 4 ∧ j = i * 4 + q ∧ (oneBx (ds.getD i bx0))[q]? = some u := by
  have hj : j < ds.length * 4 := by
    have := (List.getElem?_eq_some_iff.1 h).1
    rwa [flatBx_len] at this
  have hi : j / 4 < ds.length := by omega
  have hq : j % 4 < 4 := by omega
  have e : j = j / 4 * 4 + j % 4 := by omega
  refine ⟨j / 4, j % 4, hi, hq, e, ?_⟩
  rw [← flatBx_get ds (j / 4) (j % 4) hi hq, ← e]
  exact h
theorem oneBx_cell {w : World} {b o q : Nat} {z : Bx} {u : Value} (h : BxAt w b o z) (hu : (oneBx z)[q]? = some u) : w.cell? ⟨b, o + q, none⟩ = some u := by
  obtain ⟨_, h0, h1, h2, h3⟩ := h
  match q, hu with
  | 0, hu => cases hu; exact h0
  | 1, hu => cases hu; exact h1
  | 2, hu => cases hu; exact h2
  | 3, hu => cases hu; exact h3
  | q + 4, hu => simp [oneBx] at hu
theorem flatBx_one (ds : List Bx) : ∀ u ∈ flatBx ds, u.oneCell' = true := fun u hu => by
  simp only [flatBx, List.mem_flatMap, oneBx, List.mem_cons, List.not_mem_nil, or_false] at hu
  obtain ⟨z, _, rfl | rfl | rfl | rfl⟩ := hu <;> rfl
set_option maxRecDepth 100000 in
set_option maxHeartbeats 2000000 in
theorem clone_bx (ao : Option Addr) (n c : Nat) (ds : List Bx) (w : World) (hn : n ≤ 1048576) (hv : BxV w ao n ds) :
    Calls Tryd.prog 124 #[.slice ao n c] w fun e w' => ∃ v, e = .returned v ∧ OwnBx w' w.heap.size v ds ∧ Below w.heap.size w w' := by
  have hz := hv.1
  cases ao with
  | none =>
    have h0 : n = 0 := by
      rcases hv.2 with h | ⟨b, h, _⟩
      · exact h
      · cases h
    subst h0
    obtain rfl := List.eq_nil_of_length_eq_zero hz.symm
    clear hv hz
    have hnil := fun w => run_eql_slice_nil (P := Tryd.prog) w 31 37 none 0 c Tryd.underlying31
    simp only [Option.isNone] at hnil
    go_enter Tryd.func124, Tryd.ntmps124
    go_wp2
    go_ret
    exact ⟨_, rfl, OwnBx.nil _ _, Below.refl _ _⟩
  | some a =>
    obtain ⟨i0, hi, hz0, hz1, hz2⟩ := info_parts infoBx
    have hown := World.ownsRow_made w (e := 37) (base := w.heap.size) (size := 4) #[] 0 (Nat.le_refl _) (by unfold maxLen; omega) rfl
    have HB := Lib.hid (one_alloc (w := w) (.cells #[] 37))
    have hle := HB.out.size
    have hlen : (flatBx ds).length = n * 4 := by rw [flatBx_len, ← hz]
    have hnews : ∀ j u, (flatBx ds)[j]? = some u → (w.alloc (.cells #[] 37)).cell? (Addr.add a j) = some u := fun j u hj => by
      obtain ⟨i, q, h1, h2, rfl, h4⟩ := flatBx_at ds j u hj
      rcases (hv.below HB.out).2 with h | ⟨b, h, hat⟩
      · omega
      · cases h
        rw [add_off0, Nat.zero_add]
        exact oneBx_cell (hat i (by omega)) h4
    have hne : (Value.slice (some ⟨w.heap.size, 0, none⟩) 0 0).ownBlock ≠ some a.block ∨ n = 0 := by
      rcases hv.2 with h | ⟨b, h, hat⟩
      · exact Or.inr h
      · by_cases h0 : n = 0
        · exact Or.inr h0
        · cases h
          have := (hat 0 (by omega)).1
          exact Or.inl (by simp [Value.ownBlock]; omega)
    have HH := Lib.hid (And.intro hnews (flatBx_one ds))
    have HZ := Lib.hid hz
    have hnil := fun w => run_eql_slice_nil (P := Tryd.prog) w 31 37 (some a) n c Tryd.underlying31
    simp only [Option.isNone] at hnil
    clear hnews hv hz
    go_enter Tryd.func124, Tryd.ntmps124
    go_wp2_with (at_builtin; refine wpList_append_own _ rfl _ _ 31 rfl w.heap.size 37 i0 _ 4 32 Tryd.underlying31 hi hz0 hz1 hz2 rfl (by omega) _ 0 [] rfl hown a n c (flatBx ds) rfl hlen HH.out.1 HH.out.2 (by unfold maxLen; omega) (by omega) hle ?_)
    intro v' w4 hown' hgrow _
    have HO := Lib.hid (show OwnBx w4 w.heap.size v' ds by
      unfold OwnBx
      rw [← HZ.out]
      simpa using hown')
    have HB' := Lib.hid (HB.out.grown hgrow hle (fun k hk => (by cases hk; exact Nat.le_refl _)))
    clear hown' hgrow hown
    go_wp2
    go_ret
    exact ⟨v', rfl, HO.out, HB'.out⟩
end Go.Proofs.YtcjpplijbdfgbaaDoor
