/- The sizes that a law adds up. -/
import Derived.Test.YtjhmpmaademdcaaOwnP
import Derived.Test.YtjhmpmaademdcaaK3
import Derived.Test.YtjhmpmaademdcaaPolyG4
import Derived.Test.YtjhmpmaademdcaaOwnMark
namespace Go.Proofs.Ytjhmpmaademdcaa
open Go.ChangeShapes Go.WideShapes Go.ChangeAt Go.RowKit
set_option linter.unusedVariables false

theorem szI_ok (ao : Option Addr) (n c : Nat) (l : Int) (w : World) (h0 : 0 ≤ l) (hl : l ≤ 1048576) (hn : (n : Int) ≤ l) : Calls Try.prog 16 #[.slice ao n c, .int .i64 l] w fun e w' => e = .returned (.int .i64 (l - n)) ∧ w = w' := by
  have e1 : IntKind.i64.wrap (l - (n : Int)) = l - (n : Int) := IntWalk.i64_in _ (by omega)
  have e2 : decide (l - (n : Int) < 0) = false := by simp; omega
  go_enter Try.func16, Try.ntmps16
  go_wp2
  go_ret
  exact ⟨rfl, rfl⟩
theorem szI_no (ao : Option Addr) (n c : Nat) (l : Int) (w : World) (h0 : 0 ≤ l) (hl : l ≤ 1048576) (hn : l < (n : Int)) (hm : n ≤ 9223372036854775807) : Calls Try.prog 16 #[.slice ao n c, .int .i64 l] w fun e w' => e = .returned (.int .i64 (-1)) ∧ w = w' := by
  have e1 : IntKind.i64.wrap (l - (n : Int)) = l - (n : Int) := IntWalk.i64_in _ (by omega)
  have e2 : decide (l - (n : Int) < 0) = true := by simp; omega
  go_enter Try.func16, Try.ntmps16
  go_wp2
  go_ret
  exact ⟨rfl, rfl⟩
/-- A copy, as a slice that the call has made. -/
theorem own_copy {w : World} {base g n : Nat} {zs : List P2} (hz : n = zs.length) (hn : n ≤ 1048576) (hb : base ≤ g) (h : w.rowIs g 30 (n * 2) (ptF zs n)) : w.ownsRow base 30 2 (.slice (some ⟨g, 0, none⟩) n n) n (flatP zs) := by
  obtain ⟨c, h1, h2, h3⟩ := h
  refine ⟨by rw [flatP_len, hz], Or.inr ⟨g, n, c, rfl, hb, h1, Nat.le_refl _, by unfold maxLen; omega, h2, ?_⟩⟩
  apply List.ext_getElem?
  intro j
  by_cases hj : j < n * 2
  · rw [List.getElem?_take_of_lt hj, Array.getElem?_toList, h3 j hj]
    have hk : j / 2 < zs.length := by omega
    have := flatP_at hk
    unfold ptF
    rw [if_pos hj]
    rcases Nat.mod_two_eq_zero_or_one j with hm | hm
    · have ej : j / 2 * 2 = j := by omega
      rw [ej] at this
      rw [if_pos hm, ← ej]; simpa [ej] using this.1.symm
    · have ej : j / 2 * 2 + 1 = j := by omega
      rw [ej] at this
      rw [if_neg (by omega), ← ej]; simpa [ej] using this.2.symm
  · rw [List.getElem?_take, if_neg hj, List.getElem?_eq_none (by rw [flatP_len]; omega)]
theorem own_PV {w : World} {base n : Nat} {v : Value} {zs : List P2} (h : w.ownsRow base 30 2 v n (flatP zs)) : ∃ ao cap, v = .slice ao n cap ∧ n ≤ cap ∧ PV w ao n zs := by
  have hl : zs.length * 2 = n * 2 := by rw [← flatP_len]; exact h.1
  have hz : n = zs.length := by omega
  rcases id h with ⟨_, ⟨rfl, h0⟩ | ⟨g, cap, cur, rfl, hb, hg, hc1, hc2, _⟩⟩
  · exact ⟨none, 0, by rw [h0], by omega, hz, Or.inl h0⟩
  · subst hz
    exact ⟨_, cap, rfl, hc1, pts_PV rfl (own_pts h)⟩
set_option maxRecDepth 100000 in
set_option maxHeartbeats 1000000 in
theorem toPts_own (ao : Option Addr) (n c : Nat) (zs : List P2) (w : World) (hn : n ≤ 1048576) (hv : LView w ao n zs) :
    Calls Try.prog 18 #[.slice ao n c] w fun e w' => ∃ g, e = .returned (.slice (some ⟨g, 0, none⟩) n n) ∧ w'.ownsRow w.heap.size 30 2 (.slice (some ⟨g, 0, none⟩) n n) n (flatP zs) ∧ PV w' (some ⟨g, 0, none⟩) n zs ∧ Below w.heap.size w w' :=
  (toPoints_any ao n c zs w hn hv).mono fun _ _ ⟨g, h1, h2, h3, h4⟩ => ⟨g, h1, own_copy hv.1 hn h2 h3, pts_PV hv.1 (rowIs_pts hv.1 h3), h4⟩
theorem ne_block {w1 w' : World} {b1 b2 e1 e2 n m : Nat} {s1 s2 : Nat} {v u : Value} {xs ys : List Value} (h1 : w1.ownsRow b1 e1 s1 v n xs) (hb : w1.heap.size ≤ b2) (h2 : w'.ownsRow b2 e2 s2 u m ys) : u.ownBlock = none ∨ u.ownBlock ≠ v.ownBlock := by
  cases hu : u.ownBlock with
  | none => exact Or.inl rfl
  | some k =>
    refine Or.inr fun h => ?_
    have := (World.ownsRow.lt h1 k h.symm).2
    have := (World.ownsRow.lt h2 k hu).1
    omega
theorem ne_symm {u v : Value} (h : u.ownBlock = none ∨ u.ownBlock ≠ v.ownBlock) : v.ownBlock = none ∨ v.ownBlock ≠ u.ownBlock := by
  rcases h with h | h
  · cases hv : v.ownBlock with
    | none => exact Or.inl rfl
    | some k => exact Or.inr (by rw [h]; simp)
  · exact Or.inr (Ne.symm h)
theorem own_slice {w' : World} {base : Nat} {v : Value} {zs : List P2} (h : w'.ownsRow base 30 2 v zs.length (flatP zs)) : ∃ ao cap, v = .slice ao zs.length cap ∧ PV w' ao zs.length zs := by
  obtain ⟨ao, cap, h1, _, h2⟩ := own_PV h
  exact ⟨ao, cap, h1, h2⟩
theorem own_pv' {w' : World} {base n cap : Nat} {ao : Option Addr} {zs : List P2} (h : w'.ownsRow base 30 2 (.slice ao n cap) n (flatP zs)) : PV w' ao n zs := by
  obtain ⟨a, c, h1, _, h2⟩ := own_PV h
  cases h1
  exact h2
end Go.Proofs.Ytjhmpmaademdcaa
