/- eqInt64S, markInt64S, heldInt64S over slices that calls have made. -/
import Derived.Test.YtglbbpcdodlnmaaDoorInts
namespace Go.Proofs.YtglbbpcdodlnmaaDoor
open Go.ChangeShapes Go.WideShapes Go.ChangeAt Go.RowKit

theorem own_view {w : World} {base e n : Nat} {v : Value} {xs : List Value} (h : w.ownsRow base e 1 v n xs) : ∃ ao cap, v = .slice ao n cap ∧ (0 < n → ∃ g, ao = some ⟨g, 0, none⟩ ∧ base ≤ g ∧ g < w.heap.size) := by
  have h2 := h.lt
  obtain ⟨_, ⟨rfl, h0⟩ | ⟨g, cap, cur, rfl, hg, hc, hcap, _⟩⟩ := h
  · subst h0; exact ⟨none, 0, rfl, fun h => by omega⟩
  · exact ⟨some ⟨g, 0, none⟩, cap, rfl, fun _ => ⟨g, rfl, hg, (h2 g rfl).2⟩⟩
theorem eqInts_nil (a1 a2 : Option Addr) (c1 c2 : Nat) (w : World) :
    Calls Tryd.prog 33 #[.slice a1 0 c1, .slice a2 0 c2] w fun e w' => e = .returned (.bool true) ∧ ∃ n, w' = w.drewN n := by
  go_enter Tryd.func33, Tryd.ntmps33
  go_wp2
  go_loop [5] (fun i => i = .int .i64 0) (fun _ => 0)
  case atStart => rfl
  case round =>
    obtain rfl := hrel
    go_wp2
    go_ret
    exact ⟨rfl, 0, rfl⟩
theorem eqOwn (v1 v2 : Value) (b1 b2 : Nat) (zs : List Int) (w : World) (hl : zs.length ≤ 1048576) (h1 : w.ownsRow b1 2 1 v1 zs.length (zs.map (Value.int .i64))) (h2 : w.ownsRow b2 2 1 v2 zs.length (zs.map (Value.int .i64))) :
    Calls Tryd.prog 33 #[v1, v2] w fun e w' => e = .returned (.bool true) ∧ ∃ n, w' = w.drewN n := by
  have h1' := h1
  have h2' := h2
  obtain ⟨a1, c1, rfl, s1⟩ := own_view h1
  obtain ⟨a2, c2, rfl, s2⟩ := own_view h2
  by_cases h0 : zs.length = 0
  · rw [h0]; exact eqInts_nil a1 a2 c1 c2 w
  · obtain ⟨g1, rfl, _, l1⟩ := s1 (by omega)
    obtain ⟨g2, rfl, _, l2⟩ := s2 (by omega)
    refine eqInts_yes g1 g2 c1 c2 zs w hl ⟨l1, fun j hj => ?_⟩ ⟨l2, fun j hj => ?_⟩
    · rw [h1'.cellAt j (by omega)]; simp [hj]
    · rw [h2'.cellAt j (by omega)]; simp [hj]

/-- The slice v of n places holds 1, 2 .. n. -/
def Marked (w : World) (base : Nat) (v : Value) (n : Nat) : Prop := ∃ X, w.ownsRow base 2 1 v n X ∧ ∀ t, t < n → X[t]? = some (.int .i64 (1 + (t : Int)))

structure MkInv (k n base g cap : Nat) (w wr : World) : Prop where
  own : ∃ X, wr.ownsRow base 2 1 (.slice (some ⟨g, 0, none⟩) n cap) n X ∧ ∀ t, t < k → X[t]? = some (.int .i64 (1 + (t : Int)))
  below : Below base w wr
  lt : base ≤ g
theorem mk_step {k n base g cap : Nat} {w wr : World} (h : MkInv k n base g cap w wr) (hk : k < n) : MkInv (k + 1) n base g cap w (wr.setCell ⟨g, k, none⟩ (.int .i64 (1 + (k : Int)))) := by
  obtain ⟨⟨X, h1, h2⟩, h3, h4⟩ := h
  have hX : X.length = n := by have := h1.1; simpa using this
  obtain ⟨s1, s2⟩ := h1.stored k (.int .i64 (1 + (k : Int)))
  refine ⟨⟨_, s1, fun j hj => ?_⟩, h3.setCell h4 _, h4⟩
  by_cases e : j = k
  · subst e; rw [List.getElem?_set_self (by omega)]
  · rw [List.getElem?_set_ne (by omega)]; exact h2 j (by omega)
theorem mk_free {k n base g cap : Nat} {w wr : World} (h : MkInv k n base g cap w wr) (j : Nat) : wr.frozen? ⟨g, j, none⟩ = false := by
  obtain ⟨⟨X, h1, _⟩, _, _⟩ := h
  exact h1.frozenAt j
theorem mk_cell {k n base g cap : Nat} {w wr : World} (h : MkInv k n base g cap w wr) (j : Nat) (hj : j < n) : ∃ v, wr.cell? ⟨g, j, none⟩ = some v := by
  obtain ⟨⟨X, h1, _⟩, _, _⟩ := h
  have hX : X.length = n := by have := h1.1; simpa using this
  exact ⟨X[j]'(by omega), by rw [h1.cellAt j (by omega)]; simp⟩

set_option maxHeartbeats 1000000 in
theorem markOwn (v : Value) (base n : Nat) (xs : List Value) (w : World) (hl : n ≤ 1048576) (h : w.ownsRow base 2 1 v n xs) :
    Calls Tryd.prog 35 #[v, .int .i64 1] w fun e w' => e = .returned (.int .i64 (1 + (n : Int))) ∧ Marked w' base v n ∧ Below base w w' := by
  obtain ⟨ao, cap, rfl, sh⟩ := own_view h
  by_cases h0 : n = 0
  · subst h0
    have HO : Hid (Marked w base (.slice ao 0 cap) 0) := Lib.hid ⟨xs, h, fun t ht => by omega⟩
    clear h sh
    go_enter Tryd.func35, Tryd.ntmps35
    go_wp2
    go_loop [1, 5] (fun k i => k = .int .i64 1 ∧ i = .int .i64 0) (fun _ _ => 0)
    case atStart => exact ⟨rfl, rfl⟩
    case round =>
      obtain ⟨rfl, rfl⟩ := hrel
      go_wp2
      go_ret
      exact ⟨rfl, HO.out, Below.refl _ _⟩
  · obtain ⟨g, rfl, hg1, hg2⟩ := sh (by omega)
    have HI : Hid (MkInv 0 n base g cap w w) := Lib.hid ⟨⟨xs, h, fun t ht => by omega⟩, Below.refl _ _, hg1⟩
    clear h sh h0
    go_enter Tryd.func35, Tryd.ntmps35
    go_wp2
    go_loopw [1, 5] (fun m i wr => ∃ k : Nat, k ≤ n ∧ m = .int .i64 (1 + (k : Int)) ∧ i = .int .i64 k ∧ Hid (MkInv k n base g cap w wr)) (fun _ i _ => n - (intOf i).toNat)
    case atStart => exact ⟨0, by omega, rfl, rfl, HI⟩
    case round =>
      obtain ⟨k, hk, rfl, rfl, hI⟩ := hrel
      by_cases hlt : k < n
      · obtain ⟨v0, hdst⟩ := mk_cell hI.out k hlt
        have hfree := mk_free hI.out k
        have HN := Lib.hid (mk_step hI.out hlt)
        go_wp2
        go_roundw
        case rel => exact ⟨k + 1, by omega, val_int (by omega), by go_num, HN⟩
        case measure => simp [intOf]; omega
      · have HE : Hid (Marked wr base (.slice (some ⟨g, 0, none⟩) n cap) n) := Lib.hid (by
          obtain ⟨⟨X, h1, h2⟩, _, _⟩ := hI.out
          exact ⟨X, h1, fun t ht => h2 t (by omega)⟩)
        have HB := Lib.hid hI.out.below
        have hkn : k = n := by omega
        subst hkn
        go_wp2
        go_ret
        exact ⟨rfl, HE.out, HB.out⟩
set_option maxHeartbeats 1000000 in
theorem heldOwn (v : Value) (base n : Nat) (w : World) (hl : n ≤ 1048576) (h : Marked w base v n) :
    Calls Tryd.prog 36 #[v, .int .i64 1] w fun e w' => e = .returned (.int .i64 (1 + (n : Int))) ∧ w = w' := by
  obtain ⟨X, h, hX⟩ := h
  obtain ⟨ao, cap, rfl, sh⟩ := own_view h
  by_cases h0 : n = 0
  · subst h0
    clear h sh hX
    go_enter Tryd.func36, Tryd.ntmps36
    go_wp2
    go_loop [1, 5] (fun k i => k = .int .i64 1 ∧ i = .int .i64 0) (fun _ _ => 0)
    case atStart => exact ⟨rfl, rfl⟩
    case round =>
      obtain ⟨rfl, rfl⟩ := hrel
      go_wp2
      go_ret
      exact ⟨rfl, rfl⟩
  · obtain ⟨g, rfl, hg1, hg2⟩ := sh (by omega)
    have HC : Hid (∀ t, t < n → w.cell? ⟨g, t, none⟩ = some (.int .i64 (1 + (t : Int)))) := Lib.hid (fun t ht => by rw [h.cellAt t (by omega)]; exact hX t ht)
    clear h sh h0 hX
    go_enter Tryd.func36, Tryd.ntmps36
    go_wp2
    go_loop [1, 5] (fun m i => ∃ k : Nat, k ≤ n ∧ m = .int .i64 (1 + (k : Int)) ∧ i = .int .i64 k) (fun _ i => n - (intOf i).toNat)
    case atStart => exact ⟨0, by omega, rfl, rfl⟩
    case round =>
      obtain ⟨k, hk, rfl, rfl⟩ := hrel
      by_cases hlt : k < n
      · have hcell := HC.out k hlt
        go_wp2
        go_round
        case rel => exact ⟨k + 1, by omega, val_int (by omega), by go_num⟩
        case measure => simp [intOf]; omega
      · have hkn : k = n := by omega
        subst hkn
        go_wp2
        go_ret
        exact ⟨rfl, rfl⟩
end Go.Proofs.YtglbbpcdodlnmaaDoor
