/- slices.Reverse of all points but the first; of impl's outlines. -/
import Derived.Test.YtjhmpmaademdcaaPolyG4
import Derived.Test.YtjhmpmaademdcaaOwnMark
import Derived.Test.YtjhmpmaademdcaaPlan
namespace Go.Proofs.Ytjhmpmaademdcaa
open Go.ChangeShapes Go.WideShapes Go.ChangeAt Go.RowKit
set_option linter.unusedVariables false
set_option linter.unusedSimpArgs false

/-- The points when i pairs have changed places. -/
def revF (zs : List P2) (i k : Nat) : P2 := if k = 0 then zs.getD 0 (0, 0) else if k ≤ i ∨ zs.length - i ≤ k then zs.getD (zs.length - k) (0, 0) else zs.getD k (0, 0)
/-- The block holds these points. -/
structure ArrP (w0 wr : World) (b n : Nat) (f : Nat → P2) : Prop where
  below : Below w0.heap.size w0 wr
  arr : ∃ cur : Array Value, wr.heap[b]? = some (.cells cur 30 (0, 0)) ∧ cur.size = n * 2 ∧ ∀ j, j < n → cur[j * 2]? = some (.int .i64 (f j).1) ∧ cur[j * 2 + 1]? = some (.int .i64 (f j).2)
theorem storedA {w : World} {p : Nat} {cur : Array Value} {t : TypeId} {x y : Value} {i : Nat} (h : w.heap[p]? = some (.cells cur t (0, 0))) : Stored p (.cells ((cur.setIfInBounds i x).setIfInBounds (i + 1) y) t (0, 0)) w ((w.setCell ⟨p, i, none⟩ x).setCell ⟨p, i + 1, none⟩ y) := by
  have h0 := heap_setCell_same _ p i _ _ x h
  have h1 := heap_setCell_same _ p (i + 1) _ _ y h0
  refine ⟨rfl, rfl, rfl, ?_, h1, fun k hk => ?_⟩
  · simp [World.setCell]
  · rw [Below.heap_setCell _ _ _ _ (by simpa using hk), Below.heap_setCell _ _ _ _ (by simpa using hk)]
theorem swap_at {cur : Array Value} {zs : List P2} {n i : Nat} (hz : n = zs.length) (hi : 2 * i + 2 < n) (hs : cur.size = n * 2) (hf : ∀ j, j < n → cur[j * 2]? = some (.int .i64 (revF zs i j).1) ∧ cur[j * 2 + 1]? = some (.int .i64 (revF zs i j).2)) (j : Nat) (hj : j < n) :
    ((((cur.setIfInBounds ((i + 1) * 2) (.int .i64 (zs.getD (n - 1 - i) (0, 0)).1)).setIfInBounds ((i + 1) * 2 + 1) (.int .i64 (zs.getD (n - 1 - i) (0, 0)).2)).setIfInBounds ((n - 1 - i) * 2) (.int .i64 (zs.getD (i + 1) (0, 0)).1)).setIfInBounds ((n - 1 - i) * 2 + 1) (.int .i64 (zs.getD (i + 1) (0, 0)).2))[j * 2]? = some (.int .i64 (revF zs (i + 1) j).1) ∧
    ((((cur.setIfInBounds ((i + 1) * 2) (.int .i64 (zs.getD (n - 1 - i) (0, 0)).1)).setIfInBounds ((i + 1) * 2 + 1) (.int .i64 (zs.getD (n - 1 - i) (0, 0)).2)).setIfInBounds ((n - 1 - i) * 2) (.int .i64 (zs.getD (i + 1) (0, 0)).1)).setIfInBounds ((n - 1 - i) * 2 + 1) (.int .i64 (zs.getD (i + 1) (0, 0)).2))[j * 2 + 1]? = some (.int .i64 (revF zs (i + 1) j).2) := by
  have hp : revF zs (i + 1) (i + 1) = zs.getD (n - 1 - i) (0, 0) := by
    unfold revF
    rw [if_neg (by omega), if_pos (Or.inl (Nat.le_refl _)), ← hz, show n - (i + 1) = n - 1 - i by omega]
  have hq : revF zs (i + 1) (n - 1 - i) = zs.getD (i + 1) (0, 0) := by
    unfold revF
    rw [if_neg (by omega), if_pos (Or.inr (by omega)), ← hz, show n - (n - 1 - i) = i + 1 by omega]
  have ho : ∀ k, k < n → k ≠ i + 1 → k ≠ n - 1 - i → revF zs (i + 1) k = revF zs i k := fun k hk h1 h2 => by
    unfold revF
    by_cases h0 : k = 0
    · rw [if_pos h0, if_pos h0]
    · rw [if_neg h0, if_neg h0]
      by_cases h3 : k ≤ i ∨ zs.length - i ≤ k
      · rw [if_pos h3, if_pos (by omega)]
      · rw [if_neg h3, if_neg (by omega)]
  by_cases e1 : j = i + 1
  · subst e1
    rw [hp]
    refine ⟨?_, ?_⟩
    · rw [Array.getElem?_setIfInBounds_ne (by omega), Array.getElem?_setIfInBounds_ne (by omega), Array.getElem?_setIfInBounds_ne (by omega)]
      rw [Array.getElem?_setIfInBounds_self_of_lt (by simp only [Array.size_setIfInBounds, hs]; omega)]
    · rw [Array.getElem?_setIfInBounds_ne (by omega), Array.getElem?_setIfInBounds_ne (by omega)]
      rw [Array.getElem?_setIfInBounds_self_of_lt (by simp only [Array.size_setIfInBounds, hs]; omega)]
  · by_cases e2 : j = n - 1 - i
    · subst e2
      rw [hq]
      refine ⟨?_, ?_⟩
      · rw [Array.getElem?_setIfInBounds_ne (by omega)]
        rw [Array.getElem?_setIfInBounds_self_of_lt (by simp only [Array.size_setIfInBounds, hs]; omega)]
      · rw [Array.getElem?_setIfInBounds_self_of_lt (by simp only [Array.size_setIfInBounds, hs]; omega)]
    · rw [ho j hj e1 e2]
      refine ⟨?_, ?_⟩
      · rw [Array.getElem?_setIfInBounds_ne (by omega), Array.getElem?_setIfInBounds_ne (by omega), Array.getElem?_setIfInBounds_ne (by omega), Array.getElem?_setIfInBounds_ne (by omega)]
        exact (hf j hj).1
      · rw [Array.getElem?_setIfInBounds_ne (by omega), Array.getElem?_setIfInBounds_ne (by omega), Array.getElem?_setIfInBounds_ne (by omega), Array.getElem?_setIfInBounds_ne (by omega)]
        exact (hf j hj).2
set_option maxRecDepth 100000 in
set_option maxHeartbeats 4000000 in
theorem rev_any (b n : Nat) (zs : List P2) (w w0 : World) (hz : n = zs.length) (h3 : 3 ≤ n) (hn : n ≤ 1000) (hlow : w0.heap.size ≤ b) (ha : ArrP w0 w b n (fun k => zs.getD k (0, 0))) :
    Calls Try.prog 157 #[.slice (some ⟨b, 2, none⟩) (n - 1) (n - 1)] w fun e w' => e = .returned (.tuple #[]) ∧ ∃ i, n ≤ 2 * i + 2 ∧ ArrP w0 w' b n (revF zs i) := by
  have h0 : ArrP w0 w b n (revF zs 0) := ⟨ha.below, by
    obtain ⟨cur, g1, g2, g3⟩ := ha.arr
    refine ⟨cur, g1, g2, fun j hj => ?_⟩
    have e : revF zs 0 j = zs.getD j (0, 0) := by
      unfold revF
      by_cases h : j = 0
      · rw [if_pos h, h]
      · rw [if_neg h, if_neg (by omega)]
    rw [e]
    exact g3 j hj⟩
  have q0 : IntKind.i64.wrap (((n - 1 : Nat) : Int) - 1) = ((n - 2 : Nat) : Int) := by rw [IntWalk.i64_in _ (by omega)]; omega
  have HZ := Lib.hid hz
  have H0 := Lib.hid h0
  have HA := Lib.hid ha
  clear hz h0 ha
  go_enter Try.func157, Try.ntmps157
  go_wp2
  clear q0
  go_loopw [2, 3] (fun iv jv wr => ∃ i J : Nat, i + J + 2 = n ∧ i ≤ J + 1 ∧ iv = .int .i64 i ∧ jv = .int .i64 J ∧ Hid (ArrP w0 wr b n (revF zs i))) (fun i _ _ => n - (intOf i).toNat)
  case atStart => exact ⟨0, n - 2, by omega, by omega, rfl, rfl, H0⟩
  case round =>
    obtain ⟨i, J, hiJ, hi, rfl, rfl, hA⟩ := hrel
    by_cases hlt : i < J
    · obtain ⟨cur, g1, g2, g3⟩ := hA.out.arr
      have hbw : b < wr.heap.size := (Array.getElem?_eq_some_iff.1 g1).1
      have HBW := Lib.hid hA.out.below
      obtain ⟨x, y, e1⟩ : ∃ x y, zs.getD (i + 1) (0, 0) = (x, y) := ⟨_, _, rfl⟩
      obtain ⟨u, v, e2⟩ : ∃ u v, zs.getD (J + 1) (0, 0) = (u, v) := ⟨_, _, rfl⟩
      have r1 : revF zs i (i + 1) = (x, y) := by unfold revF; rw [if_neg (by omega), if_neg (by have := HZ.out; omega), e1]
      have r2 : revF zs i (J + 1) = (u, v) := by unfold revF; rw [if_neg (by omega), if_neg (by have := HZ.out; omega), e2]
      have ai := g3 (i + 1) (by omega)
      have aJ := g3 (J + 1) (by omega)
      rw [r1, show (i + 1) * 2 = 2 + i * 2 by omega] at ai
      rw [r2, show (J + 1) * 2 = 2 + J * 2 by omega] at aJ
      have ai0 := Lib.hid ai.1
      have ai1 := Lib.hid ai.2
      have aJ0 := Lib.hid aJ.1
      have aJ1 := Lib.hid aJ.2
      have HC := Lib.hid g1
      have HSZ := Lib.hid g2
      have HG3 := Lib.hid g3
      have HSW := Lib.hid (fun k hk => swap_at (i := i) HZ.out (by omega) g2 g3 k hk)
      have E1 := Lib.hid e1
      have E2 := Lib.hid e2
      clear e1 e2
      have hiJI : (i : Int) < (J : Int) := by omega
      have hJn : ¬ n ≤ J + 1 := by omega
      have hin : ¬ n ≤ i + 1 := by omega
      have q1 : IntKind.i64.wrap ((J : Int) - 1) = ((J - 1 : Nat) : Int) := by rw [IntWalk.i64_in _ (by omega)]; omega
      clear r1 r2 ai aJ g1 g2 g3
      go_wp2
      refine wp_region_plan_own w0 16 b (.cells cur 30 (0, 0)) [.val 0 [] (.slice (some ⟨b, 2, none⟩) (n - 1) (n - 1)), .val 1 [] (.int .i64 i), .val 2 [] (.slice (some ⟨b, 2, none⟩) (n - 1) (n - 1)), .val 3 [] (.int .i64 J), .val 4 [] (.slice (some ⟨b, 2, none⟩) (n - 1) (n - 1)), .val 5 [] (.int .i64 J), .val 6 [] (.pointer (some ⟨b, 2 + J * 2, none⟩)), .val 7 [16] (.agg #[.int .i64 u, .int .i64 v]), .val 8 [] (.slice (some ⟨b, 2, none⟩) (n - 1) (n - 1)), .val 9 [] (.int .i64 i), .val 10 [] (.pointer (some ⟨b, 2 + i * 2, none⟩)), .val 11 [16] (.agg #[.int .i64 x, .int .i64 y]), .val 12 [] (.pointer (some ⟨b, 2 + i * 2, none⟩)), .put 13 16 (.cells ((cur.setIfInBounds (2 + i * 2) (.int .i64 u)).setIfInBounds (2 + i * 2 + 1) (.int .i64 v)) 30 (0, 0)), .val 14 [] (.pointer (some ⟨b, 2 + J * 2, none⟩)), .put 15 16 (.cells ((((cur.setIfInBounds (2 + i * 2) (.int .i64 u)).setIfInBounds (2 + i * 2 + 1) (.int .i64 v)).setIfInBounds (2 + J * 2) (.int .i64 x)).setIfInBounds (2 + J * 2 + 1) (.int .i64 y)) 30 (0, 0))] (by kernel_rfl) (by kernel_rfl) rfl (by decide) HBW.out hlow hbw HC.out ?_
      refine plan_val (by kernel_rfl) (by kernel_rfl) (by kernel_rfl) (by go_simp) (fun w1 hw1 => ?_) ?_
      · clear hw1; go_simp; (try with_reducible rfl)
      (try simp only [Act.put, List.setIfInBounds_toArray, List.set_cons_zero, List.set_cons_succ])
      refine plan_val (by kernel_rfl) (by kernel_rfl) (by kernel_rfl) (by go_simp) (fun w1 hw1 => ?_) ?_
      · clear hw1; go_simp; (try with_reducible rfl)
      (try simp only [Act.put, List.setIfInBounds_toArray, List.set_cons_zero, List.set_cons_succ])
      refine plan_val (by kernel_rfl) (by kernel_rfl) (by kernel_rfl) (by go_simp) (fun w1 hw1 => ?_) ?_
      · clear hw1; go_simp; (try with_reducible rfl)
      (try simp only [Act.put, List.setIfInBounds_toArray, List.set_cons_zero, List.set_cons_succ])
      refine plan_val (by kernel_rfl) (by kernel_rfl) (by kernel_rfl) (by go_simp) (fun w1 hw1 => ?_) ?_
      · clear hw1; go_simp; (try with_reducible rfl)
      (try simp only [Act.put, List.setIfInBounds_toArray, List.set_cons_zero, List.set_cons_succ])
      refine plan_val (by kernel_rfl) (by kernel_rfl) (by kernel_rfl) (by go_simp) (fun w1 hw1 => ?_) ?_
      · clear hw1; go_simp; (try with_reducible rfl)
      (try simp only [Act.put, List.setIfInBounds_toArray, List.set_cons_zero, List.set_cons_succ])
      refine plan_val (by kernel_rfl) (by kernel_rfl) (by kernel_rfl) (by go_simp) (fun w1 hw1 => ?_) ?_
      · clear hw1; go_simp; (try with_reducible rfl)
      (try simp only [Act.put, List.setIfInBounds_toArray, List.set_cons_zero, List.set_cons_succ])
      refine plan_val (by kernel_rfl) (by kernel_rfl) (by kernel_rfl) (by go_simp) (fun w1 hw1 => ?_) ?_
      · clear hw1; go_simp; (try with_reducible rfl)
      (try simp only [Act.put, List.setIfInBounds_toArray, List.set_cons_zero, List.set_cons_succ])
      refine plan_valu [16] (by kernel_rfl) (by kernel_rfl) (by kernel_rfl) (by kernel_rfl) (by go_simp) (fun w1 hC => ?_) ?_
      · have hh := (hC.2 ⟨16, b, _⟩ ⟨rfl, rfl⟩).2.2
        obtain ⟨c0, _⟩ := cell_of_arr hh aJ0.out
        obtain ⟨c1, _⟩ := cell_of_arr hh aJ1.out
        clear hC hh; go_simp; (try with_reducible rfl)
      (try simp only [Act.put, List.setIfInBounds_toArray, List.set_cons_zero, List.set_cons_succ])
      refine plan_val (by kernel_rfl) (by kernel_rfl) (by kernel_rfl) (by go_simp) (fun w1 hw1 => ?_) ?_
      · clear hw1; go_simp; (try with_reducible rfl)
      (try simp only [Act.put, List.setIfInBounds_toArray, List.set_cons_zero, List.set_cons_succ])
      refine plan_val (by kernel_rfl) (by kernel_rfl) (by kernel_rfl) (by go_simp) (fun w1 hw1 => ?_) ?_
      · clear hw1; go_simp; (try with_reducible rfl)
      (try simp only [Act.put, List.setIfInBounds_toArray, List.set_cons_zero, List.set_cons_succ])
      refine plan_val (by kernel_rfl) (by kernel_rfl) (by kernel_rfl) (by go_simp) (fun w1 hw1 => ?_) ?_
      · clear hw1; go_simp; (try with_reducible rfl)
      (try simp only [Act.put, List.setIfInBounds_toArray, List.set_cons_zero, List.set_cons_succ])
      refine plan_valu [16] (by kernel_rfl) (by kernel_rfl) (by kernel_rfl) (by kernel_rfl) (by go_simp) (fun w1 hC => ?_) ?_
      · have hh := (hC.2 ⟨16, b, _⟩ ⟨rfl, rfl⟩).2.2
        obtain ⟨c0, _⟩ := cell_of_arr hh ai0.out
        obtain ⟨c1, _⟩ := cell_of_arr hh ai1.out
        clear hC hh; go_simp; (try with_reducible rfl)
      (try simp only [Act.put, List.setIfInBounds_toArray, List.set_cons_zero, List.set_cons_succ])
      refine plan_val (by kernel_rfl) (by kernel_rfl) (by kernel_rfl) (by go_simp) (fun w1 hw1 => ?_) ?_
      · clear hw1; go_simp; (try with_reducible rfl)
      (try simp only [Act.put, List.setIfInBounds_toArray, List.set_cons_zero, List.set_cons_succ])
      refine plan_put (p := b) (by kernel_rfl) (by kernel_rfl) (by kernel_rfl) (by kernel_rfl) (by go_simp) (rfl) (fun w1 hg hh => ?_) ?_
      · obtain ⟨y0, s0⟩ := arr_some (cur := cur) (j := 2 + i * 2) (by (try simp only [Array.size_setIfInBounds]); have := HSZ.out; omega)
        obtain ⟨y1, s1⟩ := arr_some (cur := cur) (j := 2 + i * 2 + 1) (by (try simp only [Array.size_setIfInBounds]); have := HSZ.out; omega)
        obtain ⟨c0, f0⟩ := cell_of_arr hh s0
        obtain ⟨c1, f1⟩ := cell_of_arr hh s1
        refine ⟨_, ?_, storedA hh⟩
        clear hh hg s0 s1; go_simp; (try with_reducible rfl)
      (try simp only [Act.put])
      refine plan_val (by kernel_rfl) (by kernel_rfl) (by kernel_rfl) (by go_simp) (fun w1 hw1 => ?_) ?_
      · clear hw1; go_simp; (try with_reducible rfl)
      (try simp only [Act.put, List.setIfInBounds_toArray, List.set_cons_zero, List.set_cons_succ])
      refine plan_put (p := b) (by kernel_rfl) (by kernel_rfl) (by kernel_rfl) (by kernel_rfl) (by go_simp) (Or.inr ⟨⟨16, b, _⟩, rfl, rfl, rfl⟩) (fun w1 hg hh => ?_) ?_
      · obtain ⟨y0, s0⟩ := arr_some (cur := (cur.setIfInBounds (2 + i * 2) (.int .i64 u)).setIfInBounds (2 + i * 2 + 1) (.int .i64 v)) (j := 2 + J * 2) (by (try simp only [Array.size_setIfInBounds]); have := HSZ.out; omega)
        obtain ⟨y1, s1⟩ := arr_some (cur := (cur.setIfInBounds (2 + i * 2) (.int .i64 u)).setIfInBounds (2 + i * 2 + 1) (.int .i64 v)) (j := 2 + J * 2 + 1) (by (try simp only [Array.size_setIfInBounds]); have := HSZ.out; omega)
        obtain ⟨c0, f0⟩ := cell_of_arr hh s0
        obtain ⟨c1, f1⟩ := cell_of_arr hh s1
        refine ⟨_, ?_, storedA hh⟩
        clear hh hg s0 s1; go_simp; (try with_reducible rfl)
      (try simp only [Act.put])
      refine plan_done (by kernel_rfl) (fun w2 hC => ?_)
      have HH := Lib.hid (hC.2 ⟨16, b, _⟩ (Or.inr ⟨⟨16, b, _⟩, Or.inr ⟨⟨16, b, _⟩, rfl, rfl, rfl⟩, rfl, rfl⟩)).2.2
      have HB2 := Lib.hid hC.1
      clear hC
      go_wp2
      go_roundw
      case rel =>
        refine ⟨i + 1, J - 1, by omega, by omega, by go_num, rfl, Lib.hid ⟨HB2.out, _, HH.out, by simp only [Array.size_setIfInBounds]; exact HSZ.out, fun j hj => ?_⟩⟩
        have := HSW.out j hj
        rw [show n - 1 - i = J + 1 by omega, E1.out, E2.out, show (i + 1) * 2 = 2 + i * 2 by omega, show (J + 1) * 2 = 2 + J * 2 by omega] at this
        exact this
      case measure => simp [intOf]; omega
    · go_wp2
      exact ⟨rfl, .tuple #[], by simp [results, Try.results157, go_sem], rfl, i, by omega, hA.out⟩
end Go.Proofs.Ytjhmpmaademdcaa
