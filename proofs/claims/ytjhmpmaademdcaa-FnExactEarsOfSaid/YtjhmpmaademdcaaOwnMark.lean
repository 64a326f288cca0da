/- Slices of points that a law owns: it writes numbers into them, and looks whether they are still there. -/
import Derived.Test.YtjhmpmaademdcaaOwnP
import Derived.Test.YtjhmpmaademdcaaK3
namespace Go.Proofs.Ytjhmpmaademdcaa
open Go.ChangeShapes Go.WideShapes Go.ChangeAt Go.RowKit
set_option linter.unusedVariables false
set_option linter.unusedSimpArgs false

def marks (k : Int) (m : Nat) : List Value := (List.range m).map fun (j : Nat) => .int .i64 (k + (j : Int))
theorem marks_len (k : Int) (m : Nat) : (marks k m).length = m := by simp [marks]
theorem take_marks {cur : Array Value} {k : Int} {m : Nat} (hm : m ≤ cur.size) (h : ∀ j, j < m → cur[j]? = some (.int .i64 (k + j))) : cur.toList.take m = marks k m := by
  apply List.ext_getElem?
  intro j
  by_cases hj : j < m
  · rw [List.getElem?_take_of_lt hj]
    have := h j hj
    simp [marks, hj]
    simpa using this
  · simp [marks, hj, List.getElem?_take]
theorem marks_at {cur : Array Value} {k : Int} {m : Nat} (h : cur.toList.take m = marks k m) {j : Nat} (hj : j < m) : cur[j]? = some (.int .i64 (k + j)) := by
  have := congrArg (fun l => l[j]?) h
  simpa [List.getElem?_take_of_lt hj, marks, hj] using this
theorem cell_of_arr {w : World} {b : Nat} {cur : Array Value} {T : TypeId} (h : w.heap[b]? = some (.cells cur T (0, 0))) {j : Nat} {v : Value} (hj : cur[j]? = some v) : w.cell? ⟨b, j, none⟩ = some v ∧ w.frozen? ⟨b, j, none⟩ = false := by
  refine ⟨?_, ?_⟩
  · simp [World.cell?, h, hj]
  · simp [World.frozen?, h]
theorem arr_some {cur : Array Value} {j : Nat} (h : j < cur.size) : ∃ v, cur[j]? = some v := ⟨cur[j], by simp [h]⟩
theorem grown_set {w w' : World} {b j : Nat} {v : Value} (h : w.grownBy w' (some b)) : w.grownBy (w'.setCell ⟨b, j, none⟩ v) (some b) :=
  ⟨h.os, h.tape, h.output, by simp [World.setCell]; exact h.size, fun k hk hne => by
    rw [Below.heap_setCell _ _ _ _ (by intro e; exact hne (by rw [e]))]
    exact h.block k hk hne⟩
theorem grown_refl (w : World) (row : Option Nat) : w.grownBy w row := ⟨rfl, rfl, rfl, Nat.le_refl _, fun _ _ _ => rfl⟩
/-- What is written so far. -/
structure MarkAt (w wr : World) (b S : Nat) (T : TypeId) (k : Int) (m : Nat) : Prop where
  grown : w.grownBy wr (some b)
  arr : ∃ cur : Array Value, wr.heap[b]? = some (.cells cur T (0, 0)) ∧ cur.size = S ∧ ∀ j, j < m → cur[j]? = some (.int .i64 (k + j))
theorem MarkAt.set {w wr : World} {b S : Nat} {T : TypeId} {k : Int} {m : Nat} (h : MarkAt w wr b S T k m) (x : Int) (hx : x = k + m) (hm : m < S) : MarkAt w (wr.setCell ⟨b, m, none⟩ (.int .i64 x)) b S T k (m + 1) := by
  obtain ⟨cur, h1, h2, h3⟩ := h.arr
  refine ⟨grown_set h.grown, cur.setIfInBounds m (.int .i64 x), heap_setCell_same _ b m _ _ _ h1, by simpa using h2, fun j hj => ?_⟩
  subst hx
  by_cases e : j = m
  · subst e
    have hs : j < cur.size := by omega
    simp [hs]
  · have e' : m ≠ j := Ne.symm e
    rw [Array.getElem?_setIfInBounds_ne e']
    exact h3 j (by omega)
set_option maxRecDepth 100000 in
set_option maxHeartbeats 1000000 in
theorem markP_any (base n : Nat) (k : Int) (v : Value) (xs : List Value) (w : World) (hn : n ≤ 1048576) (h0 : 0 ≤ k) (h1 : k ≤ 1000000000) (hv : w.ownsRow base 30 2 v n xs) :
    Calls Try.prog 29 #[v, .int .i64 k] w fun e w' => e = .returned (.int .i64 (k + 2 * n)) ∧ w.grownBy w' v.ownBlock ∧ w'.ownsRow base 30 2 v n (marks k (n * 2)) := by
  rcases hv.2 with ⟨rfl, rfl⟩ | ⟨b, cap, cur, rfl, hb, hg, hc1, hc2, hsz, _⟩
  · clear hv
    have e0 : k + 2 * ((0 : Nat) : Int) = k := by omega
    go_enter Try.func29, Try.ntmps29
    go_wp2
    go_loopw [5, 1] (fun iv kv wr => iv = .int .i64 0 ∧ kv = .int .i64 k ∧ w = wr) (fun _ _ _ => 0)
    case atStart => exact ⟨rfl, rfl, rfl⟩
    case round =>
      obtain ⟨rfl, rfl, rfl⟩ := hrel
      go_wp2
      go_ret
      exact ⟨ret_int e0.symm, grown_refl _ _, rfl, Or.inl ⟨rfl, rfl⟩⟩
  · have HST : MarkAt w w b (cap * 2) 30 k 0 := ⟨grown_refl _ _, cur, hg, hsz, fun j hj => by omega⟩
    have HG := Lib.hid hg
    have HSZ := Lib.hid hsz
    clear hg hsz
    clear hv
    go_enter Try.func29, Try.ntmps29
    go_wp2
    go_loopw [5, 1] (fun iv kv wr => ∃ i : Nat, i ≤ n ∧ iv = .int .i64 i ∧ kv = .int .i64 (k + 2 * i) ∧ MarkAt w wr b (cap * 2) 30 k (i * 2)) (fun i _ _ => n - (intOf i).toNat)
    case atStart => exact ⟨0, by omega, rfl, by simp, HST⟩
    case round =>
      obtain ⟨i, hi, rfl, rfl, hm⟩ := hrel
      by_cases hlt : i < n
      · obtain ⟨cu, g1, g2, g3⟩ := hm.arr
        obtain ⟨y0, a0⟩ := arr_some (cur := cu) (j := i * 2) (by omega)
        obtain ⟨y1, a1⟩ := arr_some (cur := cu) (j := i * 2 + 1) (by omega)
        obtain ⟨c0, f0⟩ := cell_of_arr g1 a0
        obtain ⟨c1, f1⟩ := cell_of_arr g1 a1
        have HM := Lib.hid ((hm.set (k + 2 * i) (by simp; omega) (by omega)).set (k + 2 * i + 1) (by simp; omega) (by omega))
        have q1 : IntKind.i64.wrap (k + 2 * (i : Int) + 1) = k + 2 * i + 1 := IntWalk.i64_in _ (by omega)
        have q2 : IntKind.i64.wrap (k + 2 * (i : Int) + 1 + 1) = k + 2 * i + 1 + 1 := IntWalk.i64_in _ (by omega)
        clear g1 g2 g3 a0 a1 hm
        go_wp2
        go_roundw
        case rel => exact ⟨i + 1, by omega, by go_num, by congr 1; simp; omega, by have := HM.out; rwa [show (i + 1) * 2 = i * 2 + 1 + 1 by omega]⟩
        case measure => simp [intOf]; omega
      · go_wp2
        go_ret
        obtain ⟨cu, g1, g2, g3⟩ := hm.arr
        obtain rfl : i = n := by omega
        refine ⟨rfl, hm.grown, by rw [marks_len], Or.inr ⟨b, cap, cu, rfl, hb, g1, hc1, hc2, g2, ?_⟩⟩
        exact take_marks (by omega) g3
set_option maxRecDepth 100000 in
set_option maxHeartbeats 1000000 in
theorem heldP_any (base n : Nat) (k : Int) (v : Value) (w : World) (hn : n ≤ 1048576) (h0 : 0 ≤ k) (h1 : k ≤ 1000000000) (hv : w.ownsRow base 30 2 v n (marks k (n * 2))) :
    Calls Try.prog 48 #[v, .int .i64 k] w fun e w' => e = .returned (.int .i64 (k + 2 * n)) ∧ w = w' := by
  rcases hv.2 with ⟨rfl, rfl⟩ | ⟨b, cap, cur, rfl, hb, hg, hc1, hc2, hsz, ht⟩
  · clear hv
    have e0 : k + 2 * ((0 : Nat) : Int) = k := by omega
    go_enter Try.func48, Try.ntmps48
    go_wp2
    go_loop [5, 1] (fun iv kv => iv = .int .i64 0 ∧ kv = .int .i64 k) (fun _ _ => 0)
    case atStart => exact ⟨rfl, rfl⟩
    case round =>
      obtain ⟨rfl, rfl⟩ := hrel
      go_wp2
      go_ret
      exact ⟨rfl, rfl⟩
  · have HG := Lib.hid hg
    have HSZ := Lib.hid hsz
    have HT := Lib.hid ht
    clear hg hsz ht
    clear hv
    go_enter Try.func48, Try.ntmps48
    go_wp2
    go_loop [5, 1] (fun iv kv => ∃ i : Nat, i ≤ n ∧ iv = .int .i64 i ∧ kv = .int .i64 (k + 2 * i)) (fun i _ => n - (intOf i).toNat)
    case atStart => exact ⟨0, by omega, rfl, by simp⟩
    case round =>
      obtain ⟨i, hi, rfl, rfl⟩ := hrel
      by_cases hlt : i < n
      · obtain ⟨c0, _⟩ := cell_of_arr HG.out (marks_at HT.out (j := i * 2) (by omega))
        obtain ⟨c1, _⟩ := cell_of_arr HG.out (marks_at HT.out (j := i * 2 + 1) (by omega))
        have q0 : k + ((i * 2 : Nat) : Int) = k + 2 * i := by omega
        have q3 : k + ((i * 2 + 1 : Nat) : Int) = k + 2 * i + 1 := by omega
        rw [q0] at c0
        rw [q3] at c1
        have q1 : IntKind.i64.wrap (k + 2 * (i : Int) + 1) = k + 2 * i + 1 := IntWalk.i64_in _ (by omega)
        have q2 : IntKind.i64.wrap (k + 2 * (i : Int) + 1 + 1) = k + 2 * i + 1 + 1 := IntWalk.i64_in _ (by omega)
        clear q0 q3
        go_wp2
        go_round
        case rel => exact ⟨i + 1, by omega, by go_num, by congr 1; simp; omega⟩
        case measure => simp [intOf]; omega
      · go_wp2
        go_ret
        obtain rfl : i = n := by omega
        exact ⟨rfl, rfl⟩
end Go.Proofs.Ytjhmpmaademdcaa
