/- Slices of the struct Box that a call owns: cells, view, marks. -/
import Derived.Test.YtcjpplijbdfgbaaDoorTyBox
import Derived.Test.YtcjpplijbdfgbaaDoorFlBox
import Derived.Test.YtcjpplijbdfgbaaDoorK8
import Derived.Test.YtcjpplijbdfgbaaDoorK2
namespace Go.Proofs.YtcjpplijbdfgbaaDoor
open Go.ChangeShapes Go.WideShapes Go.ChangeAt Go.RowKit
set_option linter.unusedVariables false
set_option linter.unusedSimpArgs false

def oneBx (z : Bx) : List Value := [.int .i64 z.1, .int .i64 z.2.1, .int .i64 z.2.2.1, .int .i64 z.2.2.2]
def flatBx (zs : List Bx) : List Value := zs.flatMap oneBx
theorem flatBx_cons (z : Bx) (r : List Bx) : flatBx (z :: r) = oneBx z ++ flatBx r := by simp [flatBx]
theorem flatBx_len (zs : List Bx) : (flatBx zs).length = zs.length * 4 := by
  induction zs with
  | nil => rfl
  | cons z r ih =>
    rw [flatBx_cons, List.length_append, ih, List.length_cons]
    show 4 + _ = _
    omega
theorem flatBx_snoc (zs : List Bx) (z : Bx) : flatBx (zs ++ [z]) = flatBx zs ++ oneBx z := by simp [flatBx]
theorem flatBx_get : ∀ (zs : List Bx) (j q : Nat), j < zs.length → q < 4 → (flatBx zs)[j * 4 + q]? = (oneBx (zs.getD j bx0))[q]?
  | z :: r, 0, q, _, hq => by
    rw [flatBx_cons, Nat.zero_mul, Nat.zero_add, List.getElem?_append_left (by show q < 4; exact hq)]
    rfl
  | z :: r, j + 1, q, hj, hq => by
    have ih := flatBx_get r j q (by simpa using hj) hq
    rw [flatBx_cons, List.getElem?_append_right (by show 4 ≤ _; rw [Nat.succ_mul]; omega), show (j + 1) * 4 + q - (oneBx z).length = j * 4 + q by show _ - 4 = _; rw [Nat.succ_mul]; omega, ih]
    rfl
def OwnBx (w : World) (base : Nat) (v : Value) (zs : List Bx) : Prop := w.ownsRow base 37 4 v zs.length (flatBx zs)
theorem OwnBx.below {w w' : World} {base : Nat} {v : Value} {zs : List Bx} (h : OwnBx w base v zs) (hb : Below w.heap.size w w') : OwnBx w' base v zs := own_below h hb
theorem OwnBx.view {w : World} {base : Nat} {v : Value} {zs : List Bx} (h : OwnBx w base v zs) : ∃ ao cap, v = .slice ao zs.length cap ∧ BxV w ao zs.length zs := by
  rcases id h with ⟨_, ⟨rfl, h0⟩ | ⟨g, cap, cur, rfl, hb, hg, hc1, hc2, hs, ht⟩⟩
  · exact ⟨none, 0, by rw [h0], rfl, Or.inl h0⟩
  · refine ⟨_, cap, rfl, rfl, Or.inr ⟨g, rfl, fun j hj => ?_⟩⟩
    have hget : ∀ q, q < 4 → ∀ x, (oneBx (zs.getD j bx0))[q]? = some x → w.cell? ⟨g, j * 4 + q, none⟩ = some x := fun q hq x hx => by
      have h1 := flatBx_get zs j q hj hq
      have h2 := congrArg (fun l => l[j * 4 + q]?) ht
      have h3 : j * 4 + q < zs.length * 4 := by
        have := Nat.mul_le_mul_right 4 (show j + 1 ≤ zs.length by omega)
        rw [Nat.succ_mul] at this; omega
      simp only [List.getElem?_take_of_lt h3] at h2
      rw [h1, hx] at h2
      exact (cell_of_arr hg (j := j * 4 + q) (by simpa using h2)).1
    exact ⟨(Array.getElem?_eq_some_iff.1 hg).1, hget 0 (by omega) _ rfl, hget 1 (by omega) _ rfl, hget 2 (by omega) _ rfl, hget 3 (by omega) _ rfl⟩
set_option maxRecDepth 100000 in
set_option maxHeartbeats 2000000 in
theorem markBx_own (base n : Nat) (k : Int) (v : Value) (xs : List Value) (w : World) (hn : n ≤ 1048576) (h0 : 0 ≤ k) (h1 : k ≤ 1000000000) (hv : w.ownsRow base 37 4 v n xs) :
    Calls Tryd.prog 59 #[v, .int .i64 k] w fun e w' => e = .returned (.int .i64 (k + 4 * n)) ∧ w.grownBy w' v.ownBlock ∧ w'.ownsRow base 37 4 v n (marks k (n * 4)) := by
  rcases hv.2 with ⟨rfl, rfl⟩ | ⟨b, cap, cur, rfl, hb, hg, hc1, hc2, hsz, _⟩
  · clear hv
    have e0 : k + 4 * ((0 : Nat) : Int) = k := by omega
    go_enter Tryd.func59, Tryd.ntmps59
    go_wp2
    go_loopw [5, 1] (fun iv kv wr => iv = .int .i64 0 ∧ kv = .int .i64 k ∧ w = wr) (fun _ _ _ => 0)
    case atStart => exact ⟨rfl, rfl, rfl⟩
    case round =>
      obtain ⟨rfl, rfl, rfl⟩ := hrel
      go_wp2
      go_ret
      exact ⟨ret_int e0.symm, grown_refl _ _, rfl, Or.inl ⟨rfl, rfl⟩⟩
  · have HST : MarkAt w w b (cap * 4) 37 k 0 := ⟨grown_refl _ _, cur, hg, hsz, fun j hj => by omega⟩
    have HG := Lib.hid hg
    have HSZ := Lib.hid hsz
    clear hg hsz
    clear hv
    go_enter Tryd.func59, Tryd.ntmps59
    go_wp2
    go_loopw [5, 1] (fun iv kv wr => ∃ i : Nat, i ≤ n ∧ iv = .int .i64 i ∧ kv = .int .i64 (k + 4 * i) ∧ MarkAt w wr b (cap * 4) 37 k (i * 4)) (fun i _ _ => n - (intOf i).toNat)
    case atStart => exact ⟨0, by omega, rfl, by simp, HST⟩
    case round =>
      obtain ⟨i, hi, rfl, rfl, hm⟩ := hrel
      by_cases hlt : i < n
      · obtain ⟨cu, g1, g2, g3⟩ := hm.arr
        obtain ⟨y0, a0⟩ := arr_some (cur := cu) (j := i * 4) (by omega)
        obtain ⟨y1, a1⟩ := arr_some (cur := cu) (j := i * 4 + 1) (by omega)
        obtain ⟨y2, a2⟩ := arr_some (cur := cu) (j := i * 4 + 2) (by omega)
        obtain ⟨y3, a3⟩ := arr_some (cur := cu) (j := i * 4 + 3) (by omega)
        obtain ⟨c0, f0⟩ := cell_of_arr g1 a0
        obtain ⟨c1, f1⟩ := cell_of_arr g1 a1
        obtain ⟨c2, f2⟩ := cell_of_arr g1 a2
        obtain ⟨c3, f3⟩ := cell_of_arr g1 a3
        have HM := Lib.hid ((((hm.set (k + 4 * (i : Int)) (by simp; omega) (by omega)).set (k + 4 * (i : Int) + 1) (by simp; omega) (by omega)).set (k + 4 * (i : Int) + 1 + 1) (by simp; omega) (by omega)).set (k + 4 * (i : Int) + 1 + 1 + 1) (by simp; omega) (by omega))
        have q0 : IntKind.i64.wrap (k + 4 * (i : Int) + 1) = k + 4 * (i : Int) + 1 := IntWalk.i64_in _ (by omega)
        have q1 : IntKind.i64.wrap (k + 4 * (i : Int) + 1 + 1) = k + 4 * (i : Int) + 1 + 1 := IntWalk.i64_in _ (by omega)
        have q2 : IntKind.i64.wrap (k + 4 * (i : Int) + 1 + 1 + 1) = k + 4 * (i : Int) + 1 + 1 + 1 := IntWalk.i64_in _ (by omega)
        have q3 : IntKind.i64.wrap (k + 4 * (i : Int) + 1 + 1 + 1 + 1) = k + 4 * (i : Int) + 1 + 1 + 1 + 1 := IntWalk.i64_in _ (by omega)
        clear g1 g2 g3 a0 a1 a2 a3 hm
        go_wp2
        go_roundw
        case rel => exact ⟨i + 1, by omega, by go_num, by congr 1; simp; omega, by have := HM.out; rwa [show (i + 1) * 4 = i * 4 + 1 + 1 + 1 + 1 by omega]⟩
        case measure => simp [intOf]; omega
      · go_wp2
        go_ret
        obtain ⟨cu, g1, g2, g3⟩ := hm.arr
        obtain rfl : i = n := by omega
        refine ⟨rfl, hm.grown, by rw [marks_len], Or.inr ⟨b, cap, cu, rfl, hb, g1, hc1, hc2, g2, ?_⟩⟩
        exact take_marks (by omega) g3
set_option maxRecDepth 100000 in
set_option maxHeartbeats 2000000 in
theorem heldBx_own (base n : Nat) (k : Int) (v : Value) (w : World) (hn : n ≤ 1048576) (h0 : 0 ≤ k) (h1 : k ≤ 1000000000) (hv : w.ownsRow base 37 4 v n (marks k (n * 4))) :
    Calls Tryd.prog 60 #[v, .int .i64 k] w fun e w' => e = .returned (.int .i64 (k + 4 * n)) ∧ w = w' := by
  rcases hv.2 with ⟨rfl, rfl⟩ | ⟨b, cap, cur, rfl, hb, hg, hc1, hc2, hsz, ht⟩
  · clear hv
    have e0 : k + 4 * ((0 : Nat) : Int) = k := by omega
    go_enter Tryd.func60, Tryd.ntmps60
    go_wp2
    go_loop [5, 1] (fun iv kv => iv = .int .i64 0 ∧ kv = .int .i64 k) (fun _ _ => 0)
    case atStart => exact ⟨rfl, rfl⟩
    case round =>
      obtain ⟨rfl, rfl⟩ := hrel
      go_wp2
      go_ret
      exact ⟨by first | rfl | exact ret_int e0.symm, rfl⟩
  · have HG := Lib.hid hg
    have HSZ := Lib.hid hsz
    have HT := Lib.hid ht
    clear hg hsz ht
    clear hv
    go_enter Tryd.func60, Tryd.ntmps60
    go_wp2
    go_loop [5, 1] (fun iv kv => ∃ i : Nat, i ≤ n ∧ iv = .int .i64 i ∧ kv = .int .i64 (k + 4 * i)) (fun i _ => n - (intOf i).toNat)
    case atStart => exact ⟨0, by omega, rfl, by simp⟩
    case round =>
      obtain ⟨i, hi, rfl, rfl⟩ := hrel
      by_cases hlt : i < n
      · skip
        obtain ⟨c0, _⟩ := cell_of_arr HG.out (marks_at HT.out (j := i * 4) (by omega))
        have z0 : k + ((i * 4 : Nat) : Int) = k + 4 * (i : Int) := by omega
        rw [z0] at c0
        clear z0
        obtain ⟨c1, _⟩ := cell_of_arr HG.out (marks_at HT.out (j := i * 4 + 1) (by omega))
        have z1 : k + ((i * 4 + 1 : Nat) : Int) = k + 4 * (i : Int) + 1 := by omega
        rw [z1] at c1
        clear z1
        obtain ⟨c2, _⟩ := cell_of_arr HG.out (marks_at HT.out (j := i * 4 + 2) (by omega))
        have z2 : k + ((i * 4 + 2 : Nat) : Int) = k + 4 * (i : Int) + 1 + 1 := by omega
        rw [z2] at c2
        clear z2
        obtain ⟨c3, _⟩ := cell_of_arr HG.out (marks_at HT.out (j := i * 4 + 3) (by omega))
        have z3 : k + ((i * 4 + 3 : Nat) : Int) = k + 4 * (i : Int) + 1 + 1 + 1 := by omega
        rw [z3] at c3
        clear z3
        have q0 : IntKind.i64.wrap (k + 4 * (i : Int) + 1) = k + 4 * (i : Int) + 1 := IntWalk.i64_in _ (by omega)
        have q1 : IntKind.i64.wrap (k + 4 * (i : Int) + 1 + 1) = k + 4 * (i : Int) + 1 + 1 := IntWalk.i64_in _ (by omega)
        have q2 : IntKind.i64.wrap (k + 4 * (i : Int) + 1 + 1 + 1) = k + 4 * (i : Int) + 1 + 1 + 1 := IntWalk.i64_in _ (by omega)
        have q3 : IntKind.i64.wrap (k + 4 * (i : Int) + 1 + 1 + 1 + 1) = k + 4 * (i : Int) + 1 + 1 + 1 + 1 := IntWalk.i64_in _ (by omega)
        go_wp2
        go_round
        case rel => exact ⟨i + 1, by omega, by go_num, by congr 1; simp; omega⟩
        case measure => simp [intOf]; omega
      · go_wp2
        go_ret
        obtain rfl : i = n := by omega
        exact ⟨rfl, rfl⟩
end Go.Proofs.YtcjpplijbdfgbaaDoor
