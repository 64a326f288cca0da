/- Turns of impl and of spec: the exported functions. -/
import Derived.Test.YtfaahcbdglbcjaaDoorTurn
import Derived.Test.YtfaahcbdglbcjaaDoorLeast
import Derived.Test.YtfaahcbdglbcjaaDoorPtArg
namespace Go.Proofs.YtfaahcbdglbcjaaDoor
open Go.ChangeShapes Go.WideShapes Go.ChangeAt Go.RowKit

theorem isTurnI (t : Int) (w : World) : Calls Tryd.prog 26 #[.int .i64 t] w fun e w' => e = .returned (.bool (inI t 0 7)) ∧ w = w' := by
  have hs : inI t 0 7 = (decide (0 ≤ t) && decide (t < 8)) := by unfold inI; congr 1; rw [decide_eq_decide]; omega
  rw [hs]; clear hs
  cases h1 : decide (0 ≤ t) <;> cases h2 : decide (t < 8)
  all_goals
    go_enter Tryd.func26, Tryd.ntmps26
    go_wp2
    go_ret
    exact ⟨rfl, rfl⟩
theorem within2 (m a b : Int) (t : TypeId) (p : Nat) (w : World) (hp : p = w.heap.size) (hm0 : 0 ≤ m) (hm1 : m ≤ 1000000000000) :
    Calls Tryd.prog 30 #[.int .i64 m, .slice (some ⟨p, 0, none⟩) 2 2] (w.alloc (.cells #[.int .i64 a, .int .i64 b] t)) fun e w' => e = .returned (.bool (inI a (-m) m && inI b (-m) m)) ∧ w.alloc (.cells #[.int .i64 a, .int .i64 b] t) = w' := by
  subst hp
  have e : wiI m [a, b] = (inI a (-m) m && inI b (-m) m) := by simp [wiI, inI]
  rw [← e]
  refine allWithin_any m hm0 hm1 w.heap.size 0 2 2 [a, b] _ rfl (by omega) (fun j hj => ?_)
  match j, hj with
  | 0, _ => simp
  | 1, _ => simp
theorem in_bd {n a b : Int} (h : inI n a b = true) : a ≤ n ∧ n ≤ b := by simpa [inI] using h
theorem turnedI_no (x y t : Int) (w : World) (hv : (inI t 0 7 && inI x (-20000) 20000 && inI y (-20000) 20000) = false) : Calls Tryd.prog 9 #[.agg #[.int .i64 x, .int .i64 y], .int .i64 t] w fun e w' => e = .returned (.agg #[.int .i64 0, .int .i64 0]) ∧ Below w.heap.size w w' := by
  cases c0 : inI t 0 7
  · clear hv
    go_enter Tryd.func9, Tryd.ntmps9
    go_wp2_with (first | ((with_reducible refine (isTurnI _ _).mono ?_); rintro e w' ⟨rfl, rfl⟩) | ((with_reducible refine (within2 _ _ _ _ _ _ (by simp) (by omega) (by omega)).mono ?_); rintro e w' ⟨rfl, rfl⟩))
    exact bodyPost_ret (v := .agg #[.int .i64 0, .int .i64 0]) (by simp [results, Tryd.results9, go_sem]) rfl ⟨rfl, two_allocs _ _⟩
  · have c1 : (inI x (-20000) 20000 && inI y (-20000) 20000) = false := by rw [c0, Bool.true_and] at hv; exact hv
    clear hv
    go_enter Tryd.func9, Tryd.ntmps9
    go_wp2_with (first | ((with_reducible refine (isTurnI _ _).mono ?_); rintro e w' ⟨rfl, rfl⟩) | ((with_reducible refine (within2 _ _ _ _ _ _ (by simp) (by omega) (by omega)).mono ?_); rintro e w' ⟨rfl, rfl⟩))
    exact bodyPost_ret (v := .agg #[.int .i64 0, .int .i64 0]) (by simp [results, Tryd.results9, go_sem]) rfl ⟨rfl, three_allocs _ _ _⟩
theorem turnedI_yes (x y t : Int) (w : World) (h0 : inI t 0 7 = true) (h1 : inI x (-20000) 20000 = true) (h2 : inI y (-20000) 20000 = true) : Calls Tryd.prog 9 #[.agg #[.int .i64 x, .int .i64 y], .int .i64 t] w fun e w' => e = .returned (.agg #[.int .i64 (tuX t x y), .int .i64 (tuY t x y)]) ∧ Below w.heap.size w w' := by
  have b0 := Lib.hid (in_bd h0)
  have b1 := Lib.hid (in_bd h1)
  have b2 := Lib.hid (in_bd h2)
  have c1 : (inI x (-20000) 20000 && inI y (-20000) 20000) = true := by rw [h1, h2]; rfl
  clear h1 h2
  go_enter Tryd.func9, Tryd.ntmps9
  go_wp2_with (first | ((with_reducible refine (isTurnI _ _).mono ?_); rintro e w' ⟨rfl, rfl⟩) | ((with_reducible refine (within2 _ _ _ _ _ _ (by simp) (by omega) (by omega)).mono ?_); rintro e w' ⟨rfl, rfl⟩))
  refine (turned_impl _ _ _ _ b1.out b2.out b0.out.1 b0.out.2).mono ?_
  rintro e w1 ⟨rfl, g1⟩
  obtain ⟨hc, hf⟩ := bcell g1
  have HB1 := Lib.hid g1
  clear g1
  go_wp2
  exact bodyPost_ret (v := .agg #[.int .i64 (tuX t x y), .int .i64 (tuY t x y)]) (by simp [results, Tryd.results9, go_sem, hc]) rfl ⟨rfl, ((bseq (three_allocs _ _ _) HB1.out).setCell (by simp) _).setCell (by simp) _⟩
theorem eqPoint_yes (x y : Int) (w : World) : Calls Tryd.prog 20 #[.agg #[.int .i64 x, .int .i64 y], .agg #[.int .i64 x, .int .i64 y]] w fun e w' => e = .returned (.bool true) ∧ Below w.heap.size w w' := by
  go_enter Tryd.func20, Tryd.ntmps20
  go_wp2
  go_ret
  exact ⟨rfl, two_allocs _ _⟩
end Go.Proofs.YtfaahcbdglbcjaaDoor
