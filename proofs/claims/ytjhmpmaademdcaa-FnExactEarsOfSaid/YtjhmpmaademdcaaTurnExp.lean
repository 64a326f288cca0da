/- Turns of impl and of spec: the exported functions. -/
import Derived.Test.YtjhmpmaademdcaaTurn
import Derived.Test.YtjhmpmaademdcaaLeast
import Derived.Test.YtjhmpmaademdcaaPtArg
namespace Go.Proofs.Ytjhmpmaademdcaa
open Go.ChangeShapes Go.WideShapes Go.ChangeAt Go.RowKit

theorem within2 (m a b : Int) (t : TypeId) (p : Nat) (w : World) (hp : p = w.heap.size) (hm0 : 0 ≤ m) (hm1 : m ≤ 1000000000000) :
    Calls Try.prog 108 #[.int .i64 m, .slice (some ⟨p, 0, none⟩) 2 2] (w.alloc (.cells #[.int .i64 a, .int .i64 b] t)) fun e w' => e = .returned (.bool (inI a (-m) m && inI b (-m) m)) ∧ w.alloc (.cells #[.int .i64 a, .int .i64 b] t) = w' := by
  subst hp
  have e : wiI m [a, b] = (inI a (-m) m && inI b (-m) m) := by simp [wiI, inI]
  rw [← e]
  refine allWithin_any m hm0 hm1 w.heap.size 0 2 2 [a, b] _ rfl (by omega) (fun j hj => ?_)
  match j, hj with
  | 0, _ => simp
  | 1, _ => simp
theorem in_bd {n a b : Int} (h : inI n a b = true) : a ≤ n ∧ n ≤ b := by simpa [inI] using h
theorem eqPoint_yes (x y : Int) (w : World) : Calls Try.prog 79 #[.agg #[.int .i64 x, .int .i64 y], .agg #[.int .i64 x, .int .i64 y]] w fun e w' => e = .returned (.bool true) ∧ Below w.heap.size w w' := by
  go_enter Try.func79, Try.ntmps79
  go_wp2
  go_ret
  exact ⟨rfl, two_allocs _ _⟩
end Go.Proofs.Ytjhmpmaademdcaa
