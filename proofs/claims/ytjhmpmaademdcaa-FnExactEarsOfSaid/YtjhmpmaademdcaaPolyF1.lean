/- Area and border of a polygon. -/
import Derived.Test.YtjhmpmaademdcaaPolyValid
import Derived.Test.YtjhmpmaademdcaaSegFar
import Derived.Test.YtjhmpmaademdcaaK1
namespace Go.Proofs.Ytjhmpmaademdcaa
attribute [local go_sem] Oper.semAt_some
open Go.Shelf Go.ChangeShapes Go.WideShapes Go.ChangeAt Go.RowKit
set_option linter.unusedVariables false

theorem areaS_no (ao : Option Addr) (len cap : Nat) (zs : List P2) (w : World) (hl : len ≤ 1048576) (hp : PV w ao len zs) (hv : polyB zs = false) :
    Calls Try.prog 71 #[.slice ao len cap] w fun e w' => e = .returned (.tuple #[.int .i64 0, .int .i64 1]) ∧ Below w.heap.size w w' := by
  have HP := Lib.hid hp
  have HV := Lib.hid hv
  clear hp hv
  go_enter Try.func71, Try.ntmps71
  go_wp2_with fail
  refine (ok3_any ao len cap zs _ hl HP.out).mono ?_
  rintro e w1 ⟨rfl, g1⟩
  obtain ⟨k1, q1⟩ := bcell g1
  have HW1 := Lib.hid g1
  clear g1
  rw [HV.out]
  clear k1 q1
  go_wp2
  go_ret2
  exact ⟨rfl, HW1.out⟩
set_option maxHeartbeats 1000000 in
theorem areaS_yes (ao : Option Addr) (len cap : Nat) (zs : List P2) (w : World) (hl : len ≤ 1048576) (hp : PV w ao len zs) (hv : polyB zs = true) :
    Calls Try.prog 71 #[.slice ao len cap] w fun e w' => e = .returned (.tuple #[.int .i64 (areaI zs), .int .i64 0]) ∧ Below w.heap.size w w' := by
  obtain ⟨z3, z4, hok, _, _, _⟩ := poly_ok hv
  have hz := hp.1
  have HP := Lib.hid hp
  have HV := Lib.hid hv
  have HO := Lib.hid hok
  have HZ := Lib.hid hz
  have l3 : 3 ≤ len := by omega
  have l4 : len ≤ 24 := by omega
  clear hp hv hok hz
  go_enter Try.func71, Try.ntmps71
  go_wp2_with fail
  refine (ok3_any ao len cap zs _ hl HP.out).mono ?_
  rintro e w1 ⟨rfl, g1⟩
  obtain ⟨k1, q1⟩ := bcell g1
  have HW1 := Lib.hid g1
  clear g1
  rw [HV.out]
  obtain ⟨b, hao, hpp⟩ := (HP.out.below HW1.out).at (by omega)
  have HPP := Lib.hid hpp
  subst hao
  clear hpp
  go_wp2_with fail
  refine (area_spec b len cap zs _ HZ.out (by omega) l4 HO.out HPP.out).mono ?_
  rintro e w2 ⟨rfl, g2⟩
  have HW2 := Lib.hid (bseq HW1.out g2)
  clear g2 k1 q1
  go_wp2
  go_ret2
  exact ⟨rfl, HW2.out⟩
def lenF (zs : List P2) (k : Nat) : Int := rootI (sqI (pt zs k).1 (pt zs k).2 (pt zs (k + 1)).1 (pt zs (k + 1)).2)
def lenI (zs : List P2) : Int := sumTo (lenF zs) zs.length
theorem root_le (n : Int) (h : n ≤ 800000000) : 0 ≤ rootI n ∧ rootI n ≤ 30000 := by
  unfold rootI
  have h1 := (natRoot_spec n.toNat).1
  refine ⟨by omega, ?_⟩
  have h2 : natRoot n.toNat ≤ 30000 := by
    rcases Nat.lt_or_ge 30000 (natRoot n.toNat) with h3 | h3
    · have := sq_lt h3; omega
    · exact h3
  omega
theorem lenF_bd {zs : List P2} (h : allOk zs = true) (h0 : 0 < zs.length) (k : Nat) : -30000 ≤ lenF zs k ∧ lenF zs k ≤ 30000 := by
  have h1 := sq_rng _ _ _ _ (pt_ok h h0 k) (pt_ok h h0 (k + 1))
  have h2 := root_le (sqI (pt zs k).1 (pt zs k).2 (pt zs (k + 1)).1 (pt zs (k + 1)).2) (by omega)
  unfold lenF
  omega
theorem len_step (zs : List P2) (k : Nat) (x y u v : Int) (hk : k < zs.length) (h1 : zs.getD k (0, 0) = (x, y)) (h2 : zs.getD ((k + 1) % zs.length) (0, 0) = (u, v)) :
    sumTo (lenF zs) k + rootI (sqI x y u v) = sumTo (lenF zs) (k + 1) := by
  show _ = sumTo _ k + lenF zs k
  unfold lenF
  rw [pt_lt hk, h1, pt, h2]
end Go.Proofs.Ytjhmpmaademdcaa
