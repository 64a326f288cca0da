/- Is a list of points a polygon: by impl and by spec, for every slice of points. -/
import Derived.Test.YtjhmpmaademdcaaIsApart
namespace Go.Proofs.Ytjhmpmaademdcaa
open Go.ChangeShapes Go.WideShapes Go.ChangeAt Go.RowKit
set_option linter.unusedVariables false

/-- A slice of points at the start of a block, or an empty one. -/
def PV (w : World) (ao : Option Addr) (len : Nat) (zs : List P2) : Prop := len = zs.length ∧ (len = 0 ∨ ∃ b, ao = some ⟨b, 0, none⟩ ∧ PtsAt w b zs)
theorem PV.below {w w' : World} {ao : Option Addr} {len : Nat} {zs : List P2} (h : PV w ao len zs) (hb : Below w.heap.size w w') : PV w' ao len zs :=
  ⟨h.1, h.2.imp id fun ⟨b, e, hp⟩ => ⟨b, e, hp.below hb hp.1⟩⟩
theorem PV.at {w : World} {ao : Option Addr} {len : Nat} {zs : List P2} (h : PV w ao len zs) (h1 : 1 ≤ len) : ∃ b, ao = some ⟨b, 0, none⟩ ∧ PtsAt w b zs := h.2.resolve_left (by omega)
theorem pts_PV {w : World} {b len : Nat} {zs : List P2} (hz : len = zs.length) (h : PtsAt w b zs) : PV w (some ⟨b, 0, none⟩) len zs := ⟨hz, Or.inr ⟨b, rfl, h⟩⟩
theorem ok3_any (ao : Option Addr) (len cap : Nat) (zs : List P2) (w : World) (hl : len ≤ 1048576) (hp : PV w ao len zs) : Calls Try.prog 73 #[.slice ao len cap] w fun e w' => e = .returned (.bool (polyB zs)) ∧ Below w.heap.size w w' := by
  by_cases h3 : 3 ≤ len
  · by_cases h4 : len ≤ 24
    · obtain ⟨b, rfl, hpp⟩ := hp.at (by omega)
      exact ok3_spec b len cap zs w hp.1 h3 h4 hpp
    · rw [poly_len (by have := hp.1; omega)]
      clear hp
      have e1 : decide ((len : Int) < 3) = false := by simp; omega
      have e2 : decide (24 < (len : Int)) = true := by simp; omega
      go_enter Try.func73, Try.ntmps73
      go_wp2
      go_ret
      exact ⟨rfl, Below.refl _ _⟩
  · rw [poly_len (by have := hp.1; omega)]
    clear hp
    have e1 : decide ((len : Int) < 3) = true := by simp; omega
    go_enter Try.func73, Try.ntmps73
    go_wp2
    go_ret
    exact ⟨rfl, Below.refl _ _⟩
set_option maxHeartbeats 1000000 in
theorem isValid_at (b len cap : Nat) (zs : List P2) (w : World) (hz : len = zs.length) (h3 : 3 ≤ len) (h4 : len ≤ 24) (hp : PtsAt w b zs) : Calls Try.prog 87 #[.slice (some ⟨b, 0, none⟩) len cap] w fun e w' => e = .returned (.bool (polyB zs)) ∧ Below w.heap.size w w' := by
  have HZ := Lib.hid hz
  have HP := Lib.hid hp
  have h3z : 3 ≤ zs.length := by omega
  have h4z : zs.length ≤ 24 := by omega
  clear hz hp
  cases c0 : allOk zs
  · rw [poly_bad c0]
    go_enter Try.func87, Try.ntmps87
    go_wp2_with fail
    refine (allValid_any b len cap zs _ HZ.out (by omega) HP.out).mono ?_
    rintro e w1 ⟨rfl, g1⟩
    obtain ⟨k1, q1⟩ := bcell g1
    have HW1 := Lib.hid g1
    clear g1
    rw [c0]
    clear k1 q1
    go_wp2
    go_ret
    exact ⟨rfl, HW1.out⟩
  have HV := Lib.hid c0
  rw [poly_of h3z h4z c0]
  cases c1 : goB zs
  · simp only [Bool.false_and]
    go_enter Try.func87, Try.ntmps87
    go_wp2_with fail
    refine (allValid_any b len cap zs _ HZ.out (by omega) HP.out).mono ?_
    rintro e w1 ⟨rfl, g1⟩
    obtain ⟨k1, q1⟩ := bcell g1
    have HW1 := Lib.hid g1
    clear g1
    rw [c0]
    go_wp2_with fail
    refine (goesOn_any b len cap zs _ HZ.out h3 h4 HV.out (HP.out.below HW1.out HP.out.1)).mono ?_
    rintro e w2 ⟨rfl, g2⟩
    obtain ⟨k2, q2⟩ := bcell (bseq HW1.out g2)
    have HW2 := Lib.hid (bseq HW1.out g2)
    clear g2 k1 q1
    rw [c1]
    clear k2 q2
    go_wp2
    go_ret
    exact ⟨rfl, HW2.out⟩
  cases c2 : apB zs
  · simp only [Bool.true_and, Bool.false_and]
    go_enter Try.func87, Try.ntmps87
    go_wp2_with fail
    refine (allValid_any b len cap zs _ HZ.out (by omega) HP.out).mono ?_
    rintro e w1 ⟨rfl, g1⟩
    obtain ⟨k1, q1⟩ := bcell g1
    have HW1 := Lib.hid g1
    clear g1
    rw [c0]
    go_wp2_with fail
    refine (goesOn_any b len cap zs _ HZ.out h3 h4 HV.out (HP.out.below HW1.out HP.out.1)).mono ?_
    rintro e w2 ⟨rfl, g2⟩
    obtain ⟨k2, q2⟩ := bcell (bseq HW1.out g2)
    have HW2 := Lib.hid (bseq HW1.out g2)
    clear g2 k1 q1
    rw [c1]
    go_wp2_with fail
    refine (isApart_any b len cap zs _ HZ.out h3 h4 HV.out (HP.out.below HW2.out HP.out.1)).mono ?_
    rintro e w3 ⟨rfl, g3⟩
    obtain ⟨k3, q3⟩ := bcell (bseq HW2.out g3)
    have HW3 := Lib.hid (bseq HW2.out g3)
    clear g3 k2 q2
    rw [c2]
    clear k3 q3
    go_wp2
    go_ret
    exact ⟨rfl, HW3.out⟩
  simp only [Bool.true_and]
  go_enter Try.func87, Try.ntmps87
  go_wp2_with fail
  refine (allValid_any b len cap zs _ HZ.out (by omega) HP.out).mono ?_
  rintro e w1 ⟨rfl, g1⟩
  obtain ⟨k1, q1⟩ := bcell g1
  have HW1 := Lib.hid g1
  clear g1
  rw [c0]
  go_wp2_with fail
  refine (goesOn_any b len cap zs _ HZ.out h3 h4 HV.out (HP.out.below HW1.out HP.out.1)).mono ?_
  rintro e w2 ⟨rfl, g2⟩
  obtain ⟨k2, q2⟩ := bcell (bseq HW1.out g2)
  have HW2 := Lib.hid (bseq HW1.out g2)
  clear g2 k1 q1
  rw [c1]
  go_wp2_with fail
  refine (isApart_any b len cap zs _ HZ.out h3 h4 HV.out (HP.out.below HW2.out HP.out.1)).mono ?_
  rintro e w3 ⟨rfl, g3⟩
  obtain ⟨k3, q3⟩ := bcell (bseq HW2.out g3)
  have HW3 := Lib.hid (bseq HW2.out g3)
  clear g3 k2 q2
  rw [c2]
  go_wp2_with fail
  refine (area_impl b len cap zs _ HZ.out (by omega) h4 HV.out (HP.out.below HW3.out HP.out.1)).mono ?_
  rintro e w4 ⟨rfl, g4⟩
  obtain ⟨k4, q4⟩ := bcell (bseq HW3.out g4)
  have HW4 := Lib.hid (bseq HW3.out g4)
  clear g4 k3 q3
  clear k4 q4
  go_wp2
  go_ret
  exact ⟨rfl, HW4.out⟩
theorem isValid_any (ao : Option Addr) (len cap : Nat) (zs : List P2) (w : World) (hl : len ≤ 1048576) (hp : PV w ao len zs) : Calls Try.prog 87 #[.slice ao len cap] w fun e w' => e = .returned (.bool (polyB zs)) ∧ Below w.heap.size w w' := by
  by_cases h3 : 3 ≤ len
  · by_cases h4 : len ≤ 24
    · obtain ⟨b, rfl, hpp⟩ := hp.at (by omega)
      exact isValid_at b len cap zs w hp.1 h3 h4 hpp
    · rw [poly_len (by have := hp.1; omega)]
      clear hp
      have e1 : decide (3 ≤ (len : Int)) = true := by simp; omega
      have e2 : decide ((len : Int) ≤ 24) = false := by simp; omega
      go_enter Try.func87, Try.ntmps87
      go_wp2
      go_ret
      exact ⟨rfl, Below.refl _ _⟩
  · rw [poly_len (by have := hp.1; omega)]
    clear hp
    have e1 : decide (3 ≤ (len : Int)) = false := by simp; omega
    go_enter Try.func87, Try.ntmps87
    go_wp2
    go_ret
    exact ⟨rfl, Below.refl _ _⟩
theorem valid_pimpl (ao : Option Addr) (len cap : Nat) (zs : List P2) (w : World) (hl : len ≤ 1048576) (hp : PV w ao len zs) : Calls Try.prog 76 #[.slice ao len cap] w fun e w' => e = .returned (.bool (polyB zs)) ∧ Below w.heap.size w w' := by
  have HP := Lib.hid hp
  clear hp
  go_enter Try.func76, Try.ntmps76
  go_wp2_with fail
  refine (isValid_any _ _ _ zs _ hl HP.out).mono ?_
  rintro e w1 ⟨rfl, g1⟩
  obtain ⟨k1, q1⟩ := bcell g1
  have HW1 := Lib.hid g1
  clear g1
  clear k1 q1
  go_wp2
  go_ret
  exact ⟨rfl, HW1.out⟩
end Go.Proofs.Ytjhmpmaademdcaa
