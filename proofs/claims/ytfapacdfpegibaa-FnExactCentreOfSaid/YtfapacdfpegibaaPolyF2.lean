/- Is a polygon convex. -/
import Derived.Test.YtfapacdfpegibaaPolyF1
namespace Go.Proofs.Ytfapacdfpegibaa
open Go.ChangeShapes Go.WideShapes Go.ChangeAt Go.RowKit
set_option linter.unusedVariables false

def cvF (zs : List P2) (k : Nat) : Bool := !decide (sdI (pt zs k).1 (pt zs k).2 (pt zs (k + 1)).1 (pt zs (k + 1)).2 (pt zs (k + 2)).1 (pt zs (k + 2)).2 < 0)
def cvB (zs : List P2) : Bool := allTo (cvF zs) zs.length
theorem cv_bad {zs : List P2} {k : Nat} (hk : k < zs.length) (h : cvF zs k = false) : cvB zs = false := allTo_bad hk h
theorem pt_at (zs : List P2) (k c : Nat) : pt zs (k + c) = zs.getD ((k + c) % zs.length) (0, 0) := rfl
theorem two_bools {a b : Bool} (h : a = b) : Ending.returned (.bool a) = .returned (.bool b) := by rw [h]
theorem cvS_no (ao : Option Addr) (len cap : Nat) (zs : List P2) (w : World) (hl : len ≤ 1048576) (hp : PV w ao len zs) (hv : polyB zs = false) :
    Calls Try.prog 51 #[.slice ao len cap] w fun e w' => e = .returned (.bool false) ∧ Below w.heap.size w w' := by
  have HP := Lib.hid hp
  have HV := Lib.hid hv
  clear hp hv
  go_enter Try.func51, Try.ntmps51
  go_wp2_with fail
  refine (ok3_any ao len cap zs _ hl HP.out).mono ?_
  rintro e w1 ⟨rfl, g1⟩
  obtain ⟨k1, q1⟩ := bcell g1
  have HW1 := Lib.hid g1
  clear g1
  rw [HV.out]
  clear k1 q1
  go_wp2
  go_ret
  exact ⟨rfl, HW1.out⟩
theorem cvX_no (ao : Option Addr) (len cap : Nat) (zs : List P2) (w : World) (hl : len ≤ 1048576) (hp : PV w ao len zs) (hv : polyB zs = false) :
    Calls Try.prog 52 #[.slice ao len cap] w fun e w' => e = .returned (.bool false) ∧ Below w.heap.size w w' := by
  have HP := Lib.hid hp
  have HV := Lib.hid hv
  clear hp hv
  go_enter Try.func52, Try.ntmps52
  go_wp2_with fail
  refine (valid_pimpl ao len cap zs _ hl HP.out).mono ?_
  rintro e w1 ⟨rfl, g1⟩
  obtain ⟨k1, q1⟩ := bcell g1
  have HW1 := Lib.hid g1
  clear g1
  rw [HV.out]
  clear k1 q1
  go_wp2
  go_ret
  exact ⟨rfl, HW1.out⟩
set_option maxRecDepth 100000 in
set_option maxHeartbeats 2000000 in
theorem cvS_yes (ao : Option Addr) (len cap : Nat) (zs : List P2) (w : World) (hl : len ≤ 1048576) (hp : PV w ao len zs) (hv : polyB zs = true) :
    Calls Try.prog 51 #[.slice ao len cap] w fun e w' => e = .returned (.bool (cvB zs)) ∧ Below w.heap.size w w' := by
  obtain ⟨z3, z4, hok, _, _, _⟩ := poly_ok hv
  have hz := hp.1
  obtain ⟨b, hao, hpp⟩ := hp.at (by omega)
  subst hao
  have HQ := Lib.hid hp
  have HP := Lib.hid hpp
  have HT := Lib.hid hv
  have HV := Lib.hid hok
  have HZ := Lib.hid hz
  have l3 : 3 ≤ len := by omega
  have l4 : len ≤ 24 := by omega
  have hbw := hpp.1
  clear hp hpp hv hok hz
  go_enter Try.func51, Try.ntmps51
  go_wp2_with fail
  refine (ok3_any _ len cap zs _ hl HQ.out).mono ?_
  rintro e w1 ⟨rfl, g1⟩
  have HP1 := Lib.hid (HP.out.below g1 hbw)
  have HW1 := Lib.hid g1
  clear g1
  rw [HT.out]
  go_wp2
  go_loopw [3] (fun iv wr => ∃ k : Nat, k ≤ len ∧ iv = .int .i64 k ∧ Hid (allTo (cvF zs) k = true) ∧ Hid (Below w1.heap.size w1 wr)) (fun i _ => len - (intOf i).toNat)
  case atStart => exact ⟨0, by omega, rfl, Lib.hid rfl, Lib.hid (Below.refl _ _)⟩
  case round =>
    obtain ⟨k, hk, rfl, hi, hb⟩ := hrel
    by_cases hlt : k < len
    · have hkz : k < zs.length := by have := HZ.out; omega
      have hj1 : (k + 1) % zs.length < zs.length := Nat.mod_lt _ (by omega)
      have hj2 : (k + 2) % zs.length < zs.length := Nat.mod_lt _ (by omega)
      have hP := HP1.out.below hb.out HP1.out.1
      have hbr := hP.1
      obtain ⟨x, y, e1, o1, c1, c2⟩ := hP.ok HV.out hkz
      obtain ⟨u, v, e2, o2, d1, d2⟩ := hP.ok HV.out hj1
      obtain ⟨s, t, e3, o3, f1, f2⟩ := hP.ok HV.out hj2
      have HC : Hid (cvF zs k = !decide (sdI x y u v s t < 0)) := Lib.hid (by unfold cvF; rw [pt_lt hkz, e1, pt_at, e2, pt_at, e3])
      have O1 := Lib.hid o1
      have O2 := Lib.hid o2
      have O3 := Lib.hid o3
      have sr := side_rng x y u v s t
      rw [← HZ.out] at hj1 hj2 d1 d2 f1 f2
      have gm1 : ((k : Int) + 1) % (len : Int) = (((k + 1) % len : Nat) : Int) := mod_int k 1 len
      have gm2 : ((k : Int) + 2) % (len : Int) = (((k + 2) % len : Nat) : Int) := mod_int k 2 len
      have gt1 : ((k : Int) + 1).tmod (len : Int) = (((k + 1) % len : Nat) : Int) := mod_tm k 1 len (by omega)
      have gt2 : ((k : Int) + 2).tmod (len : Int) = (((k + 2) % len : Nat) : Int) := mod_tm k 2 len (by omega)
      generalize (k + 1) % len = j1 at *
      generalize (k + 2) % len = j2 at *
      clear e1 e2 e3 o1 o2 o3 hP
      have hn0 : len ≠ 0 := by omega
      have ek1 : IntKind.i64.wrap ((k : Int) + 1) = (k : Int) + 1 := IntWalk.i64_in _ (by omega)
      have ek2 : IntKind.i64.wrap ((k : Int) + 2) = (k : Int) + 2 := IntWalk.i64_in _ (by omega)
      go_wp2
      refine wp_region_below (by kernel_rfl) (by kernel_rfl) ?_
      (refine wq_val (by go_simp) ?_; apply Exists.intro; refine ⟨fun w1 hw1 => ?_, ?_⟩; (obtain ⟨hc, hf⟩ := bcell hw1; clear hw1; go_simp; (try with_reducible rfl)); (try simp only [Act.put, List.setIfInBounds_toArray, List.set_cons_zero, List.set_cons_succ]))
      (refine wq_val (by go_simp) ?_; apply Exists.intro; refine ⟨fun w1 hw1 => ?_, ?_⟩; (obtain ⟨hc, hf⟩ := bcell hw1; clear hw1; go_simp; (try with_reducible rfl)); (try simp only [Act.put, List.setIfInBounds_toArray, List.set_cons_zero, List.set_cons_succ]))
      (refine wq_val (by go_simp) ?_; apply Exists.intro; refine ⟨fun w1 hw1 => ?_, ?_⟩; (obtain ⟨hc, hf⟩ := bcell hw1; clear hw1; go_simp; (try with_reducible rfl)); (try simp only [Act.put, List.setIfInBounds_toArray, List.set_cons_zero, List.set_cons_succ]))
      (refine wq_val (by go_simp) ?_; apply Exists.intro; refine ⟨fun w1 hw1 => ?_, ?_⟩; (obtain ⟨hc, hf⟩ := bcell hw1; clear hw1; go_simp; (try with_reducible rfl)); (try simp only [Act.put, List.setIfInBounds_toArray, List.set_cons_zero, List.set_cons_succ]))
      (refine wq_val (by go_simp) ?_; apply Exists.intro; refine ⟨fun w1 hw1 => ?_, ?_⟩; (obtain ⟨hc, hf⟩ := bcell hw1; clear hw1; go_simp; (try with_reducible rfl)); (try simp only [Act.put, List.setIfInBounds_toArray, List.set_cons_zero, List.set_cons_succ]))
      (refine wq_val (by go_simp) ?_; apply Exists.intro; refine ⟨fun w1 hw1 => ?_, ?_⟩; (obtain ⟨hc, hf⟩ := bcell hw1; clear hw1; go_simp; (try with_reducible rfl)); (try simp only [Act.put, List.setIfInBounds_toArray, List.set_cons_zero, List.set_cons_succ]))
      (refine wq_val (by go_simp) ?_; apply Exists.intro; refine ⟨fun w1 hw1 => ?_, ?_⟩; (obtain ⟨hc, hf⟩ := bcell hw1; clear hw1; go_simp; (try with_reducible rfl)); (try simp only [Act.put, List.setIfInBounds_toArray, List.set_cons_zero, List.set_cons_succ]))
      (refine wq_val (by go_simp) ?_; apply Exists.intro; refine ⟨fun w1 hw1 => ?_, ?_⟩; (obtain ⟨hc, hf⟩ := bcell hw1; clear hw1; go_simp; (try with_reducible rfl)); (try simp only [Act.put, List.setIfInBounds_toArray, List.set_cons_zero, List.set_cons_succ]))
      (refine wq_val (by go_simp) ?_; apply Exists.intro; refine ⟨fun w1 hw1 => ?_, ?_⟩; (obtain ⟨hc, hf⟩ := bcell hw1; clear hw1; go_simp; (try with_reducible rfl)); (try simp only [Act.put, List.setIfInBounds_toArray, List.set_cons_zero, List.set_cons_succ]))
      (refine wq_val (by go_simp) ?_; apply Exists.intro; refine ⟨fun w1 hw1 => ?_, ?_⟩; (obtain ⟨hc, hf⟩ := bcell hw1; clear hw1; go_simp; (try with_reducible rfl)); (try simp only [Act.put, List.setIfInBounds_toArray, List.set_cons_zero, List.set_cons_succ]))
      (refine wq_val (by go_simp) ?_; apply Exists.intro; refine ⟨fun w1 hw1 => ?_, ?_⟩; (obtain ⟨hc, hf⟩ := bcell hw1; clear hw1; go_simp; (try with_reducible rfl)); (try simp only [Act.put, List.setIfInBounds_toArray, List.set_cons_zero, List.set_cons_succ]))
      (refine wq_val (by go_simp) ?_; apply Exists.intro; refine ⟨fun w1 hw1 => ?_, ?_⟩; (obtain ⟨hc, hf⟩ := bcell hw1; clear hw1; go_simp; (try with_reducible rfl)); (try simp only [Act.put, List.setIfInBounds_toArray, List.set_cons_zero, List.set_cons_succ]))
      (refine wq_val (by go_simp) ?_; apply Exists.intro; refine ⟨fun w1 hw1 => ?_, ?_⟩; (obtain ⟨hc, hf⟩ := bcell hw1; clear hw1; go_simp; (try with_reducible rfl)); (try simp only [Act.put, List.setIfInBounds_toArray, List.set_cons_zero, List.set_cons_succ]))
      (refine wq_val (by go_simp) ?_; apply Exists.intro; refine ⟨fun w1 hw1 => ?_, ?_⟩; (obtain ⟨hc, hf⟩ := bcell hw1; clear hw1; go_simp; (try with_reducible rfl)); (try simp only [Act.put, List.setIfInBounds_toArray, List.set_cons_zero, List.set_cons_succ]))
      (refine wq_val (by go_simp) ?_; apply Exists.intro; refine ⟨fun w1 hw1 => ?_, ?_⟩; (obtain ⟨hc, hf⟩ := bcell hw1; clear hw1; go_simp; (try with_reducible rfl)); (try simp only [Act.put, List.setIfInBounds_toArray, List.set_cons_zero, List.set_cons_succ]))
      (refine wq_val (by go_simp) ?_; apply Exists.intro; refine ⟨fun w1 hw1 => ?_, ?_⟩; (obtain ⟨hc, hf⟩ := bcell hw1; clear hw1; go_simp; (try with_reducible rfl)); (try simp only [Act.put, List.setIfInBounds_toArray, List.set_cons_zero, List.set_cons_succ]))
      (refine wq_val (by go_simp) ?_; apply Exists.intro; refine ⟨fun w1 hw1 => ?_, ?_⟩; (obtain ⟨hc, hf⟩ := bcell hw1; clear hw1; go_simp; (try with_reducible rfl)); (try simp only [Act.put, List.setIfInBounds_toArray, List.set_cons_zero, List.set_cons_succ]))
      (refine wq_val (by go_simp) ?_; apply Exists.intro; refine ⟨fun w1 hw1 => ?_, ?_⟩; (obtain ⟨hc, hf⟩ := bcell hw1; clear hw1; go_simp; (try with_reducible rfl)); (try simp only [Act.put, List.setIfInBounds_toArray, List.set_cons_zero, List.set_cons_succ]))
      (refine wq_val (by go_simp) ?_; apply Exists.intro; refine ⟨fun w1 hw1 => ?_, ?_⟩; (obtain ⟨hc, hf⟩ := bcell hw1; clear hw1; go_simp; (try with_reducible rfl)); (try simp only [Act.put, List.setIfInBounds_toArray, List.set_cons_zero, List.set_cons_succ]))
      (refine wq_val (by go_simp) ?_; apply Exists.intro; refine ⟨fun w1 hw1 => ?_, ?_⟩; (obtain ⟨hc, hf⟩ := bcell hw1; clear hw1; go_simp; (try with_reducible rfl)); (try simp only [Act.put, List.setIfInBounds_toArray, List.set_cons_zero, List.set_cons_succ]))
      (refine wq_call 100 (by go_simp) ?_; apply Exists.intro; refine ⟨fun w1 hw1 => ?_, ?_⟩; (clear hw1; go_simp; (try with_reducible rfl)); apply Exists.intro; refine ⟨fun w1 hw1 => ?_, ?_⟩; (exact calls_below hw1 (side_spec _ _ _ _ _ _ _ O1.out O2.out O3.out)); (try simp only [Act.put, List.setIfInBounds_toArray, List.set_cons_zero, List.set_cons_succ]))
      (refine wq_val (by go_simp) ?_; apply Exists.intro; refine ⟨fun w1 hw1 => ?_, ?_⟩; (obtain ⟨hc, hf⟩ := bcell hw1; clear hw1; go_simp; (try with_reducible rfl)); (try simp only [Act.put, List.setIfInBounds_toArray, List.set_cons_zero, List.set_cons_succ]))
      refine wq_nil ?_
      intro w2 hb2
      have HB2 := Lib.hid (bseq hb.out hb2)
      clear hb2 gm1 gm2 gt1 gt2
      cases hc : decide (sdI x y u v s t < 0)
      · rw [hc] at HC
        have hc' : ¬ sdI x y u v s t < 0 := by simpa using hc
        clear hc
        go_wp2
        go_roundw
        case rel => exact ⟨k + 1, by omega, by go_num, Lib.hid (allTo_succ hi.out HC.out), HB2⟩
        case measure => simp [intOf]; omega
      · rw [hc] at HC
        have hc' : sdI x y u v s t < 0 := by simpa using hc
        clear hc
        go_wp2
        go_ret
        exact ⟨two_bools (cv_bad hkz HC.out).symm, bseq HW1.out HB2.out⟩
    · obtain rfl : k = len := by omega
      go_wp2
      go_ret
      exact ⟨two_bools (by rw [cvB, ← HZ.out, hi.out]), bseq HW1.out hb.out⟩
set_option maxRecDepth 100000 in
set_option maxHeartbeats 2000000 in
theorem cvX_yes (ao : Option Addr) (len cap : Nat) (zs : List P2) (w : World) (hl : len ≤ 1048576) (hp : PV w ao len zs) (hv : polyB zs = true) :
    Calls Try.prog 52 #[.slice ao len cap] w fun e w' => e = .returned (.bool (cvB zs)) ∧ Below w.heap.size w w' := by
  obtain ⟨z3, z4, hok, _, _, _⟩ := poly_ok hv
  have hz := hp.1
  obtain ⟨b, hao, hpp⟩ := hp.at (by omega)
  subst hao
  have HQ := Lib.hid hp
  have HP := Lib.hid hpp
  have HT := Lib.hid hv
  have HV := Lib.hid hok
  have HZ := Lib.hid hz
  have l3 : 3 ≤ len := by omega
  have l4 : len ≤ 24 := by omega
  have hbw := hpp.1
  clear hp hpp hv hok hz
  go_enter Try.func52, Try.ntmps52
  go_wp2_with fail
  refine (valid_pimpl _ len cap zs _ hl HQ.out).mono ?_
  rintro e w1 ⟨rfl, g1⟩
  have HP1 := Lib.hid (HP.out.below g1 hbw)
  have HW1 := Lib.hid g1
  clear g1
  rw [HT.out]
  go_wp2
  go_loopw [12] (fun iv wr => ∃ k : Nat, k ≤ len ∧ iv = .int .i64 k ∧ Hid (allTo (cvF zs) k = true) ∧ Hid (Below w1.heap.size w1 wr)) (fun i _ => len - (intOf i).toNat)
  case atStart => exact ⟨0, by omega, rfl, Lib.hid rfl, Lib.hid (Below.refl _ _)⟩
  case round =>
    obtain ⟨k, hk, rfl, hi, hb⟩ := hrel
    by_cases hlt : k < len
    · have hkz : k < zs.length := by have := HZ.out; omega
      have HPP := Lib.hid (HP1.out.below hb.out HP1.out.1)
      have hwb := HPP.out.1
      obtain ⟨xa, ya, e1⟩ := pt_eta zs k
      obtain ⟨xb, yb, e2⟩ := pt_eta zs (k + 1)
      obtain ⟨xc, yc, e3⟩ := pt_eta zs (k + 2)
      have hA := pt_ok HV.out (by omega) k
      have hB := pt_ok HV.out (by omega) (k + 1)
      have hC := pt_ok HV.out (by omega) (k + 2)
      rw [e1] at hA
      rw [e2] at hB
      rw [e3] at hC
      have HCV : Hid (cvF zs k = !decide (sdI xa ya xb yb xc yc < 0)) := Lib.hid (by unfold cvF; rw [e1, e2, e3])
      have HA := Lib.hid hA
      have HB := Lib.hid hB
      have HC := Lib.hid hC
      have E1 := Lib.hid e1
      have E2 := Lib.hid e2
      have E3 := Lib.hid e3
      have sr := side_rng xa ya xb yb xc yc
      clear e1 e2 e3 hA hB hC
      have ek2 : IntKind.i64.wrap ((k : Int) + 2) = (k : Int) + 2 := IntWalk.i64_in _ (by omega)
      go_wp2_with fail
      refine (corner_any b len cap k zs _ HZ.out (by omega) (by omega) (by omega) HPP.out).mono ?_
      rintro e w2 ⟨rfl, g2⟩
      have HW2 := Lib.hid g2
      clear g2
      rw [E1.out]
      go_wp2_with fail
      refine (corner_any b len cap (k + 1) zs _ HZ.out (by omega) (by omega) (by omega) (HPP.out.below HW2.out hwb)).mono ?_
      rintro e w3 ⟨rfl, g3⟩
      have HW3 := Lib.hid (bseq HW2.out g3)
      have HP3 := Lib.hid (HPP.out.below HW3.out hwb)
      clear g3
      rw [E2.out]
      have hw3 := HW3.out.size
      go_wp2
      refine wp_region_below (by kernel_rfl) (by kernel_rfl) ?_
      (refine wq_val (by go_simp) ?_; apply Exists.intro; refine ⟨fun w1 hw1 => ?_, ?_⟩; (obtain ⟨hc, hf⟩ := bcell hw1; clear hw1; go_simp; (try with_reducible rfl)); (try simp only [Act.put, List.setIfInBounds_toArray, List.set_cons_zero, List.set_cons_succ]))
      (refine wq_val (by go_simp) ?_; apply Exists.intro; refine ⟨fun w1 hw1 => ?_, ?_⟩; (obtain ⟨hc, hf⟩ := bcell hw1; clear hw1; go_simp; (try with_reducible rfl)); (try simp only [Act.put, List.setIfInBounds_toArray, List.set_cons_zero, List.set_cons_succ]))
      (refine wq_val (by go_simp) ?_; apply Exists.intro; refine ⟨fun w1 hw1 => ?_, ?_⟩; (obtain ⟨hc, hf⟩ := bcell hw1; clear hw1; go_simp; (try with_reducible rfl)); (try simp only [Act.put, List.setIfInBounds_toArray, List.set_cons_zero, List.set_cons_succ]))
      (refine wq_val (by go_simp) ?_; apply Exists.intro; refine ⟨fun w1 hw1 => ?_, ?_⟩; (obtain ⟨hc, hf⟩ := bcell hw1; clear hw1; go_simp; (try with_reducible rfl)); (try simp only [Act.put, List.setIfInBounds_toArray, List.set_cons_zero, List.set_cons_succ]))
      (refine wq_call 101 (by go_simp) ?_; apply Exists.intro; refine ⟨fun w1 hw1 => ?_, ?_⟩; (clear hw1; go_simp; (try with_reducible rfl)); apply Exists.intro; refine ⟨fun w1 hw1 => ?_, ?_⟩; (exact calls_below hw1 ((corner_any b len cap (k + 2) zs _ HZ.out (by omega) (by omega) (by omega) (HP3.out.below (bseq (one_alloc _) hw1) HP3.out.1)).mono (fun e w h => by rw [E3.out] at h; exact h))); (try simp only [Act.put, List.setIfInBounds_toArray, List.set_cons_zero, List.set_cons_succ]))
      (refine wq_call 85 (by go_simp) ?_; apply Exists.intro; refine ⟨fun w1 hw1 => ?_, ?_⟩; (clear hw1; go_simp; (try with_reducible rfl)); apply Exists.intro; refine ⟨fun w1 hw1 => ?_, ?_⟩; (exact calls_below hw1 (side_any _ _ _ _ _ _ _ HA.out HB.out HC.out)); (try simp only [Act.put, List.setIfInBounds_toArray, List.set_cons_zero, List.set_cons_succ]))
      (refine wq_val (by go_simp) ?_; apply Exists.intro; refine ⟨fun w1 hw1 => ?_, ?_⟩; (obtain ⟨hc, hf⟩ := bcell hw1; clear hw1; go_simp; (try with_reducible rfl)); (try simp only [Act.put, List.setIfInBounds_toArray, List.set_cons_zero, List.set_cons_succ]))
      refine wq_nil ?_
      intro w4 hb4
      have HB4 := Lib.hid (bseq hb.out (bseq HW3.out (bseq (one_alloc _) hb4)))
      clear hb4
      cases hc : decide (sdI xa ya xb yb xc yc < 0)
      · rw [hc] at HCV
        have hc' : ¬ sdI xa ya xb yb xc yc < 0 := by simpa using hc
        clear hc
        go_wp2
        go_roundw
        case rel => exact ⟨k + 1, by omega, by go_num, Lib.hid (allTo_succ hi.out HCV.out), HB4⟩
        case measure => simp [intOf]; omega
      · rw [hc] at HCV
        have hc' : sdI xa ya xb yb xc yc < 0 := by simpa using hc
        clear hc
        go_wp2
        go_ret
        exact ⟨two_bools (cv_bad hkz HCV.out).symm, bseq HW1.out HB4.out⟩
    · obtain rfl : k = len := by omega
      go_wp2
      go_ret
      exact ⟨two_bools (by rw [cvB, ← HZ.out, hi.out]), bseq HW1.out hb.out⟩
end Go.Proofs.Ytfapacdfpegibaa
