/- Area and border of a polygon. -/
import Derived.Test.YtfapacdfpegibaaPolyValid
import Derived.Test.YtfapacdfpegibaaSegFar
import Derived.Test.YtfapacdfpegibaaSegSpec3
namespace Go.Proofs.Ytfapacdfpegibaa
attribute [local go_sem] Oper.semAt_some
open Go.Shelf Go.ChangeShapes Go.WideShapes Go.ChangeAt Go.RowKit
set_option linter.unusedVariables false

theorem areaS_no (ao : Option Addr) (len cap : Nat) (zs : List P2) (w : World) (hl : len ≤ 1048576) (hp : PV w ao len zs) (hv : polyB zs = false) :
    Calls Try.prog 43 #[.slice ao len cap] w fun e w' => e = .returned (.tuple #[.int .i64 0, .int .i64 1]) ∧ Below w.heap.size w w' := by
  have HP := Lib.hid hp
  have HV := Lib.hid hv
  clear hp hv
  go_enter Try.func43, Try.ntmps43
  go_wp2_with fail
  refine (ok3_any ao len cap zs _ hl HP.out).mono ?_
  rintro e w1 ⟨rfl, g1⟩
  obtain ⟨k1, q1⟩ := bcell g1
  have HW1 := Lib.hid g1
  clear g1
  rw [HV.out]
  clear k1 q1
  go_wp2
  go_ret2
  exact ⟨rfl, HW1.out⟩
set_option maxHeartbeats 1000000 in
theorem areaS_yes (ao : Option Addr) (len cap : Nat) (zs : List P2) (w : World) (hl : len ≤ 1048576) (hp : PV w ao len zs) (hv : polyB zs = true) :
    Calls Try.prog 43 #[.slice ao len cap] w fun e w' => e = .returned (.tuple #[.int .i64 (areaI zs), .int .i64 0]) ∧ Below w.heap.size w w' := by
  obtain ⟨z3, z4, hok, _, _, _⟩ := poly_ok hv
  have hz := hp.1
  have HP := Lib.hid hp
  have HV := Lib.hid hv
  have HO := Lib.hid hok
  have HZ := Lib.hid hz
  have l3 : 3 ≤ len := by omega
  have l4 : len ≤ 24 := by omega
  clear hp hv hok hz
  go_enter Try.func43, Try.ntmps43
  go_wp2_with fail
  refine (ok3_any ao len cap zs _ hl HP.out).mono ?_
  rintro e w1 ⟨rfl, g1⟩
  obtain ⟨k1, q1⟩ := bcell g1
  have HW1 := Lib.hid g1
  clear g1
  rw [HV.out]
  obtain ⟨b, hao, hpp⟩ := (HP.out.below HW1.out).at (by omega)
  have HPP := Lib.hid hpp
  subst hao
  clear hpp
  go_wp2_with fail
  refine (area_spec b len cap zs _ HZ.out (by omega) l4 HO.out HPP.out).mono ?_
  rintro e w2 ⟨rfl, g2⟩
  have HW2 := Lib.hid (bseq HW1.out g2)
  clear g2 k1 q1
  go_wp2
  go_ret2
  exact ⟨rfl, HW2.out⟩
theorem areaX_no (ao : Option Addr) (len cap : Nat) (zs : List P2) (w : World) (hl : len ≤ 1048576) (hp : PV w ao len zs) (hv : polyB zs = false) :
    Calls Try.prog 44 #[.slice ao len cap] w fun e w' => e = .returned (.tuple #[.int .i64 0, .int .i64 1]) ∧ Below w.heap.size w w' := by
  have HP := Lib.hid hp
  have HV := Lib.hid hv
  clear hp hv
  go_enter Try.func44, Try.ntmps44
  go_wp2_with fail
  refine (valid_pimpl ao len cap zs _ hl HP.out).mono ?_
  rintro e w1 ⟨rfl, g1⟩
  obtain ⟨k1, q1⟩ := bcell g1
  have HW1 := Lib.hid g1
  clear g1
  rw [HV.out]
  clear k1 q1
  go_wp2
  go_ret2
  exact ⟨rfl, HW1.out⟩
set_option maxHeartbeats 1000000 in
theorem areaX_yes (ao : Option Addr) (len cap : Nat) (zs : List P2) (w : World) (hl : len ≤ 1048576) (hp : PV w ao len zs) (hv : polyB zs = true) :
    Calls Try.prog 44 #[.slice ao len cap] w fun e w' => e = .returned (.tuple #[.int .i64 (areaI zs), .int .i64 0]) ∧ Below w.heap.size w w' := by
  obtain ⟨z3, z4, hok, _, _, _⟩ := poly_ok hv
  have hz := hp.1
  have HP := Lib.hid hp
  have HV := Lib.hid hv
  have HO := Lib.hid hok
  have HZ := Lib.hid hz
  have l3 : 3 ≤ len := by omega
  have l4 : len ≤ 24 := by omega
  clear hp hv hok hz
  go_enter Try.func44, Try.ntmps44
  go_wp2_with fail
  refine (valid_pimpl ao len cap zs _ hl HP.out).mono ?_
  rintro e w1 ⟨rfl, g1⟩
  obtain ⟨k1, q1⟩ := bcell g1
  have HW1 := Lib.hid g1
  clear g1
  rw [HV.out]
  obtain ⟨b, hao, hpp⟩ := (HP.out.below HW1.out).at (by omega)
  have HPP := Lib.hid hpp
  subst hao
  clear hpp
  go_wp2_with fail
  refine (area_impl b len cap zs _ HZ.out (by omega) l4 HO.out HPP.out).mono ?_
  rintro e w2 ⟨rfl, g2⟩
  have HW2 := Lib.hid (bseq HW1.out g2)
  clear g2 k1 q1
  go_wp2
  go_ret2
  exact ⟨rfl, HW2.out⟩
def lenF (zs : List P2) (k : Nat) : Int := rootI (sqI (pt zs k).1 (pt zs k).2 (pt zs (k + 1)).1 (pt zs (k + 1)).2)
def lenI (zs : List P2) : Int := sumTo (lenF zs) zs.length
theorem root_le (n : Int) (h : n ≤ 800000000) : 0 ≤ rootI n ∧ rootI n ≤ 30000 := by
  unfold rootI
  have h1 := (natRoot_spec n.toNat).1
  refine ⟨by omega, ?_⟩
  have h2 : natRoot n.toNat ≤ 30000 := by
    rcases Nat.lt_or_ge 30000 (natRoot n.toNat) with h3 | h3
    · have := sq_lt h3; omega
    · exact h3
  omega
theorem lenF_bd {zs : List P2} (h : allOk zs = true) (h0 : 0 < zs.length) (k : Nat) : -30000 ≤ lenF zs k ∧ lenF zs k ≤ 30000 := by
  have h1 := sq_rng _ _ _ _ (pt_ok h h0 k) (pt_ok h h0 (k + 1))
  have h2 := root_le (sqI (pt zs k).1 (pt zs k).2 (pt zs (k + 1)).1 (pt zs (k + 1)).2) (by omega)
  unfold lenF
  omega
theorem len_step (zs : List P2) (k : Nat) (x y u v : Int) (hk : k < zs.length) (h1 : zs.getD k (0, 0) = (x, y)) (h2 : zs.getD ((k + 1) % zs.length) (0, 0) = (u, v)) :
    sumTo (lenF zs) k + rootI (sqI x y u v) = sumTo (lenF zs) (k + 1) := by
  show _ = sumTo _ k + lenF zs k
  unfold lenF
  rw [pt_lt hk, h1, pt, h2]
set_option maxHeartbeats 1000000 in
theorem len_spec (b len cap : Nat) (zs : List P2) (w : World) (hz : len = zs.length) (h1 : 1 ≤ len) (hl : len ≤ 24) (hv : allOk zs = true) (hp : PtsAt w b zs) :
    Calls Try.prog 95 #[.slice (some ⟨b, 0, none⟩) len cap] w fun e w' => e = .returned (.int .i64 (lenI zs)) ∧ Below w.heap.size w w' := by
  have HZ := Lib.hid hz
  have HP := Lib.hid hp
  have HV := Lib.hid hv
  clear hz hp hv
  go_enter Try.func95, Try.ntmps95
  go_wp2
  go_loopw [3, 4] (fun s i wr => ∃ k : Nat, k ≤ len ∧ i = .int .i64 k ∧ s = .int .i64 (sumTo (lenF zs) k) ∧ Hid (Below w.heap.size w wr)) (fun _ i _ => len - (intOf i).toNat)
  case atStart => exact ⟨0, by omega, rfl, rfl, Lib.hid (Below.refl _ _)⟩
  case round =>
    obtain ⟨k, hk, rfl, rfl, hb⟩ := hrel
    by_cases hlt : k < len
    · have hkz : k < zs.length := by have := HZ.out; omega
      have hj : (k + 1) % zs.length < zs.length := Nat.mod_lt _ (by omega)
      have hP := HP.out.below hb.out HP.out.1
      have hbw := hP.1
      obtain ⟨x, y, e1, o1, c1, c2⟩ := hP.ok HV.out hkz
      obtain ⟨u, v, e2, o2, d1, d2⟩ := hP.ok HV.out hj
      have HS := Lib.hid (len_step zs k x y u v hkz e1 e2)
      have hs := sumTo_bd (n := k) (fun j _ => lenF_bd HV.out (by omega) j)
      have hr := root_le (sqI x y u v) (by have := sq_rng _ _ _ _ o1 o2; omega)
      have O1 := Lib.hid o1
      have O2 := Lib.hid o2
      generalize sumTo (lenF zs) k = s at *
      rw [← HZ.out] at hj d1 d2
      have gm : ((k : Int) + 1) % (len : Int) = (((k + 1) % len : Nat) : Int) := mod_int k 1 len
      have gt : ((k : Int) + 1).tmod (len : Int) = (((k + 1) % len : Nat) : Int) := mod_tm k 1 len (by omega)
      generalize (k + 1) % len = j at *
      clear e1 e2 o1 o2 hP
      have hn0 : len ≠ 0 := by omega
      have ek : IntKind.i64.wrap ((k : Int) + 1) = (k : Int) + 1 := IntWalk.i64_in _ (by omega)
      have q4 : IntKind.i64.wrap (s + rootI (sqI x y u v)) = s + rootI (sqI x y u v) := IntWalk.i64_in _ (by omega)
      go_wp2
      refine wp_region_below (by kernel_rfl) (by kernel_rfl) ?_
      (refine wq_val (by go_simp) ?_; apply Exists.intro; refine ⟨fun w1 hw1 => ?_, ?_⟩; (obtain ⟨hc, hf⟩ := bcell hw1; clear hw1; go_simp; (try with_reducible rfl)); (try simp only [Act.put, List.setIfInBounds_toArray, List.set_cons_zero, List.set_cons_succ]))
      (refine wq_val (by go_simp) ?_; apply Exists.intro; refine ⟨fun w1 hw1 => ?_, ?_⟩; (obtain ⟨hc, hf⟩ := bcell hw1; clear hw1; go_simp; (try with_reducible rfl)); (try simp only [Act.put, List.setIfInBounds_toArray, List.set_cons_zero, List.set_cons_succ]))
      (refine wq_val (by go_simp) ?_; apply Exists.intro; refine ⟨fun w1 hw1 => ?_, ?_⟩; (obtain ⟨hc, hf⟩ := bcell hw1; clear hw1; go_simp; (try with_reducible rfl)); (try simp only [Act.put, List.setIfInBounds_toArray, List.set_cons_zero, List.set_cons_succ]))
      (refine wq_val (by go_simp) ?_; apply Exists.intro; refine ⟨fun w1 hw1 => ?_, ?_⟩; (obtain ⟨hc, hf⟩ := bcell hw1; clear hw1; go_simp; (try with_reducible rfl)); (try simp only [Act.put, List.setIfInBounds_toArray, List.set_cons_zero, List.set_cons_succ]))
      (refine wq_val (by go_simp) ?_; apply Exists.intro; refine ⟨fun w1 hw1 => ?_, ?_⟩; (obtain ⟨hc, hf⟩ := bcell hw1; clear hw1; go_simp; (try with_reducible rfl)); (try simp only [Act.put, List.setIfInBounds_toArray, List.set_cons_zero, List.set_cons_succ]))
      (refine wq_val (by go_simp) ?_; apply Exists.intro; refine ⟨fun w1 hw1 => ?_, ?_⟩; (obtain ⟨hc, hf⟩ := bcell hw1; clear hw1; go_simp; (try with_reducible rfl)); (try simp only [Act.put, List.setIfInBounds_toArray, List.set_cons_zero, List.set_cons_succ]))
      (refine wq_val (by go_simp) ?_; apply Exists.intro; refine ⟨fun w1 hw1 => ?_, ?_⟩; (obtain ⟨hc, hf⟩ := bcell hw1; clear hw1; go_simp; (try with_reducible rfl)); (try simp only [Act.put, List.setIfInBounds_toArray, List.set_cons_zero, List.set_cons_succ]))
      (refine wq_val (by go_simp) ?_; apply Exists.intro; refine ⟨fun w1 hw1 => ?_, ?_⟩; (obtain ⟨hc, hf⟩ := bcell hw1; clear hw1; go_simp; (try with_reducible rfl)); (try simp only [Act.put, List.setIfInBounds_toArray, List.set_cons_zero, List.set_cons_succ]))
      (refine wq_val (by go_simp) ?_; apply Exists.intro; refine ⟨fun w1 hw1 => ?_, ?_⟩; (obtain ⟨hc, hf⟩ := bcell hw1; clear hw1; go_simp; (try with_reducible rfl)); (try simp only [Act.put, List.setIfInBounds_toArray, List.set_cons_zero, List.set_cons_succ]))
      (refine wq_val (by go_simp) ?_; apply Exists.intro; refine ⟨fun w1 hw1 => ?_, ?_⟩; (obtain ⟨hc, hf⟩ := bcell hw1; clear hw1; go_simp; (try with_reducible rfl)); (try simp only [Act.put, List.setIfInBounds_toArray, List.set_cons_zero, List.set_cons_succ]))
      (refine wq_val (by go_simp) ?_; apply Exists.intro; refine ⟨fun w1 hw1 => ?_, ?_⟩; (obtain ⟨hc, hf⟩ := bcell hw1; clear hw1; go_simp; (try with_reducible rfl)); (try simp only [Act.put, List.setIfInBounds_toArray, List.set_cons_zero, List.set_cons_succ]))
      (refine wq_val (by go_simp) ?_; apply Exists.intro; refine ⟨fun w1 hw1 => ?_, ?_⟩; (obtain ⟨hc, hf⟩ := bcell hw1; clear hw1; go_simp; (try with_reducible rfl)); (try simp only [Act.put, List.setIfInBounds_toArray, List.set_cons_zero, List.set_cons_succ]))
      (refine wq_val (by go_simp) ?_; apply Exists.intro; refine ⟨fun w1 hw1 => ?_, ?_⟩; (obtain ⟨hc, hf⟩ := bcell hw1; clear hw1; go_simp; (try with_reducible rfl)); (try simp only [Act.put, List.setIfInBounds_toArray, List.set_cons_zero, List.set_cons_succ]))
      (refine wq_call 132 (by go_simp) ?_; apply Exists.intro; refine ⟨fun w1 hw1 => ?_, ?_⟩; (clear hw1; go_simp; (try with_reducible rfl)); apply Exists.intro; refine ⟨fun w1 hw1 => ?_, ?_⟩; (exact calls_below hw1 (apart_spec _ _ _ _ _ O1.out O2.out)); (try simp only [Act.put, List.setIfInBounds_toArray, List.set_cons_zero, List.set_cons_succ]))
      (refine wq_val (by go_simp) ?_; apply Exists.intro; refine ⟨fun w1 hw1 => ?_, ?_⟩; (obtain ⟨hc, hf⟩ := bcell hw1; clear hw1; go_simp; (try with_reducible rfl)); (try simp only [Act.put, List.setIfInBounds_toArray, List.set_cons_zero, List.set_cons_succ]))
      (refine wq_val (by go_simp) ?_; apply Exists.intro; refine ⟨fun w1 hw1 => ?_, ?_⟩; (obtain ⟨hc, hf⟩ := bcell hw1; clear hw1; go_simp; (try with_reducible rfl)); (try simp only [Act.put, List.setIfInBounds_toArray, List.set_cons_zero, List.set_cons_succ]))
      refine wq_nil ?_
      intro w1 hb1
      have HB1 := Lib.hid hb1
      clear hb1
      go_wp2
      go_roundw
      case rel => exact ⟨k + 1, by omega, by go_num, by rw [HS.out], Lib.hid (bseq hb.out HB1.out)⟩
      case measure => simp [intOf]; omega
    · go_wp2
      go_ret
      exact ⟨ret_int (by rw [lenI, ← HZ.out, show k = len by omega]), hb.out⟩
theorem lenS_no (ao : Option Addr) (len cap : Nat) (zs : List P2) (w : World) (hl : len ≤ 1048576) (hp : PV w ao len zs) (hv : polyB zs = false) :
    Calls Try.prog 45 #[.slice ao len cap] w fun e w' => e = .returned (.tuple #[.int .i64 0, .int .i64 1]) ∧ Below w.heap.size w w' := by
  have HP := Lib.hid hp
  have HV := Lib.hid hv
  clear hp hv
  go_enter Try.func45, Try.ntmps45
  go_wp2_with fail
  refine (ok3_any ao len cap zs _ hl HP.out).mono ?_
  rintro e w1 ⟨rfl, g1⟩
  obtain ⟨k1, q1⟩ := bcell g1
  have HW1 := Lib.hid g1
  clear g1
  rw [HV.out]
  clear k1 q1
  go_wp2
  go_ret2
  exact ⟨rfl, HW1.out⟩
set_option maxHeartbeats 1000000 in
theorem lenS_yes (ao : Option Addr) (len cap : Nat) (zs : List P2) (w : World) (hl : len ≤ 1048576) (hp : PV w ao len zs) (hv : polyB zs = true) :
    Calls Try.prog 45 #[.slice ao len cap] w fun e w' => e = .returned (.tuple #[.int .i64 (lenI zs), .int .i64 0]) ∧ Below w.heap.size w w' := by
  obtain ⟨z3, z4, hok, _, _, _⟩ := poly_ok hv
  have hz := hp.1
  have HP := Lib.hid hp
  have HV := Lib.hid hv
  have HO := Lib.hid hok
  have HZ := Lib.hid hz
  have l3 : 3 ≤ len := by omega
  have l4 : len ≤ 24 := by omega
  clear hp hv hok hz
  go_enter Try.func45, Try.ntmps45
  go_wp2_with fail
  refine (ok3_any ao len cap zs _ hl HP.out).mono ?_
  rintro e w1 ⟨rfl, g1⟩
  obtain ⟨k1, q1⟩ := bcell g1
  have HW1 := Lib.hid g1
  clear g1
  rw [HV.out]
  obtain ⟨b, hao, hpp⟩ := (HP.out.below HW1.out).at (by omega)
  have HPP := Lib.hid hpp
  subst hao
  clear hpp
  go_wp2_with fail
  refine (len_spec b len cap zs _ HZ.out (by omega) l4 HO.out HPP.out).mono ?_
  rintro e w2 ⟨rfl, g2⟩
  have HW2 := Lib.hid (bseq HW1.out g2)
  clear g2 k1 q1
  go_wp2
  go_ret2
  exact ⟨rfl, HW2.out⟩
theorem lenX_no (ao : Option Addr) (len cap : Nat) (zs : List P2) (w : World) (hl : len ≤ 1048576) (hp : PV w ao len zs) (hv : polyB zs = false) :
    Calls Try.prog 46 #[.slice ao len cap] w fun e w' => e = .returned (.tuple #[.int .i64 0, .int .i64 1]) ∧ Below w.heap.size w w' := by
  have HP := Lib.hid hp
  have HV := Lib.hid hv
  clear hp hv
  go_enter Try.func46, Try.ntmps46
  go_wp2_with fail
  refine (valid_pimpl ao len cap zs _ hl HP.out).mono ?_
  rintro e w1 ⟨rfl, g1⟩
  obtain ⟨k1, q1⟩ := bcell g1
  have HW1 := Lib.hid g1
  clear g1
  rw [HV.out]
  clear k1 q1
  go_wp2
  go_ret2
  exact ⟨rfl, HW1.out⟩
set_option maxRecDepth 100000 in
set_option maxHeartbeats 4000000 in
theorem lenX_yes (ao : Option Addr) (len cap : Nat) (zs : List P2) (w : World) (hl : len ≤ 1048576) (hp : PV w ao len zs) (hv : polyB zs = true) :
    Calls Try.prog 46 #[.slice ao len cap] w fun e w' => e = .returned (.tuple #[.int .i64 (lenI zs), .int .i64 0]) ∧ Below w.heap.size w w' := by
  obtain ⟨z3, z4, hok, _, _, _⟩ := poly_ok hv
  have hz := hp.1
  obtain ⟨b, hao, hpp⟩ := hp.at (by omega)
  subst hao
  have HQ := Lib.hid hp
  have HP := Lib.hid hpp
  have HT := Lib.hid hv
  have HV := Lib.hid hok
  have HZ := Lib.hid hz
  have l3 : 3 ≤ len := by omega
  have l4 : len ≤ 24 := by omega
  have hbw := hpp.1
  clear hp hpp hv hok hz
  refine callsIn_wide (n := 2) |>.1 ?_
  refine callsIn_of_wp_marks Try.func46 rfl trivial ?_ rfl
  simp only [Try.ntmps46, List.size_toArray, List.length_cons, List.length_nil, Nat.reduceAdd, Nat.reduceSub, Array.replicate_succ, Array.replicate_zero, List.push_toArray, List.append_toArray, List.nil_append, List.cons_append]
  gi_wp2_with fail
  refine ⟨trivial, (callsIn_wide.2 (valid_pimpl _ len cap zs _ hl HQ.out)).mono ?_⟩
  rintro e w1 ⟨rfl, g1⟩
  have HW1 := Lib.hid g1
  have hs1 := g1.size
  rw [HT.out]
  clear g1
  gi_wp2_with fail
  refine ⟨trivial, (callsIn_wide.2 (edges_any _ _ _ _)).mono ?_⟩
  rintro e w2 ⟨B, rfl, hm⟩
  have hB := hm.high
  have hBc : w2.cell? ⟨B, 0, none⟩ = some (.slice (some ⟨b, 0, none⟩) len cap) := by simp [World.cell?, hm.here]
  have HM := Lib.hid hm.below
  have hlow := hm.low
  clear hm
  have hw1 : w1.heap.size < w2.heap.size := by have := HM.out.size; simp at this; omega
  have hlow' : w1.heap.size < B := by simp at hlow; omega
  have HB1 : Hid (Below w1.heap.size w1 w2) := Lib.hid (bseq (one_alloc _) HM.out)
  have HBOX : Hid (Boxed w2 w1.heap.size 2 (.int .i64 0)) := Lib.hid ((Boxed.new w1 2 (.int .i64 0)).kept (grown_none HM.out) (by simp))
  gi_wp2
  refine wp_edges B b len cap zs HZ.out (by omega) (by omega) rfl hB hBc ((HP.out.below HW1.out hbw).below HB1.out (by omega)) (SumAt (lenF zs) w1 w1.heap.size 2) (fun _ _ _ => False) (sumAt_own _ (by omega) hw1) (fun _ _ _ _ _ h _ _ => h) ⟨HB1.out, HBOX.out⟩
    (fun x a' W => ∃ E, w2.heap.size ≤ E ∧ W.heap[E]? = some (seg4 zs x) ∧ a' = { tmps := #[.slice (some ⟨b, 0, none⟩) len cap, undef, .int .i64 0, .int .i64 0, .pointer (some ⟨w1.heap.size, 0, none⟩), .pointer (some ⟨E, 0, none⟩), .slice (some ⟨b, 0, none⟩) len cap, .bool true, .bool false, .slice (some ⟨b, 0, none⟩) len cap, .func (.func 118) #[] #[.pointer (some ⟨B, 0, none⟩)], segV zs x, undef, undef, undef, undef, undef, undef, undef, undef], defers := [] }) ?_ ?_ ?_ ?_ ?_
  · rintro x a' _ X Y row ⟨E, h1, h2, h3⟩ hg hr
    exact ⟨E, h1, own_cells rfl () X Y row h2 hg hr, h3⟩
  · intro l pre x W K hW hI hK
    unfold segV
    gi_wp2
    refine hK _ _ ((KeepsOthers.alloc _ _).from _) (Keep2.of_below (one_alloc _) (by omega) (by omega)) ((sumAt_own (B := w2.heap.size) _ (by omega) hw1).alloc _ hI) ⟨W.heap.size, hW, World.alloc_heap_new _ _, rfl⟩
  · rintro l pre x a' W hW hI ⟨E, hE1, hE2, rfl⟩ hlen
    have HI := Lib.hid hI
    obtain ⟨c0, f0, c1, f1, c2, f2, c3, f3⟩ := cells4_of hE2
    have hsc := hI.2.cell
    have hsf := hI.2.frozen
    have hEW : E < W.heap.size := (Array.getElem?_eq_some_iff.1 hE2).1
    have hSW : w1.heap.size < W.heap.size := by omega
    have o1 := pt_ok HV.out (by have := HZ.out; omega) x
    have o2 := pt_ok HV.out (by have := HZ.out; omega) (x + 1)
    have hbd := sumOf_bd (lenF zs) 30000 (fun k => lenF_bd HV.out (by have := HZ.out; omega) k) pre
    have hb2 := lenF_bd HV.out (by have := HZ.out; omega) x
    have HS := Lib.hid (sumOf_snoc (lenF zs) pre x)
    have HF := Lib.hid (show lenF zs x = rootI (sqI (pt zs x).1 (pt zs x).2 (pt zs (x + 1)).1 (pt zs (x + 1)).2) from rfl)
    rw [HF.out] at hb2
    generalize sumOf (lenF zs) pre = s at *
    generalize (pt zs x).1 = xa at *
    generalize (pt zs x).2 = ya at *
    generalize (pt zs (x + 1)).1 = xb at *
    generalize (pt zs (x + 1)).2 = yb at *
    have q4 : IntKind.i64.wrap (s + rootI (sqI xa ya xb yb)) = s + rootI (sqI xa ya xb yb) := IntWalk.i64_in _ (by omega)
    have O1 := Lib.hid o1
    have O2 := Lib.hid o2
    clear hI hE2 f0 f1 f2 f3 o1 o2
    gi_wp2
    refine wpIn_region_plan (grants_round l 0 _ _ (by kernel_rfl)) 1 [7] [.val 0 [] (.int .i64 s), .val 1 [] (.pointer (some ⟨E, 0, none⟩)), .val 2 [] (.agg #[.int .i64 xa, .int .i64 ya]), .val 3 [] (.pointer (some ⟨E, 2, none⟩)), .val 4 [] (.agg #[.int .i64 xb, .int .i64 yb]), .val 5 [] (.int .i64 (rootI (sqI xa ya xb yb))), .val 6 [] (.int .i64 (s + rootI (sqI xa ya xb yb)))] (by kernel_rfl) (by kernel_rfl) rfl ?_
    refine plan_val (by kernel_rfl) (by kernel_rfl) (by kernel_rfl) (by go_simp) (fun w1 hw1 => ?_) ?_
    · obtain ⟨hc, hf⟩ := bcell hw1; clear hw1; go_simp; (try with_reducible rfl)
    (try simp only [Act.put, List.setIfInBounds_toArray, List.set_cons_zero, List.set_cons_succ])
    refine plan_val (by kernel_rfl) (by kernel_rfl) (by kernel_rfl) (by go_simp) (fun w1 hw1 => ?_) ?_
    · obtain ⟨hc, hf⟩ := bcell hw1; clear hw1; go_simp; (try with_reducible rfl)
    (try simp only [Act.put, List.setIfInBounds_toArray, List.set_cons_zero, List.set_cons_succ])
    refine plan_val (by kernel_rfl) (by kernel_rfl) (by kernel_rfl) (by go_simp) (fun w1 hw1 => ?_) ?_
    · obtain ⟨hc, hf⟩ := bcell hw1; clear hw1; go_simp; (try with_reducible rfl)
    (try simp only [Act.put, List.setIfInBounds_toArray, List.set_cons_zero, List.set_cons_succ])
    refine plan_val (by kernel_rfl) (by kernel_rfl) (by kernel_rfl) (by go_simp) (fun w1 hw1 => ?_) ?_
    · obtain ⟨hc, hf⟩ := bcell hw1; clear hw1; go_simp; (try with_reducible rfl)
    (try simp only [Act.put, List.setIfInBounds_toArray, List.set_cons_zero, List.set_cons_succ])
    refine plan_val (by kernel_rfl) (by kernel_rfl) (by kernel_rfl) (by go_simp) (fun w1 hw1 => ?_) ?_
    · obtain ⟨hc, hf⟩ := bcell hw1; clear hw1; go_simp; (try with_reducible rfl)
    (try simp only [Act.put, List.setIfInBounds_toArray, List.set_cons_zero, List.set_cons_succ])
    refine plan_call [] 96 #[.agg #[.int .i64 xa, .int .i64 ya], .agg #[.int .i64 xb, .int .i64 yb]] (by kernel_rfl) (by kernel_rfl) (by kernel_rfl) (by kernel_rfl) (by go_simp) (fun w1 hw1 => ?_) (fun w1 hC => ?_) ?_
    · clear hw1; go_simp; (try with_reducible rfl)
    · exact apart_any _ _ _ _ _ O1.out O2.out
    (try simp only [Act.put, List.setIfInBounds_toArray, List.set_cons_zero, List.set_cons_succ])
    refine plan_val (by kernel_rfl) (by kernel_rfl) (by kernel_rfl) (by go_simp) (fun w1 hw1 => ?_) ?_
    · obtain ⟨hc, hf⟩ := bcell hw1; clear hw1; go_simp; (try with_reducible rfl)
    (try simp only [Act.put, List.setIfInBounds_toArray, List.set_cons_zero, List.set_cons_succ])
    refine plan_tail (fun _ => trivial) (by kernel_rfl) (by kernel_rfl) rfl (fun w3 hC => ?_)
    have HB2 := Lib.hid hC.1
    obtain ⟨k2, q2⟩ := bcell hC.1
    have hsc2 := (k2 _ 0 hSW).trans hsc
    have hsf2 := (q2 _ 0 hSW).trans hsf
    clear hC k2 q2 hsc hsf
    gi_wp2
    have hB3 := HB2.out
    refine ⟨(((KeepsOthers.of_grownBy (grown_none hB3) (fun j o e => by cases e))).trans (KeepsOthers.setCell _ _ _)).from _, (Keep2.of_below hB3 (by omega) (by omega)).trans (Keep2.setCell (by show w1.heap.size ≠ b; omega) (by show w1.heap.size ≠ B; omega) _), ((HI.out.1.trans (hB3.mono (by omega))).setCell (Nat.le_refl _) _), ?_⟩
    show Boxed _ _ _ (.int .i64 (sumOf (lenF zs) (pre ++ [x])))
    rw [HS.out, HF.out]
    exact (HI.out.2.kept (grown_none hB3) (by simp)).set _
  · intro D W hD hI hd
    have HI := Lib.hid hI
    have hsc := hI.2.cell
    clear hI
    gi_wp2
    refine ⟨by simp, .inl ⟨_, _, rfl, run_takeDeferred hd, ?_⟩⟩
    refine ⟨_, results_tmp2 rfl _ _ _, ?_⟩
    exact ⟨by rw [show lenI zs = sumOf (lenF zs) (List.range len) by rw [sumOf_range, HZ.out]; rfl]; rfl, bseq HW1.out (belowK_put HI.out.1 (by omega) hd)⟩
  · intro D c k W _ _ h _
    exact h.elim
end Go.Proofs.Ytfapacdfpegibaa
