/- The rest of a panel: spec and impl. -/
import Derived.Test.YthflkkkpggaalaaDrw13
namespace Go.Proofs.Ythflkkkpggaalaa
open Seq2 Go.ChangeShapes Go.WideShapes Go.ChangeAt Go.RowKit
set_option linter.unusedVariables false
set_option linter.unusedSimpArgs false

/-- Twice the area of the first k faces. -/
def arTo (D : Drw) (k : Nat) : Int := sumTo (fun j => areaI (polyAt D j)) k
def restD (D : Drw) (k : Nat) : Int := 2 * D.wd * D.hg - arTo D k
theorem dr_poly {D : Drw} (h : drB D = true) {j : Nat} (hj : j < D.fs.length) : polyB (polyAt D j) = true := (dr_face h hj).2.2
theorem ar_rng {D : Drw} (h : drB D = true) {j : Nat} (hj : j < D.fs.length) : 0 < areaI (polyAt D j) ∧ areaI (polyAt D j) ≤ 9600000000 := by
  obtain ⟨h3, h24, hv, _, _, ha⟩ := poly_ok (dr_poly h hj)
  refine ⟨ha, ?_⟩
  have h1 := (area_bd hv (by omega) (polyAt D j).length).2
  have h2 : areaI (polyAt D j) = sumTo (fun k => crP (pt (polyAt D j) k) (pt (polyAt D j) (k + 1))) (polyAt D j).length := rfl
  omega
theorem arTo_rng {D : Drw} (h : drB D = true) {k : Nat} (hk : k ≤ D.fs.length) : 0 ≤ arTo D k ∧ arTo D k ≤ k * 9600000000 := by
  unfold arTo
  induction k with
  | zero => simp [sumTo]
  | succ k ih =>
    have h1 := ih (by omega)
    have h2 := ar_rng h (j := k) (by omega)
    show 0 ≤ sumTo _ k + areaI (polyAt D k) ∧ sumTo _ k + areaI (polyAt D k) ≤ _
    push_cast
    omega
theorem wh_rng {D : Drw} (h : drB D = true) : (0 ≤ D.wd ∧ D.wd ≤ 20000) ∧ 0 ≤ 2 * D.wd * D.hg ∧ 2 * D.wd * D.hg ≤ 800000000 := by
  have hp := (dr_panel h).1
  unfold panelB inI at hp
  simp only [Bool.and_eq_true, decide_eq_true_eq] at hp
  have h1 := Int.mul_nonneg (show 0 ≤ 2 * D.wd by omega) (show 0 ≤ D.hg by omega)
  have h2 := Int.mul_le_mul (show 2 * D.wd ≤ 40000 by omega) (show D.hg ≤ 20000 by omega) (by omega) (by omega)
  omega
theorem rest_rng {D : Drw} (h : drB D = true) {k : Nat} (hk : k ≤ D.fs.length) : -231000000000 ≤ restD D k ∧ restD D k ≤ 800000000 := by
  have h1 := arTo_rng h hk
  have h2 := wh_rng h
  have h3 := dr_few h
  have h4 : (k : Int) * 9600000000 ≤ 24 * 9600000000 := by omega
  unfold restD
  omega
theorem rest_succ (D : Drw) (k : Nat) : restD D (k + 1) = restD D k - areaI (polyAt D k) := by
  unfold restD arTo
  show _ - (sumTo _ k + areaI (polyAt D k)) = _
  omega
set_option maxRecDepth 100000 in
set_option maxHeartbeats 4000000 in
theorem rest_spec (q : Nat) (D : Drw) (w : World) (hd : DP w q D) (hv : drB D = true) : Calls Try.prog 38 #[.pointer (some ⟨q, 0, none⟩)] w fun e w' => e = .returned (.int .i64 (restD D D.fs.length)) ∧ Below w.heap.size w w' := by
  have HD := Lib.hid hd
  have HV := Lib.hid hv
  obtain ⟨ao, np, cp, bo, m, d, hq, _, _, hs, _, hf⟩ := hd.out
  have HQ := Lib.hid hq
  have HM := Lib.hid hf.1
  have hm1 : m ≤ 24 := by have := (dr_few hv).1; have := hf.1; omega
  have hqw := blk_lt hq
  have hw := wh_rng hv
  have q1 : IntKind.i64.wrap (2 * D.wd) = 2 * D.wd := IntWalk.i64_in _ (by omega)
  have q2 : IntKind.i64.wrap (2 * D.wd * D.hg) = 2 * D.wd * D.hg := IntWalk.i64_in _ (by omega)
  obtain ⟨c0, _, c1, _, _, _, c3, _⟩ := cells4_of hq
  have HR0 := Lib.hid (show restD D 0 = 2 * D.wd * D.hg by unfold restD arTo sumTo; omega)
  clear hd hq hf hs hv hw
  rw [← HM.out]
  go_enter Try.func38, Try.ntmps38
  go_wp2
  refine wp_region_below (by kernel_rfl) (by kernel_rfl) ?_
  repeat (first | (refine wq_skip ?_ ?_; (focus (go_simp; (first | done | (simp [undef]; done)))); (try simp only [Act.put, List.setIfInBounds_toArray, List.set_cons_zero, List.set_cons_succ])) | (refine wq_val ?_ ?_; (focus (go_simp; done)); apply Exists.intro; refine ⟨fun w1 hw1 => ?_, ?_⟩; (obtain ⟨hc, hf⟩ := bcell hw1; clear hw1; go_simp; (first | done | with_reducible rfl | (with_reducible exact eql2 _ _ _) | (with_reducible exact neq2 _ _ _))); (try simp only [Act.put, List.setIfInBounds_toArray, List.set_cons_zero, List.set_cons_succ])))
  refine wq_nil ?_
  intro wc hbc
  have HC := Lib.hid hbc
  clear hbc c0 c1 c3 q1
  go_wp2
  go_loopw [3, 4] (fun rv iv wr => ∃ k : Nat, k ≤ m ∧ iv = .int .i64 k ∧ rv = .int .i64 (restD D k) ∧ Hid (Below w.heap.size w wr)) (fun _ i _ => m - (intOf i).toNat)
  case atStart => exact ⟨0, by omega, rfl, by rw [HR0.out], HC⟩
  case round =>
    obtain ⟨k, hk, rfl, rfl, hb⟩ := hrel
    have hob := (hb.out.block q hqw).trans HQ.out
    have hqr := blk_lt hob
    obtain ⟨_, _, _, _, _, _, c3, _⟩ := cells4_of hob
    clear hob
    by_cases hlt : k < m
    · have hkz : k < D.fs.length := by have := HM.out; omega
      obtain ⟨h3, h24, hav, _, _, _⟩ := poly_ok (dr_poly HV.out hkz)
      have HAV := Lib.hid hav
      have hr1 := rest_rng HV.out (k := k) (by omega)
      have hr2 := rest_rng HV.out (k := k + 1) (by omega)
      have hst := rest_succ D k
      have q3 : IntKind.i64.wrap (restD D k - areaI (polyAt D k)) = restD D k - areaI (polyAt D k) := IntWalk.i64_in _ (by omega)
      have HST := Lib.hid hst
      have HF := Lib.hid (dr_face HV.out hkz)
      clear hav hr1 hr2 hst
      go_wp2_with fail
      refine (poly_spec q D k _ (HD.out.below hb.out) hkz HF.out.2.1).mono ?_
      rintro e w1 ⟨u, rfl, hn, hb1⟩
      obtain ⟨au, cu, rfl, _, hpu⟩ := own_PV hn
      obtain ⟨bu, rfl, hpt⟩ := hpu.at (by omega)
      have HPU := Lib.hid hpt
      have HB1 := Lib.hid (bseq hb.out hb1)
      clear hn hb1 hpu hpt
      go_wp2_with fail
      refine (area_spec bu _ _ (polyAt D k) _ rfl (by omega) h24 HAV.out HPU.out).mono ?_
      rintro e w2 ⟨rfl, hb2⟩
      have HB2 := Lib.hid (bseq HB1.out hb2)
      clear hb2 c3
      go_wp2
      go_roundw
      case rel => exact ⟨k + 1, by omega, by go_num, by rw [HST.out], HB2⟩
      case measure => simp [intOf]; omega
    · obtain rfl : k = m := by omega
      go_wp2
      go_ret
      exact ⟨rfl, hb.out⟩
def unR (D : Drw) : Int × Int := if drB D then (restD D D.fs.length, 0) else (0, 1)
set_option maxRecDepth 100000 in
set_option maxHeartbeats 2000000 in
theorem uncov_spec (v : Value) (D : Drw) (w : World) (hd : DV w v D) : Calls Try.prog 11 #[v] w fun e w' => e = .returned (.tuple #[.int .i64 (unR D).1, .int .i64 (unR D).2]) ∧ Below w.heap.size w w' := by
  obtain ⟨c, rfl, hp⟩ := hd.box
  have HP := Lib.hid hp
  clear hd hp
  cases h : drB D with
  | false =>
    have HR := Lib.hid (show unR D = (0, 1) by unfold unR; rw [h]; rfl)
    rw [HR.out]
    go_enter Try.func11, Try.ntmps11
    go_wp2_with fail
    refine (drOk_spec _ D _ HP.out).mono ?_
    rintro e w1 ⟨rfl, g1⟩
    have HG := Lib.hid (bseq (one_alloc _) g1)
    clear g1
    rw [h]
    go_wp2
    go_ret2
    exact ⟨rfl, HG.out⟩
  | true =>
    have HV := Lib.hid h
    have HR := Lib.hid (show unR D = (restD D D.fs.length, 0) by unfold unR; rw [h]; rfl)
    rw [HR.out]
    go_enter Try.func11, Try.ntmps11
    go_wp2_with fail
    refine (drOk_spec _ D _ HP.out).mono ?_
    rintro e w1 ⟨rfl, g1⟩
    have HG := Lib.hid (bseq (one_alloc _) g1)
    have HP1 := Lib.hid (HP.out.below g1)
    clear g1
    rw [h]
    go_wp2_with fail
    refine (rest_spec _ D _ HP1.out HV.out).mono ?_
    rintro e w2 ⟨rfl, g2⟩
    have HG2 := Lib.hid (bseq HG.out g2)
    clear g2
    go_wp2
    go_ret2
    exact ⟨rfl, HG2.out⟩
end Go.Proofs.Ythflkkkpggaalaa
