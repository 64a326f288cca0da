/- Is a picture valid: spec and impl. -/
import Derived.Test.YtkmmhkhbpfkmcaaGreatDoorPic1
import Derived.Test.YtkmmhkhbpfkmcaaGreatDoorDrw9
import Derived.Test.YtkmmhkhbpfkmcaaGreatDoorDrw12
import Derived.Test.YtkmmhkhbpfkmcaaGreatDoorVen8
namespace Go.Proofs.YtkmmhkhbpfkmcaaGreatDoor
open Seq2 Go.ChangeShapes Go.WideShapes Go.ChangeAt Go.RowKit
set_option linter.unusedVariables false
set_option linter.unusedSimpArgs false

def cntB (z : Pc) : Bool := decide (z.vs.length = z.dr.fs.length)
def picB (z : Pc) : Bool := drB z.dr && (vnsB z.vs && cntB z)
theorem vnsB_all {z : Pc} (h : picB z = true) : ∀ j, j < z.vs.length → vnB (z.vs.getD j vn0) = true := by
  intro j hj
  unfold picB at h
  simp only [Bool.and_eq_true] at h
  have h2 := h.2.1
  unfold vnsB at h2
  rw [List.all_eq_true] at h2
  rw [List.getD_eq_getElem?_getD, List.getElem?_eq_getElem hj]
  exact h2 _ (List.getElem_mem hj)
theorem VnV.vl {w : World} {ao : Option Addr} {n : Nat} {zs : List Vn} (h : VnV w ao n zs) : VL w ao n zs := h
set_option maxRecDepth 100000 in
set_option maxHeartbeats 4000000 in
theorem vens_spec (ao : Option Addr) (n c : Nat) (zs : List Vn) (w : World) (hn : n ≤ 1048576) (hv : VL w ao n zs) : Calls Tryz.prog 66 #[.slice ao n c] w fun e w' => e = .returned (.bool (vnsB zs)) ∧ Below w.heap.size w w' := by
  have HV := Lib.hid hv
  have HZ := Lib.hid hv.1
  clear hv
  go_enter Tryz.func66, Tryz.ntmps66
  go_wp2
  go_loopw [3] (fun iv wr => ∃ k : Nat, k ≤ n ∧ iv = .int .i64 k ∧ Hid (∀ j, j < k → vnB (zs.getD j vn0) = true) ∧ Hid (Below w.heap.size w wr)) (fun i _ => n - (intOf i).toNat)
  case atStart => exact ⟨0, by omega, rfl, Lib.hid (fun j hj => absurd hj (by omega)), Lib.hid (Below.refl _ _)⟩
  case round =>
    obtain ⟨k, hk, rfl, hi, hb⟩ := hrel
    by_cases hlt : k < n
    · obtain ⟨b, rfl, hvc⟩ := (HV.out.below hb.out).2.resolve_left (by omega)
      have hvk := hvc k hlt
      have HVK := Lib.hid hvk
      have hbw := hvk.1
      have HE := Lib.hid (show vnB (zs.getD k vn0) = venB (zs.getD k vn0).1 (zs.getD k vn0).2.1 (zs.getD k vn0).2.2 from rfl)
      clear hvc hvk
      obtain ⟨z, hz⟩ : ∃ z, zs.getD k vn0 = z := ⟨_, rfl⟩
      have HZK := Lib.hid hz
      rw [hz] at HE HVK
      clear hz
      obtain ⟨s, x, y⟩ := z
      go_wp2_with fail
      refine (ok_ven b (k * 3) s x y _ HVK.out).mono ?_
      rintro e w1 ⟨rfl, g1⟩
      have HG := Lib.hid (hb.out.trans (g1.mono hb.out.size))
      clear g1
      cases hs : venB s x y with
      | false =>
        have HR := Lib.hid (vnsB_no (zs := zs) (by have := HZ.out; omega) (show vnB (zs.getD k vn0) = false by rw [HZK.out]; exact HE.out.trans hs))
        go_wp2
        go_ret
        exact ⟨ret_bool' HR.out.symm, HG.out⟩
      | true =>
        have HI := Lib.hid (show ∀ j, j < k + 1 → vnB (zs.getD j vn0) = true from fun j hj => (Nat.lt_succ_iff_lt_or_eq.1 hj).elim (hi.out j) (fun e => by subst e; rw [HZK.out]; exact HE.out.trans hs))
        go_wp2
        go_roundw
        case rel => exact ⟨k + 1, by omega, by go_num, HI, HG⟩
        case measure => simp [intOf]; omega
    · obtain rfl : k = n := by omega
      have HR := Lib.hid (vnsB_yes (zs := zs) (by rw [← HZ.out]; exact hi.out))
      go_wp2
      go_ret
      exact ⟨ret_bool' HR.out.symm, hb.out⟩
set_option maxRecDepth 100000 in
set_option maxHeartbeats 4000000 in
theorem picOk_spec (q : Nat) (z : Pc) (w : World) (hd : PcP w q z) : Calls Tryz.prog 30 #[.pointer (some ⟨q, 0, none⟩)] w fun e w' => e = .returned (.bool (picB z)) ∧ Below w.heap.size w w' := by
  obtain ⟨ao, bo, n, c, m, d, eo, k, e, h1, hs, h2, h3, h4⟩ := hd.out
  have HP := Lib.hid hd.dp
  have HV := Lib.hid h4.vl
  have HC := Lib.hid (show cntB z = ((k : Int) == (m : Int)) by unfold cntB; rw [← h4.1, ← h2.faces]; exact decide_eq_decide.2 (by omega))
  have hqw := h1.lt
  obtain ⟨c0, _, c1, _, c2, _, c3, _⟩ := h1.w4.cells
  have c4 := h1.c4
  have HN := Lib.hid h3
  clear hd h1 hs h2 h3 h4
  cases r0 : drB z.dr with
  | false =>
    have HR := Lib.hid (show picB z = false by unfold picB; rw [r0]; rfl)
    go_enter Tryz.func30, Tryz.ntmps30
    go_wp2
    refine wp_region_below (by kernel_rfl) (by kernel_rfl) ?_
    repeat (first | (refine wq_skip ?_ ?_; (focus (go_simp; (first | done | (simp [undef]; done)))); (try simp only [Act.put, List.setIfInBounds_toArray, List.set_cons_zero, List.set_cons_succ])) | (refine wq_val ?_ ?_; (focus (go_simp; done)); apply Exists.intro; refine ⟨fun w1 hw1 => ?_, ?_⟩; (obtain ⟨hc, hf⟩ := bcell hw1; clear hw1; go_simp; (first | done | with_reducible rfl | (with_reducible exact eql2 _ _ _) | (with_reducible exact neq2 _ _ _))); (try simp only [Act.put, List.setIfInBounds_toArray, List.set_cons_zero, List.set_cons_succ])) | (refine wq_call 65 ?_ ?_; (focus (go_simp; done)); apply Exists.intro; refine ⟨fun w1 hw1 => ?_, ?_⟩; (focus (clear hw1; go_simp; (first | done | with_reducible rfl))); apply Exists.intro; refine ⟨fun w1 hw1 => ?_, ?_⟩; (focus (exact calls_below hw1 (by have := drOk_spec q z.dr w1 (HP.out.below hw1); rw [r0] at this; exact this); done)); (try simp only [Act.put, List.setIfInBounds_toArray, List.set_cons_zero, List.set_cons_succ])))
    refine wq_nil ?_
    intro wc hbc
    have HB := Lib.hid hbc
    clear hbc
    go_wp2
    go_ret
    exact ⟨ret_bool' HR.out.symm, HB.out⟩
  | true =>
    cases r1 : vnsB z.vs with
    | false =>
      have HR := Lib.hid (show picB z = false by unfold picB; rw [r0, r1]; rfl)
      go_enter Tryz.func30, Tryz.ntmps30
      go_wp2
      refine wp_region_below (by kernel_rfl) (by kernel_rfl) ?_
      repeat (first | (refine wq_skip ?_ ?_; (focus (go_simp; (first | done | (simp [undef]; done)))); (try simp only [Act.put, List.setIfInBounds_toArray, List.set_cons_zero, List.set_cons_succ])) | (refine wq_val ?_ ?_; (focus (go_simp; done)); apply Exists.intro; refine ⟨fun w1 hw1 => ?_, ?_⟩; (obtain ⟨hc, hf⟩ := bcell hw1; clear hw1; go_simp; (first | done | with_reducible rfl | (with_reducible exact eql2 _ _ _) | (with_reducible exact neq2 _ _ _))); (try simp only [Act.put, List.setIfInBounds_toArray, List.set_cons_zero, List.set_cons_succ])) | (refine wq_call 65 ?_ ?_; (focus (go_simp; done)); apply Exists.intro; refine ⟨fun w1 hw1 => ?_, ?_⟩; (focus (clear hw1; go_simp; (first | done | with_reducible rfl))); apply Exists.intro; refine ⟨fun w1 hw1 => ?_, ?_⟩; (focus (exact calls_below hw1 (by have := drOk_spec q z.dr w1 (HP.out.below hw1); rw [r0] at this; exact this); done)); (try simp only [Act.put, List.setIfInBounds_toArray, List.set_cons_zero, List.set_cons_succ])) | (refine wq_call 66 ?_ ?_; (focus (go_simp; done)); apply Exists.intro; refine ⟨fun w1 hw1 => ?_, ?_⟩; (focus (clear hw1; go_simp; (first | done | with_reducible rfl))); apply Exists.intro; refine ⟨fun w1 hw1 => ?_, ?_⟩; (focus (exact calls_below hw1 (by have := vens_spec eo k e z.vs w1 HN.out (HV.out.below hw1); rw [r1] at this; exact this); done)); (try simp only [Act.put, List.setIfInBounds_toArray, List.set_cons_zero, List.set_cons_succ])))
      refine wq_nil ?_
      intro wc hbc
      have HB := Lib.hid hbc
      clear hbc
      go_wp2
      go_ret
      exact ⟨ret_bool' HR.out.symm, HB.out⟩
    | true =>
      have HR := Lib.hid (show picB z = ((k : Int) == (m : Int)) by unfold picB; rw [r0, r1, ← HC.out]; simp)
      go_enter Tryz.func30, Tryz.ntmps30
      go_wp2
      refine wp_region_below (by kernel_rfl) (by kernel_rfl) ?_
      repeat (first | (refine wq_skip ?_ ?_; (focus (go_simp; (first | done | (simp [undef]; done)))); (try simp only [Act.put, List.setIfInBounds_toArray, List.set_cons_zero, List.set_cons_succ])) | (refine wq_val ?_ ?_; (focus (go_simp; done)); apply Exists.intro; refine ⟨fun w1 hw1 => ?_, ?_⟩; (obtain ⟨hc, hf⟩ := bcell hw1; clear hw1; go_simp; (first | done | with_reducible rfl | (with_reducible exact eql2 _ _ _) | (with_reducible exact neq2 _ _ _))); (try simp only [Act.put, List.setIfInBounds_toArray, List.set_cons_zero, List.set_cons_succ])) | (refine wq_call 65 ?_ ?_; (focus (go_simp; done)); apply Exists.intro; refine ⟨fun w1 hw1 => ?_, ?_⟩; (focus (clear hw1; go_simp; (first | done | with_reducible rfl))); apply Exists.intro; refine ⟨fun w1 hw1 => ?_, ?_⟩; (focus (exact calls_below hw1 (by have := drOk_spec q z.dr w1 (HP.out.below hw1); rw [r0] at this; exact this); done)); (try simp only [Act.put, List.setIfInBounds_toArray, List.set_cons_zero, List.set_cons_succ])) | (refine wq_call 66 ?_ ?_; (focus (go_simp; done)); apply Exists.intro; refine ⟨fun w1 hw1 => ?_, ?_⟩; (focus (clear hw1; go_simp; (first | done | with_reducible rfl))); apply Exists.intro; refine ⟨fun w1 hw1 => ?_, ?_⟩; (focus (exact calls_below hw1 (by have := vens_spec eo k e z.vs w1 HN.out (HV.out.below hw1); rw [r1] at this; exact this); done)); (try simp only [Act.put, List.setIfInBounds_toArray, List.set_cons_zero, List.set_cons_succ])))
      refine wq_nil ?_
      intro wc hbc
      have HB := Lib.hid hbc
      clear hbc
      go_wp2
      go_ret
      exact ⟨ret_bool' HR.out.symm, HB.out⟩
set_option maxRecDepth 100000 in
set_option maxHeartbeats 1000000 in
theorem picv_spec (v : Value) (z : Pc) (w : World) (hd : PcV w v z) : Calls Tryz.prog 9 #[v] w fun e w' => e = .returned (.bool (picB z)) ∧ Below w.heap.size w w' := by
  obtain ⟨c, rfl, hp⟩ := hd.box
  have HP := Lib.hid hp
  clear hd hp
  go_enter Tryz.func9, Tryz.ntmps9
  go_wp2_with fail
  refine (picOk_spec _ z _ HP.out).mono ?_
  rintro e w1 ⟨rfl, g1⟩
  have HG := Lib.hid (bseq (one_alloc _) g1)
  clear g1
  go_wp2
  go_ret
  exact ⟨rfl, HG.out⟩
set_option maxRecDepth 100000 in
set_option maxHeartbeats 4000000 in
theorem picv_impl (v : Value) (z : Pc) (w : World) (hd : PcV w v z) (ht : TabAt w) : Calls Tryz.prog 11 #[v] w fun e w' => e = .returned (.bool (picB z)) ∧ Below w.heap.size w w' := by
  obtain ⟨ao, bo, n, c, m, d, eo, k, e, rfl, hs, h2, h3, h4⟩ := hd.out
  have HA := Lib.hid (one_alloc (w := w) (.cells #[.int .i64 z.dr.wd, .int .i64 z.dr.hg, .slice ao n c, .slice bo m d, .slice eo k e] 37))
  have HX := Lib.hid (World.alloc_heap_new w (.cells #[.int .i64 z.dr.wd, .int .i64 z.dr.hg, .slice ao n c, .slice bo m d, .slice eo k e] 37))
  have HD := Lib.hid (h2.below HA.out)
  have HV := Lib.hid (h4.vl.below HA.out)
  have HT := Lib.hid (ht.below HA.out)
  have HN := Lib.hid h3
  have HC := Lib.hid (show cntB z = ((k : Int) == (m : Int)) by unfold cntB; rw [← h4.1, ← h2.faces]; exact decide_eq_decide.2 (by omega))
  clear hd hs h2 h3 h4 ht
  cases r0 : ((k : Int) == (m : Int)) with
  | false =>
    have HR := Lib.hid (show picB z = false by unfold picB; rw [HC.out, r0]; simp)
    go_enter Tryz.func11, Tryz.ntmps11
    go_wp2
    go_ret
    exact ⟨ret_bool' HR.out.symm, HA.out⟩
  | true =>
    have HR := Lib.hid (show picB z = (drB z.dr && vnsB z.vs) by unfold picB; rw [HC.out, r0]; simp)
    go_enter Tryz.func11, Tryz.ntmps11
    go_wp2_with fail
    refine (valid_dimpl _ z.dr _ HD.out).mono ?_
    rintro e' w1 ⟨rfl, g1⟩
    have HG := Lib.hid (bseq HA.out g1)
    have HX1 := Lib.hid ((g1.block _ (blk_lt HX.out)).trans HX.out)
    have HV1 := Lib.hid (HV.out.below g1)
    have HT1 := Lib.hid (HT.out.below g1)
    clear g1
    have hz := blk_lt HX1.out
    have a4 := (cell_of_arr HX1.out (j := 4) rfl).1
    cases r1 : drB z.dr with
    | false =>
      rw [r1, Bool.false_and] at HR
      go_wp2
      go_ret
      exact ⟨ret_bool' HR.out.symm, HG.out⟩
    | true =>
      rw [r1, Bool.true_and] at HR
      go_wp2_with fail
      refine (all_ven eo k e z.vs _ HN.out HV1.out HT1.out).mono ?_
      rintro e' w2 ⟨rfl, g2⟩
      have HG2 := Lib.hid (bseq HG.out g2)
      clear g2
      go_wp2
      go_ret
      exact ⟨ret_bool' HR.out.symm, HG2.out⟩
end Go.Proofs.YtkmmhkhbpfkmcaaGreatDoor
