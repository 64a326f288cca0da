/- Ears of polygons: in spec; both say the same. -/
import Derived.Test.YtjhmpmaademdcaaEar2
namespace Go.Proofs.Ytjhmpmaademdcaa
open Go.ChangeShapes Go.WideShapes Go.ChangeAt Go.RowKit
set_option linter.unusedVariables false
set_option linter.unusedSimpArgs false

def freeS (n i : Nat) (a b c : P2) (j : Nat) (p : P2) : Bool := decide (j = i) || decide (j = (i + n - 1) % n) || decide (j = (i + 1) % n) || !inTP a b c p
def earSTo (n i : Nat) (a b c : P2) (zs : List P2) : Nat → Bool := allTo (fun j => freeS n i a b c j (zs.getD j (0, 0)))
def earS (zs : List P2) (k : Nat) : Bool := decide (sdP (pt zs (k + zs.length - 1)) (pt zs k) (pt zs (k + 1)) = 1) && earSTo zs.length k (pt zs (k + zs.length - 1)) (pt zs k) (pt zs (k + 1)) zs zs.length
theorem rem_pred (k n : Nat) (h : 1 ≤ n) : ((k : Int) + (n : Int) - 1).tmod (n : Int) = (((k + n - 1) % n : Nat) : Int) := by
  have e : (k : Int) + (n : Int) - 1 = ((k + n - 1 : Nat) : Int) := by omega
  rw [e, Int.tmod_eq_emod_of_nonneg (by omega)]
  simp
set_option maxRecDepth 100000 in
set_option maxHeartbeats 4000000 in
theorem ear_spec (b len cap k : Nat) (zs : List P2) (w : World) (hz : len = zs.length) (h1 : 1 ≤ len) (hl : len ≤ 1000) (hk : k < len) (hv : allOk zs = true) (hp : PtsAt w b zs) :
    Calls Try.prog 90 #[.slice (some ⟨b, 0, none⟩) len cap, .int .i64 k] w fun e w' => e = .returned (.bool (earS zs k)) ∧ Below w.heap.size w w' := by
  have HZ := Lib.hid hz
  have HP := Lib.hid hp
  have HV := Lib.hid hv
  have hbw := hp.1
  have hn0 : 0 < zs.length := by omega
  have HE := Lib.hid (show earS zs k = (decide (sdP (pt zs (k + len - 1)) (pt zs k) (pt zs (k + 1)) = 1) && earSTo len k (pt zs (k + len - 1)) (pt zs k) (pt zs (k + 1)) zs len) by rw [hz]; rfl)
  obtain ⟨ax, ay, ea, oa, pa0, pa1⟩ := hp.ok hv (k := (k + len - 1) % len) (by rw [hz]; exact Nat.mod_lt _ hn0)
  obtain ⟨bx, by_, eb, ob, pb0, pb1⟩ := hp.ok hv (k := k) (by omega)
  obtain ⟨cx, cy, ec, oc, pc0, pc1⟩ := hp.ok hv (k := (k + 1) % len) (by rw [hz]; exact Nat.mod_lt _ hn0)
  rw [show pt zs (k + len - 1) = (ax, ay) by rw [pt, ← hz]; exact ea, show pt zs k = (bx, by_) by rw [pt_lt (by omega)]; exact eb, show pt zs (k + 1) = (cx, cy) by rw [pt, ← hz]; exact ec] at HE
  have hja : (k + len - 1) % len < len := Nat.mod_lt _ (by omega)
  have hjc : (k + 1) % len < len := Nat.mod_lt _ (by omega)
  have gm1 := rem_pred k len h1
  have gm2 : ((k : Int) + 1).tmod (len : Int) = (((k + 1) % len : Nat) : Int) := mod_tm k 1 len (by omega)
  have OA := Lib.hid oa
  have OB := Lib.hid ob
  have OC := Lib.hid oc
  clear hz hp hv ea eb ec oa ob oc
  generalize earS zs k = r at *
  have HFR := Lib.hid (show ∀ j p, freeS len k (ax, ay) (bx, by_) (cx, cy) j p = (decide (j = k) || decide (j = (k + len - 1) % len) || decide (j = (k + 1) % len) || !inT ax ay bx by_ cx cy p.1 p.2) from fun _ _ => rfl)
  generalize (k + len - 1) % len = ja at *
  generalize (k + 1) % len = jc at *
  have HS := Lib.hid (show sdP (ax, ay) (bx, by_) (cx, cy) = sdI ax ay bx by_ cx cy from rfl)
  have HU := Lib.hid fun w => side_spec ax ay bx by_ cx cy w OA.out OB.out OC.out
  go_enter Try.func90, Try.ntmps90
  go_wp2_with fail
  refine (HU.out _).mono ?_
  rintro e w1 ⟨rfl, g1⟩
  have HG1 := Lib.hid (bseq (three_allocs _ _ _) g1)
  have HGA := Lib.hid g1
  have hs1 : w.heap.size + 1 + 1 < w1.heap.size := by have := g1.size; simp at this; omega
  obtain ⟨k1, q1⟩ := bcell g1
  clear g1
  by_cases ht : sdI ax ay bx by_ cx cy = 1
  · have HK := Lib.hid ht
    have HIN := Lib.hid fun w x y (h : okI x y = true) => inT_spec ax ay bx by_ cx cy x y w OA.out OB.out OC.out h
    rw [ht]
    clear ht
    have a0 : w1.cell? ⟨w.heap.size, 0, none⟩ = some (.int .i64 ax) := by rw [k1 _ _ (by simp; omega)]; go_simp
    have a1 : w1.cell? ⟨w.heap.size, 1, none⟩ = some (.int .i64 ay) := by rw [k1 _ _ (by simp; omega)]; go_simp
    have b0 : w1.cell? ⟨w.heap.size + 1, 0, none⟩ = some (.int .i64 bx) := by rw [k1 _ _ (by simp)]; go_simp
    have b1 : w1.cell? ⟨w.heap.size + 1, 1, none⟩ = some (.int .i64 by_) := by rw [k1 _ _ (by simp)]; go_simp
    have c0 : w1.cell? ⟨w.heap.size + 1 + 1, 0, none⟩ = some (.int .i64 cx) := by rw [k1 _ _ (by simp)]; go_simp
    have c1 : w1.cell? ⟨w.heap.size + 1 + 1, 1, none⟩ = some (.int .i64 cy) := by rw [k1 _ _ (by simp)]; go_simp
    have HCL := Lib.hid (And.intro a0 (And.intro a1 (And.intro b0 (And.intro b1 (And.intro c0 c1)))))
    clear a0 a1 b0 b1 c0 c1 k1 q1
    go_wp2
    go_loopw [9] (fun iv wr => ∃ j : Nat, j ≤ len ∧ iv = .int .i64 j ∧ Hid (earSTo len k (ax, ay) (bx, by_) (cx, cy) zs j = true) ∧ Hid (Below w1.heap.size w1 wr)) (fun i _ => len - (intOf i).toNat)
    case atStart => exact ⟨0, by omega, rfl, Lib.hid rfl, Lib.hid (Below.refl _ _)⟩
    case round =>
      obtain ⟨j, hj, rfl, he, hb⟩ := hrel
      have HW0 := Lib.hid (bseq HG1.out hb.out)
      by_cases hlt : j < len
      · have hkz : j < zs.length := by have := HZ.out; omega
        have hP := HP.out.below HW0.out hbw
        have hbwr := hP.1
        obtain ⟨x, y, e1, o1, p0, p1⟩ := hP.ok HV.out hkz
        obtain ⟨d1, d2⟩ := bcell hb.out
        have a0 := (d1 _ _ (by omega)).trans HCL.out.1
        have a1 := (d1 _ _ (by omega)).trans HCL.out.2.1
        have b0 := (d1 _ _ (by omega)).trans HCL.out.2.2.1
        have b1 := (d1 _ _ (by omega)).trans HCL.out.2.2.2.1
        have c0 := (d1 _ _ hs1).trans HCL.out.2.2.2.2.1
        have c1 := (d1 _ _ hs1).trans HCL.out.2.2.2.2.2
        have hs4 : w.heap.size + 1 + 1 < wr.heap.size := by have := hb.out.size; omega
        have hs5 : w.heap.size < wr.heap.size := by omega
        have hs6 : w.heap.size + 1 < wr.heap.size := by omega
        have HE1 := Lib.hid e1
        have HX := Lib.hid fun w => HIN.out w x y o1
        have HF := Lib.hid (HFR.out j (x, y))
        clear hP e1 o1 d1 d2
        generalize inT ax ay bx by_ cx cy x y = cb at *
        have hl0 : ¬ (len = 0) := by omega
        have y1 : IntKind.i64.wrap ((k : Int) + (len : Int)) = (k : Int) + (len : Int) := IntWalk.i64_in _ (by omega)
        have y2 : IntKind.i64.wrap ((k : Int) + (len : Int) - 1) = (k : Int) + (len : Int) - 1 := IntWalk.i64_in _ (by omega)
        have y3 : IntKind.i64.wrap ((k : Int) + 1) = (k : Int) + 1 := IntWalk.i64_in _ (by omega)
        by_cases c1' : j = k
        · have HN := Lib.hid (show earSTo len k (ax, ay) (bx, by_) (cx, cy) zs (j + 1) = true from allTo_succ he.out (by rw [HE1.out, HF.out]; rw [decide_eq_true c1']; rfl))
          go_wp2
          refine wp_region_below (by kernel_rfl) (by kernel_rfl) ?_
          repeat (first | (refine wq_skip ?_ ?_; (focus (go_simp; done)); (try simp only [Act.put, List.setIfInBounds_toArray, List.set_cons_zero, List.set_cons_succ])) | (refine wq_val ?_ ?_; (focus (go_simp; done)); apply Exists.intro; refine ⟨fun w1 hw1 => ?_, ?_⟩; (obtain ⟨hc, hf⟩ := bcell hw1; clear hw1; go_simp; (first | done | with_reducible rfl | (with_reducible exact eql2 _ _ _) | (with_reducible exact neq2 _ _ _))); (try simp only [Act.put, List.setIfInBounds_toArray, List.set_cons_zero, List.set_cons_succ])))
          refine wq_nil ?_
          intro w4 hb4
          have HW4 := Lib.hid (bseq hb.out hb4)
          clear hb4
          go_wp2
          go_roundw
          case rel => exact ⟨j + 1, by omega, by go_num, HN, HW4⟩
          case measure => simp [intOf]; omega
        · have c1i : (((j : Int)) != ((k : Int))) = true := by simp; omega
          by_cases c2' : j = ja
          · have HN := Lib.hid (show earSTo len k (ax, ay) (bx, by_) (cx, cy) zs (j + 1) = true from allTo_succ he.out (by rw [HE1.out, HF.out]; rw [decide_eq_true c2']; simp))
            subst c2'
            go_wp2
            refine wp_region_below (by kernel_rfl) (by kernel_rfl) ?_
            repeat (first | (refine wq_skip ?_ ?_; (focus (go_simp; done)); (try simp only [Act.put, List.setIfInBounds_toArray, List.set_cons_zero, List.set_cons_succ])) | (refine wq_val ?_ ?_; (focus (go_simp; done)); apply Exists.intro; refine ⟨fun w1 hw1 => ?_, ?_⟩; (obtain ⟨hc, hf⟩ := bcell hw1; clear hw1; go_simp; (first | done | with_reducible rfl | (with_reducible exact eql2 _ _ _) | (with_reducible exact neq2 _ _ _))); (try simp only [Act.put, List.setIfInBounds_toArray, List.set_cons_zero, List.set_cons_succ])))
            refine wq_nil ?_
            intro w4 hb4
            have HW4 := Lib.hid (bseq hb.out hb4)
            clear hb4
            go_wp2
            go_roundw
            case rel => exact ⟨j + 1, by omega, by go_num, HN, HW4⟩
            case measure => simp [intOf]; omega
          · have c2i : (((j : Int)) != ((ja : Int))) = true := by simp; omega
            by_cases c3' : j = jc
            · have HN := Lib.hid (show earSTo len k (ax, ay) (bx, by_) (cx, cy) zs (j + 1) = true from allTo_succ he.out (by rw [HE1.out, HF.out]; rw [decide_eq_true c3']; simp))
              subst c3'
              go_wp2
              refine wp_region_below (by kernel_rfl) (by kernel_rfl) ?_
              repeat (first | (refine wq_skip ?_ ?_; (focus (go_simp; done)); (try simp only [Act.put, List.setIfInBounds_toArray, List.set_cons_zero, List.set_cons_succ])) | (refine wq_val ?_ ?_; (focus (go_simp; done)); apply Exists.intro; refine ⟨fun w1 hw1 => ?_, ?_⟩; (obtain ⟨hc, hf⟩ := bcell hw1; clear hw1; go_simp; (first | done | with_reducible rfl | (with_reducible exact eql2 _ _ _) | (with_reducible exact neq2 _ _ _))); (try simp only [Act.put, List.setIfInBounds_toArray, List.set_cons_zero, List.set_cons_succ])))
              refine wq_nil ?_
              intro w4 hb4
              have HW4 := Lib.hid (bseq hb.out hb4)
              clear hb4
              go_wp2
              go_roundw
              case rel => exact ⟨j + 1, by omega, by go_num, HN, HW4⟩
              case measure => simp [intOf]; omega
            · have c3i : (((j : Int)) != ((jc : Int))) = true := by simp; omega
              cases cb with
              | false =>
                have HN := Lib.hid (show earSTo len k (ax, ay) (bx, by_) (cx, cy) zs (j + 1) = true from allTo_succ he.out (by rw [HE1.out, HF.out]; simp))
                go_wp2
                refine wp_region_below (by kernel_rfl) (by kernel_rfl) ?_
                repeat (first | (refine wq_skip ?_ ?_; (focus (go_simp; done)); (try simp only [Act.put, List.setIfInBounds_toArray, List.set_cons_zero, List.set_cons_succ])) | (refine wq_val ?_ ?_; (focus (go_simp; done)); apply Exists.intro; refine ⟨fun w1 hw1 => ?_, ?_⟩; (obtain ⟨hc, hf⟩ := bcell hw1; clear hw1; go_simp; (first | done | with_reducible rfl | (with_reducible exact eql2 _ _ _) | (with_reducible exact neq2 _ _ _))); (try simp only [Act.put, List.setIfInBounds_toArray, List.set_cons_zero, List.set_cons_succ])) | (refine wq_call 82 ?_ ?_; (focus (go_simp; done)); apply Exists.intro; refine ⟨fun w1 hw1 => ?_, ?_⟩; (focus (clear hw1; go_simp; (first | done | with_reducible rfl))); apply Exists.intro; refine ⟨fun w1 hw1 => ?_, ?_⟩; (focus (exact calls_below hw1 (HX.out _); done)); (try simp only [Act.put, List.setIfInBounds_toArray, List.set_cons_zero, List.set_cons_succ])))
                refine wq_nil ?_
                intro w4 hb4
                have HW4 := Lib.hid (bseq hb.out hb4)
                clear hb4
                go_wp2
                go_roundw
                case rel => exact ⟨j + 1, by omega, by go_num, HN, HW4⟩
                case measure => simp [intOf]; omega
              | true =>
                have HN := Lib.hid (show r = false by
                  rw [HE.out, show earSTo len k (ax, ay) (bx, by_) (cx, cy) zs len = false from allTo_bad hlt (by rw [HE1.out, HF.out, decide_eq_false c1', decide_eq_false c2', decide_eq_false c3']; rfl), Bool.and_false])
                go_wp2
                refine wp_region_below (by kernel_rfl) (by kernel_rfl) ?_
                repeat (first | (refine wq_skip ?_ ?_; (focus (go_simp; done)); (try simp only [Act.put, List.setIfInBounds_toArray, List.set_cons_zero, List.set_cons_succ])) | (refine wq_val ?_ ?_; (focus (go_simp; done)); apply Exists.intro; refine ⟨fun w1 hw1 => ?_, ?_⟩; (obtain ⟨hc, hf⟩ := bcell hw1; clear hw1; go_simp; (first | done | with_reducible rfl | (with_reducible exact eql2 _ _ _) | (with_reducible exact neq2 _ _ _))); (try simp only [Act.put, List.setIfInBounds_toArray, List.set_cons_zero, List.set_cons_succ])) | (refine wq_call 82 ?_ ?_; (focus (go_simp; done)); apply Exists.intro; refine ⟨fun w1 hw1 => ?_, ?_⟩; (focus (clear hw1; go_simp; (first | done | with_reducible rfl))); apply Exists.intro; refine ⟨fun w1 hw1 => ?_, ?_⟩; (focus (exact calls_below hw1 (HX.out _); done)); (try simp only [Act.put, List.setIfInBounds_toArray, List.set_cons_zero, List.set_cons_succ])))
                refine wq_nil ?_
                intro w4 hb4
                have HW4 := Lib.hid (bseq HW0.out hb4)
                clear hb4
                go_wp2
                go_ret
                exact ⟨ret_bool' HN.out.symm, HW4.out⟩
      · go_wp2
        go_ret
        obtain rfl : j = len := by omega
        exact ⟨ret_bool' (by rw [HE.out, HS.out, HK.out]; simpa using he.out.symm), HW0.out⟩
  · have HF := Lib.hid (show r = false by rw [HE.out, HS.out, decide_eq_false ht]; rfl)
    go_wp2
    go_ret
    exact ⟨ret_bool' HF.out.symm, HG1.out⟩
end Go.Proofs.Ytjhmpmaademdcaa
