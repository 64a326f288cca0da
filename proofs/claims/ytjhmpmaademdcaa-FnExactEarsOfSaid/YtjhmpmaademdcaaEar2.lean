/- Ears of polygons: in impl. -/
import Derived.Test.YtjhmpmaademdcaaEar1
namespace Go.Proofs.Ytjhmpmaademdcaa
open Go.ChangeShapes Go.WideShapes Go.ChangeAt Go.RowKit
set_option linter.unusedVariables false
set_option linter.unusedSimpArgs false

def sdP (a b c : P2) : Int := sdI a.1 a.2 b.1 b.2 c.1 c.2
def conP (a b c q : P2) : Bool := conI (sdP a b c) (sdP a b q) (sdP b c q) (sdP c a q)
def inTP (a b c q : P2) : Bool := inT a.1 a.2 b.1 b.2 c.1 c.2 q.1 q.2
/-- One point does not hinder an ear. -/
def freeI (a b c p : P2) : Bool := !(conP a b c p && !hasP [a, b, c] p)
def earTo (a b c : P2) (zs : List P2) : Nat → Bool := allTo (fun j => freeI a b c (zs.getD j (0, 0)))
def earI (zs : List P2) (k : Nat) : Bool := decide (sdP (pt zs (k + zs.length - 1)) (pt zs k) (pt zs (k + 1)) = 1) && earTo (pt zs (k + zs.length - 1)) (pt zs k) (pt zs (k + 1)) zs zs.length
theorem pts3_at {w : World} {b : Nat} {ax ay bx by_ cx cy : Int} {t : TypeId} (h : w.heap[b]? = some (.cells #[.int .i64 ax, .int .i64 ay, .int .i64 bx, .int .i64 by_, .int .i64 cx, .int .i64 cy] t (0, 0))) : PtsAt w b [(ax, ay), (bx, by_), (cx, cy)] := by
  obtain ⟨c0, f0, c1, f1, c2, f2, c3, f3, c4, f4, c5, f5⟩ := cells6_of h
  refine ⟨(Array.getElem?_eq_some_iff.1 h).1, fun j hj => ?_⟩
  match j, hj with
  | 0, _ => exact ⟨c0, c1⟩
  | 1, _ => exact ⟨c2, c3⟩
  | 2, _ => exact ⟨c4, c5⟩
  | j + 3, hj => simp at hj; omega
set_option maxRecDepth 100000 in
set_option maxHeartbeats 4000000 in
theorem isEar_impl (b len cap k : Nat) (zs : List P2) (w : World) (hz : len = zs.length) (h1 : 1 ≤ len) (hl : len ≤ 1000) (hk : k < len) (hv : allOk zs = true) (hp : PtsAt w b zs) :
    Calls Try.prog 91 #[.slice (some ⟨b, 0, none⟩) len cap, .int .i64 k] w fun e w' => e = .returned (.bool (earI zs k)) ∧ Below w.heap.size w w' := by
  have HZ := Lib.hid hz
  have HP := Lib.hid hp
  have HV := Lib.hid hv
  have hbw := hp.1
  have oa := pt_ok hv (by omega) (k + len - 1)
  have ob := pt_ok hv (by omega) k
  have oc := pt_ok hv (by omega) (k + 1)
  have HT := Lib.hid fun w (hp : PtsAt w b zs) => tip_impl b len cap k zs w hz h1 hl hk hp
  have HE := Lib.hid (show earI zs k = (decide (sdP (pt zs (k + len - 1)) (pt zs k) (pt zs (k + 1)) = 1) && earTo (pt zs (k + len - 1)) (pt zs k) (pt zs (k + 1)) zs len) by rw [hz]; rfl)
  clear hz hp hv
  unfold triP triV at HT
  generalize earI zs k = r at *
  generalize hpa : pt zs (k + len - 1) = pa at *
  generalize hpb : pt zs k = pb at *
  generalize hpc : pt zs (k + 1) = pc at *
  obtain ⟨ax, ay⟩ := pa
  obtain ⟨bx, by_⟩ := pb
  obtain ⟨cx, cy⟩ := pc
  have OA := Lib.hid oa
  have OB := Lib.hid ob
  have OC := Lib.hid oc
  clear oa ob oc hpa hpb hpc
  simp only at HT OA OB OC
  have HS := Lib.hid (show sdP (ax, ay) (bx, by_) (cx, cy) = sdI ax ay bx by_ cx cy from rfl)
  have HU := Lib.hid fun w => turn_tri ax ay bx by_ cx cy w OA.out OB.out OC.out
  unfold triV at HU
  go_enter Try.func91, Try.ntmps91
  go_wp2_with fail
  refine (HT.out _ HP.out).mono ?_
  rintro e w1 ⟨rfl, g1⟩
  have HG1 := Lib.hid g1
  clear g1
  have HG2 := Lib.hid (bseq HG1.out (one_alloc (.cells #[.int .i64 ax, .int .i64 ay, .int .i64 bx, .int .i64 by_, .int .i64 cx, .int .i64 cy] 86)))
  have HA2 : Hid ((w1.alloc (.cells #[.int .i64 ax, .int .i64 ay, .int .i64 bx, .int .i64 by_, .int .i64 cx, .int .i64 cy] 86)).heap[w1.heap.size]? = _) := Lib.hid (World.alloc_heap_new w1 _)
  go_wp2_with fail
  refine (HU.out _).mono ?_
  rintro e w3 ⟨rfl, g3⟩
  have HG3 := Lib.hid (bseq HG2.out g3)
  have HA3 := Lib.hid ((g3.block w1.heap.size (by simp)).trans HA2.out)
  have hs3 : w1.heap.size < w3.heap.size := by have := g3.size; simp at this; omega
  clear g3 HG2 HA2
  by_cases ht : sdI ax ay bx by_ cx cy = 1
  · have HK := Lib.hid ht
    have HSD := Lib.hid (show ∀ w q1 q2, okI q1 q2 = true → Calls _ _ _ _ _ from fun w q1 q2 hq => con_impl ax ay bx by_ cx cy q1 q2 w OA.out OB.out OC.out hq)
    rw [ht]
    clear ht
    unfold triV at HSD
    go_wp2
    go_loopw [16] (fun iv wr => ∃ j : Nat, j ≤ len ∧ iv = .int .i64 j ∧ Hid (earTo (ax, ay) (bx, by_) (cx, cy) zs j = true) ∧ Hid (Below w3.heap.size w3 wr)) (fun i _ => len - (intOf i).toNat)
    case atStart => exact ⟨0, by omega, rfl, Lib.hid rfl, Lib.hid (Below.refl _ _)⟩
    case round =>
      obtain ⟨j, hj, rfl, he, hb⟩ := hrel
      have HW0 := Lib.hid (bseq HG3.out hb.out)
      by_cases hlt : j < len
      · have hkz : j < zs.length := by have := HZ.out; omega
        have hP := HP.out.below HW0.out hbw
        have hbwr := hP.1
        obtain ⟨x, y, e1, o1, p0, p1⟩ := hP.ok HV.out hkz
        have HA4 := Lib.hid ((hb.out.block _ hs3).trans HA3.out)
        have HX := Lib.hid fun w => HSD.out w x y o1
        have HE1 := Lib.hid e1
        have HFR := Lib.hid (show freeI (ax, ay) (bx, by_) (cx, cy) (x, y) = !(conI (sdI ax ay bx by_ cx cy) (sdI ax ay bx by_ x y) (sdI bx by_ cx cy x y) (sdI cx cy ax ay x y) && !hasP [(ax, ay), (bx, by_), (cx, cy)] (x, y)) from rfl)
        have HA5 : Hid ((wr.alloc (.cells #[.int .i64 x, .int .i64 y] 30)).heap[w1.heap.size]? = _) := Lib.hid ((Below.heap_alloc _ _ _ (by have := hb.out.size; omega)).trans HA4.out)
        have hs4 : w1.heap.size < wr.heap.size := by have := hb.out.size; omega
        obtain ⟨t0, _, t1, _, t2, _, t3, _, t4, _, t5, _⟩ := cells6_of HA4.out
        have HQ := Lib.hid fun (w : World) (h : PtsAt w w1.heap.size [(ax, ay), (bx, by_), (cx, cy)]) => contains_pts w1.heap.size 3 3 [(ax, ay), (bx, by_), (cx, cy)] x y w rfl (by omega) h
        clear hP e1 o1
        generalize conI (sdI ax ay bx by_ cx cy) (sdI ax ay bx by_ x y) (sdI bx by_ cx cy x y) (sdI cx cy ax ay x y) = cb at *
        generalize hasP [(ax, ay), (bx, by_), (cx, cy)] (x, y) = hb_ at *
        cases cb with
        | false =>
          have HN := Lib.hid (show earTo (ax, ay) (bx, by_) (cx, cy) zs (j + 1) = true from allTo_succ he.out (by rw [HE1.out, HFR.out]; rfl))
          go_wp2
          refine wp_region_below (by kernel_rfl) (by kernel_rfl) ?_
          repeat (first | (refine wq_skip ?_ ?_; (focus (go_simp; done)); (try simp only [Act.put, List.setIfInBounds_toArray, List.set_cons_zero, List.set_cons_succ])) | (refine wq_val ?_ ?_; (focus (go_simp; done)); apply Exists.intro; refine ⟨fun w1 hw1 => ?_, ?_⟩; (obtain ⟨hc, hf⟩ := bcell hw1; clear hw1; go_simp; (first | done | with_reducible rfl | (with_reducible exact eql2 _ _ _) | (with_reducible exact neq2 _ _ _))); (try simp only [Act.put, List.setIfInBounds_toArray, List.set_cons_zero, List.set_cons_succ])) | (refine wq_call 84 ?_ ?_; (focus (go_simp; done)); apply Exists.intro; refine ⟨fun w1 hw1 => ?_, ?_⟩; (focus (clear hw1; go_simp; (first | done | with_reducible rfl))); apply Exists.intro; refine ⟨fun w1 hw1 => ?_, ?_⟩; (focus (exact calls_below hw1 (HX.out _); done)); (try simp only [Act.put, List.setIfInBounds_toArray, List.set_cons_zero, List.set_cons_succ])))
          refine wq_nil ?_
          intro w4 hb4
          have HW4 := Lib.hid (bseq (hb.out.alloc hb.out.size _) hb4)
          clear hb4
          go_wp2
          go_roundw
          case rel => exact ⟨j + 1, by omega, by go_num, HN, HW4⟩
          case measure => simp [intOf]; omega
        | true =>
          cases hb_ with
          | true =>
            have HN := Lib.hid (show earTo (ax, ay) (bx, by_) (cx, cy) zs (j + 1) = true from allTo_succ he.out (by rw [HE1.out, HFR.out]; rfl))
            go_wp2
            refine wp_region_below (by kernel_rfl) (by kernel_rfl) ?_
            repeat (first | (refine wq_skip ?_ ?_; (focus (go_simp; done)); (try simp only [Act.put, List.setIfInBounds_toArray, List.set_cons_zero, List.set_cons_succ])) | (refine wq_val ?_ ?_; (focus (go_simp; done)); apply Exists.intro; refine ⟨fun w1 hw1 => ?_, ?_⟩; (obtain ⟨hc, hf⟩ := bcell hw1; clear hw1; go_simp; (first | done | with_reducible rfl | (with_reducible exact eql2 _ _ _) | (with_reducible exact neq2 _ _ _))); (try simp only [Act.put, List.setIfInBounds_toArray, List.set_cons_zero, List.set_cons_succ])) | (refine wq_call 84 ?_ ?_; (focus (go_simp; done)); apply Exists.intro; refine ⟨fun w1 hw1 => ?_, ?_⟩; (focus (clear hw1; go_simp; (first | done | with_reducible rfl))); apply Exists.intro; refine ⟨fun w1 hw1 => ?_, ?_⟩; (focus (exact calls_below hw1 (HX.out _); done)); (try simp only [Act.put, List.setIfInBounds_toArray, List.set_cons_zero, List.set_cons_succ])) | (refine wq_call 142 ?_ ?_; (focus (go_simp; done)); apply Exists.intro; refine ⟨fun w1 hw1 => ?_, ?_⟩; (focus (clear hw1; go_simp; (first | done | with_reducible rfl))); apply Exists.intro; refine ⟨fun w1 hw1 => ?_, ?_⟩; (focus (exact calls_below hw1 (HQ.out _ ((pts3_at HA5.out).below hw1 (by simp; omega))); done)); (try simp only [Act.put, List.setIfInBounds_toArray, List.set_cons_zero, List.set_cons_succ])))
            refine wq_nil ?_
            intro w4 hb4
            have HW4 := Lib.hid (bseq (hb.out.alloc hb.out.size _) hb4)
            clear hb4
            go_wp2
            go_roundw
            case rel => exact ⟨j + 1, by omega, by go_num, HN, HW4⟩
            case measure => simp [intOf]; omega
          | false =>
            have HN := Lib.hid (show r = false by
              rw [HE.out, show earTo (ax, ay) (bx, by_) (cx, cy) zs len = false from allTo_bad hlt (by rw [HE1.out, HFR.out]; rfl), Bool.and_false])
            go_wp2
            refine wp_region_below (by kernel_rfl) (by kernel_rfl) ?_
            repeat (first | (refine wq_skip ?_ ?_; (focus (go_simp; done)); (try simp only [Act.put, List.setIfInBounds_toArray, List.set_cons_zero, List.set_cons_succ])) | (refine wq_val ?_ ?_; (focus (go_simp; done)); apply Exists.intro; refine ⟨fun w1 hw1 => ?_, ?_⟩; (obtain ⟨hc, hf⟩ := bcell hw1; clear hw1; go_simp; (first | done | with_reducible rfl | (with_reducible exact eql2 _ _ _) | (with_reducible exact neq2 _ _ _))); (try simp only [Act.put, List.setIfInBounds_toArray, List.set_cons_zero, List.set_cons_succ])) | (refine wq_call 84 ?_ ?_; (focus (go_simp; done)); apply Exists.intro; refine ⟨fun w1 hw1 => ?_, ?_⟩; (focus (clear hw1; go_simp; (first | done | with_reducible rfl))); apply Exists.intro; refine ⟨fun w1 hw1 => ?_, ?_⟩; (focus (exact calls_below hw1 (HX.out _); done)); (try simp only [Act.put, List.setIfInBounds_toArray, List.set_cons_zero, List.set_cons_succ])) | (refine wq_call 142 ?_ ?_; (focus (go_simp; done)); apply Exists.intro; refine ⟨fun w1 hw1 => ?_, ?_⟩; (focus (clear hw1; go_simp; (first | done | with_reducible rfl))); apply Exists.intro; refine ⟨fun w1 hw1 => ?_, ?_⟩; (focus (exact calls_below hw1 (HQ.out _ ((pts3_at HA5.out).below hw1 (by simp; omega))); done)); (try simp only [Act.put, List.setIfInBounds_toArray, List.set_cons_zero, List.set_cons_succ])))
            refine wq_nil ?_
            intro w4 hb4
            have HW4 := Lib.hid (bseq HG3.out (bseq (hb.out.alloc hb.out.size _) hb4))
            clear hb4
            go_wp2
            go_ret
            exact ⟨ret_bool' HN.out.symm, HW4.out⟩
      · go_wp2
        go_ret
        exact ⟨ret_bool' (by rw [HE.out, HS.out, HK.out, show len = j by omega]; simpa using he.out.symm), HW0.out⟩
  · have HF := Lib.hid (show r = false by rw [HE.out, HS.out, decide_eq_false ht]; rfl)
    go_wp2
    go_ret
    exact ⟨ret_bool' HF.out.symm, HG3.out⟩
end Go.Proofs.Ytjhmpmaademdcaa
