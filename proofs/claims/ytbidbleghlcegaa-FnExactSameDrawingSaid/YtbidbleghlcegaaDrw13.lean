/- The polygon of a face, and a face by its name: spec and impl. -/
import Derived.Test.YtbidbleghlcegaaDrw9
import Derived.Test.YtbidbleghlcegaaDrw12
namespace Go.Proofs.Ytbidbleghlcegaa
open Seq2 Go.ChangeShapes Go.WideShapes Go.ChangeAt Go.RowKit
set_option linter.unusedVariables false
set_option linter.unusedSimpArgs false

theorem dr_panel {D : Drw} (h : drB D = true) : panelB D = true ∧ ptsB D.wd D.hg D.ps = true ∧ facesB D.ps D.fs = true := by
  unfold drB at h
  simp only [Bool.and_eq_true] at h
  exact ⟨h.1.1, h.1.2, h.2⟩
theorem dr_face {D : Drw} (h : drB D = true) {j : Nat} (hj : j < D.fs.length) : nameB (D.fs.getD j fc0).1 = true ∧ ringIn D.ps (D.fs.getD j fc0).2 = true ∧ polyB (ringZ D.ps (D.fs.getD j fc0).2) = true := by
  have h1 := (dr_panel h).2.2
  unfold facesB at h1
  simp only [Bool.and_eq_true] at h1
  have h2 := (allTo_iff _ _).1 h1.2 j hj
  unfold faceB ringB at h2
  simp only [Bool.and_eq_true] at h2
  exact ⟨h2.1.1, h2.2.1, h2.2.2⟩
theorem dr_few {D : Drw} (h : drB D = true) : D.fs.length ≤ 24 ∧ D.ps.length ≤ 48 := by
  have h1 := (dr_panel h).2.2
  have h2 := (dr_panel h).2.1
  unfold facesB at h1
  unfold ptsB at h2
  simp only [Bool.and_eq_true, decide_eq_true_eq] at h1 h2
  exact ⟨h1.1, h2.2⟩
/-- The polygon of a face. -/
def polyAt (D : Drw) (j : Nat) : List P2 := ringZ D.ps (D.fs.getD j fc0).2
theorem DP.faces {w : World} {q : Nat} {D : Drw} (h : DP w q D) {j : Nat} (hj : j < D.fs.length) : ∃ (bo : Option Addr) (d fb : Nat) (s : ByteArray) (a : Option Addr) (n c : Nat), w.cell? ⟨q, 3, none⟩ = some (.slice (some ⟨fb, 0, none⟩) D.fs.length d) ∧ q < w.heap.size ∧ fb < w.heap.size ∧ w.cell? ⟨fb, j * 2 + 1, none⟩ = some (.slice a n c) ∧ n ≤ 1048576 ∧ IV w a n (D.fs.getD j fc0).2 := by
  obtain ⟨ao, np, cp, bo, m, d, hq, _, _, hs, _, hf⟩ := h.out
  obtain ⟨_, _, _, _, _, _, c3, _⟩ := cells4_of hq
  have hm := hf.1
  obtain ⟨fb, s, r, a, n, c, rfl, hfb, e, _, _, x1, en, hi⟩ := hf.at (k := j) (by omega)
  have hln := fcs_le (show fsSz D.fs ≤ 1048576 by unfold dSz at hs; omega) hj
  rw [hm] at c3
  refine ⟨none, d, fb, s, a, n, c, c3, blk_lt hq, hfb, x1, by omega, ?_⟩
  rw [e]; exact hi
theorem face_spec (q : Nat) (D : Drw) (x : Int) (w : World) (hd : DP w q D) : Calls Try.prog 75 #[.pointer (some ⟨q, 0, none⟩), .int .i64 x] w fun e w' => e = .returned (.bool (inI x 0 ((D.fs.length : Int) - 1))) ∧ w = w' := by
  obtain ⟨ao, np, cp, bo, m, d, hq, _, _, hs, _, hf⟩ := hd.out
  obtain ⟨_, _, _, _, _, _, c3, _⟩ := cells4_of hq
  have hqw := blk_lt hq
  have hm1 : m ≤ 1048576 := by have := hf.1; unfold dSz fsSz at hs; omega
  have HM := Lib.hid hf.1
  have q1 : IntKind.i64.wrap ((m : Int) - 1) = (m : Int) - 1 := IntWalk.i64_in _ (by omega)
  rw [← HM.out]
  clear hd hq hf hs
  go_enter Try.func75, Try.ntmps75
  go_wp2_with fail
  refine (in_any _ _ _ _).mono ?_
  rintro e w1 ⟨rfl, rfl⟩
  go_wp2
  go_ret
  exact ⟨rfl, rfl⟩
/-- A new slice of points. -/
theorem poly_spec (q : Nat) (D : Drw) (j : Nat) (w : World) (hd : DP w q D) (hj : j < D.fs.length) (hr : ringIn D.ps (D.fs.getD j fc0).2 = true) :
    Calls Try.prog 76 #[.pointer (some ⟨q, 0, none⟩), .int .i64 j] w (NewPost (polyAt D j) w) := by
  obtain ⟨_, d, fb, s, a, n, c, c3, hqw, hfb, x1, hn, hi⟩ := hd.faces hj
  have HD := Lib.hid hd
  have HI := Lib.hid hi
  have HR := Lib.hid hr
  clear hd hi hr
  go_enter Try.func76, Try.ntmps76
  go_wp2_with fail
  refine (ring_spec q D a n c _ _ hn HD.out HI.out).mono ?_
  rintro e w1 ⟨v, rfl, hb, hv⟩
  have HB := Lib.hid hb
  have HV := Lib.hid (hv HR.out)
  clear hb hv
  go_wp2
  go_ret
  refine ⟨_, rfl, ?_, HB.out⟩
  have := HV.out
  rw [← ringZ_len D.ps] at this
  exact this
def facePR (D : Drw) (x : Int) : List P2 × Int := if drB D then (if inI x 0 ((D.fs.length : Int) - 1) then (polyAt D x.toNat, 0) else ([], 2)) else ([], 1)
theorem facePR_no {D : Drw} (x : Int) (h : drB D = false) : facePR D x = ([], 1) := by unfold facePR; rw [h]; rfl
theorem facePR_rng {D : Drw} {x : Int} (h : drB D = true) (hx : inI x 0 ((D.fs.length : Int) - 1) = false) : facePR D x = ([], 2) := by unfold facePR; rw [h, hx]; rfl
theorem facePR_ok {D : Drw} {j : Nat} (h : drB D = true) (hx : inI (j : Int) 0 ((D.fs.length : Int) - 1) = true) : facePR D (j : Int) = (polyAt D j, 0) := by unfold facePR; rw [h, hx]; rfl
theorem facePR_len (D : Drw) (x : Int) : (facePR D x).1.length ≤ 1000 := by
  unfold facePR
  cases h : drB D with
  | false => simp
  | true =>
    cases hx : inI x 0 ((D.fs.length : Int) - 1) with
    | false => simp
    | true =>
      unfold inI at hx
      simp only [Bool.and_eq_true, decide_eq_true_eq] at hx
      have := (poly_ok (dr_face h (j := x.toNat) (by omega)).2.2).2.1
      simp only [if_true]
      unfold polyAt
      omega
set_option maxRecDepth 100000 in
set_option maxHeartbeats 2000000 in
theorem facep_spec (v : Value) (D : Drw) (x : Int) (w : World) (hd : DV w v D) : Calls Try.prog 24 #[v, .int .i64 x] w (NewC (facePR D x).1 (facePR D x).2 w) := by
  obtain ⟨c, rfl, hp⟩ := hd.box
  have HP := Lib.hid hp
  clear hd hp
  cases h : drB D with
  | false =>
    rw [facePR_no x h]
    go_enter Try.func24, Try.ntmps24
    go_wp2_with fail
    refine (drOk_spec _ D _ HP.out).mono ?_
    rintro e w1 ⟨rfl, g1⟩
    have HG := Lib.hid (bseq (one_alloc _) g1)
    clear g1
    rw [h]
    go_wp2
    go_ret2
    exact newC_nil HG.out
  | true =>
    cases hx : inI x 0 ((D.fs.length : Int) - 1) with
    | false =>
      rw [facePR_rng h hx]
      go_enter Try.func24, Try.ntmps24
      go_wp2_with fail
      refine (drOk_spec _ D _ HP.out).mono ?_
      rintro e w1 ⟨rfl, g1⟩
      have HG := Lib.hid (bseq (one_alloc _) g1)
      have HP1 := Lib.hid (HP.out.below g1)
      clear g1
      rw [h]
      go_wp2_with fail
      refine (face_spec _ D x _ HP1.out).mono ?_
      rintro e w2 ⟨rfl, rfl⟩
      rw [hx]
      go_wp2
      go_ret2
      exact newC_nil HG.out
    | true =>
      have hxb : 0 ≤ x ∧ x ≤ (D.fs.length : Int) - 1 := by unfold inI at hx; simpa using hx
      obtain ⟨j, rfl⟩ := Int.eq_ofNat_of_zero_le hxb.1
      have HR := Lib.hid (facePR_ok h hx)
      have hj : j < D.fs.length := by omega
      have HF := Lib.hid (dr_face h hj)
      rw [HR.out]
      go_enter Try.func24, Try.ntmps24
      go_wp2_with fail
      refine (drOk_spec _ D _ HP.out).mono ?_
      rintro e w1 ⟨rfl, g1⟩
      have HG := Lib.hid (bseq (one_alloc _) g1)
      have HP1 := Lib.hid (HP.out.below g1)
      clear g1
      rw [h]
      go_wp2_with fail
      refine (face_spec _ D j _ HP1.out).mono ?_
      rintro e w2 ⟨rfl, rfl⟩
      rw [hx]
      go_wp2_with fail
      refine (poly_spec _ D j _ HP1.out hj HF.out.2.1).mono ?_
      rintro e w3 ⟨u, rfl, hn, hb3⟩
      have HN := Lib.hid (own_lower hn HG.out.size)
      have HB := Lib.hid (bseq HG.out hb3)
      clear hn hb3
      go_wp2
      go_ret2
      exact ⟨_, rfl, HN.out, HB.out⟩
theorem isIndexF_any (z : Int) (ao : Option Addr) (n c : Nat) (w : World) : Calls Try.prog 77 #[.int .i64 z, .slice ao n c] w fun e w' => e = .returned (.bool (inI z 0 ((n : Int) - 1))) ∧ w = w' := by
  by_cases h1 : 0 ≤ z
  · by_cases h2 : z < (n : Int)
    · have hs : inI z 0 ((n : Int) - 1) = true := by unfold inI; simp; omega
      rw [hs]; clear hs
      have e1 : decide (0 ≤ z) = true := by simpa using h1
      have e2 : decide (z < (n : Int)) = true := by simpa using h2
      go_enter Try.func77, Try.ntmps77
      go_wp2
      go_ret
      exact ⟨rfl, rfl⟩
    · have hs : inI z 0 ((n : Int) - 1) = false := by unfold inI; simp; omega
      rw [hs]; clear hs
      have e1 : decide (0 ≤ z) = true := by simpa using h1
      have e2 : decide (z < (n : Int)) = false := by simpa using h2
      go_enter Try.func77, Try.ntmps77
      go_wp2
      go_ret
      exact ⟨rfl, rfl⟩
  · have hs : inI z 0 ((n : Int) - 1) = false := by unfold inI; simp; omega
    rw [hs]; clear hs
    have e1 : decide (0 ≤ z) = false := by simpa using h1
    go_enter Try.func77, Try.ntmps77
    go_wp2
    go_ret
    exact ⟨rfl, rfl⟩
set_option maxRecDepth 100000 in
set_option maxHeartbeats 2000000 in
theorem facep_impl (v : Value) (D : Drw) (x : Int) (w : World) (hd : DV w v D) : Calls Try.prog 25 #[v, .int .i64 x] w (NewC (facePR D x).1 (facePR D x).2 w) := by
  have HD := Lib.hid hd
  obtain ⟨ao, n, c, bo, m, d, rfl, _, _, hs, _, hf⟩ := hd.out
  have HM := Lib.hid hf.1
  have HS := Lib.hid (show fsSz D.fs ≤ 1048576 by unfold dSz at hs; omega)
  have HF := Lib.hid hf
  have HBX := Lib.hid (World.alloc_heap_new w (.cells #[.int .i64 D.wd, .int .i64 D.hg, .slice ao n c, .slice bo m d] 31))
  clear hd hf hs
  cases h : drB D with
  | false =>
    rw [facePR_no x h]
    go_enter Try.func25, Try.ntmps25
    go_wp2_with fail
    refine (valid_dimpl _ D _ (HD.out.below (one_alloc _))).mono ?_
    rintro e w1 ⟨rfl, g1⟩
    have HG := Lib.hid (bseq (one_alloc _) g1)
    clear g1
    rw [h]
    go_wp2
    go_ret2
    exact newC_nil HG.out
  | true =>
    cases hx : inI x 0 ((m : Int) - 1) with
    | false =>
      rw [facePR_rng h (by rw [← HM.out]; exact hx)]
      go_enter Try.func25, Try.ntmps25
      go_wp2_with fail
      refine (valid_dimpl _ D _ (HD.out.below (one_alloc _))).mono ?_
      rintro e w1 ⟨rfl, g1⟩
      have HG := Lib.hid (bseq (one_alloc _) g1)
      have hb1 := (g1.block _ (by simp)).trans HBX.out
      have hz1 := blk_lt hb1
      obtain ⟨x0, _, x1, _, x2, _, x3, _⟩ := cells4_of hb1
      clear g1 hb1
      rw [h]
      go_wp2_with fail
      refine (isIndexF_any x bo m d _).mono ?_
      rintro e w2 ⟨rfl, rfl⟩
      rw [hx]
      go_wp2
      go_ret2
      exact newC_nil HG.out
    | true =>
      have hxb : 0 ≤ x ∧ x ≤ (m : Int) - 1 := by unfold inI at hx; simpa using hx
      obtain ⟨j, rfl⟩ := Int.eq_ofNat_of_zero_le hxb.1
      have hjm : j < m := by omega
      have HJ := Lib.hid (show j < D.fs.length by have := HM.out; omega)
      have HR := Lib.hid (facePR_ok h (by rw [← HM.out]; exact hx))
      have HFA := Lib.hid (dr_face h HJ.out)
      rw [HR.out]
      clear hxb
      go_enter Try.func25, Try.ntmps25
      go_wp2_with fail
      refine (valid_dimpl _ D _ (HD.out.below (one_alloc _))).mono ?_
      rintro e wv ⟨rfl, g1⟩
      have HG := Lib.hid (bseq (one_alloc _) g1)
      have hb1 := (g1.block _ (by simp)).trans HBX.out
      have hz1 := blk_lt hb1
      obtain ⟨x0, _, x1, _, x2, _, x3, _⟩ := cells4_of hb1
      clear g1 hb1
      rw [h]
      go_wp2_with fail
      refine (isIndexF_any (j : Int) bo m d _).mono ?_
      rintro e w2 ⟨rfl, rfl⟩
      rw [hx]
      obtain ⟨fb, s, r, a1, n1, c1', rfl, hfb, ee, _, y0, y1, en1, hi1⟩ := (HF.out.below HG.out).at hjm
      have hln := fcs_le HS.out HJ.out
      have hn1 : n1 ≤ 1048576 := by omega
      have HI := Lib.hid hi1
      have HEE := Lib.hid ee
      have HDG := Lib.hid (HD.out.below HG.out)
      clear hi1 ee en1 hln hx h
      go_wp2
      refine Seq2.wp_region_fl wv [0, 1, 2, 3, 4, 5, 6] [7, 8, 9] (by kernel_rfl) (by kernel_rfl) rfl (Below.refl _ _) (fun w1 hh hb1 => ?_)
      repeat (first | (refine Seq2.fl_row (by decide) ?_) | (refine Seq2.fl_skip (by kernel_rfl) (by kernel_rfl) ?_ ?_; (focus (go_simp; (first | done | (simp [undef]; done)))); (try simp only [Act.put, List.setIfInBounds_toArray, List.set_cons_zero, List.set_cons_succ])) | (refine Seq2.fl_val (by kernel_rfl) (by kernel_rfl) ?_ ?_; (focus (go_simp; done)); apply Exists.intro; refine ⟨fun w2 hw2 => ?_, ?_⟩; (focus (obtain ⟨hc, hf⟩ := bcell hw2; clear hw2; go_simp; (first | done | with_reducible rfl | (with_reducible exact eql2 _ _ _) | (with_reducible exact neq2 _ _ _)))); (try simp only [Act.put, List.setIfInBounds_toArray, List.set_cons_zero, List.set_cons_succ])))
      refine Seq2.fl_nil ?_
      refine ch_one (by kernel_rfl) rfl ?_
      gi_wp2_with fail
      refine ⟨trivial, rfl, (callsIn_wide.2 (around_any _ D a1 n1 c1' r _ hn1 (HDG.out.below hb1) (HI.out.below hb1) (by have := HFA.out.2.1; rw [HEE.out] at this; exact this))).mono ?_⟩
      rintro e w3 ⟨g, rfl, ho, hb3⟩
      have HB3 := Lib.hid (hb1.trans (hb3.mono hb1.size))
      have HO3 := Lib.hid (own_lower ho (Nat.le_trans HG.out.size hb1.size))
      clear ho hb3
      gi_wp2
      refine ⟨HB3.out, ?_⟩
      refine ch_one (by kernel_rfl) rfl ?_
      gi_wp2
      refine ⟨HB3.out, ?_⟩
      refine ch_one (by kernel_rfl) rfl ?_
      gi_wp2
      refine ⟨HB3.out, ?_⟩
      refine ch_nil (by kernel_rfl) ?_
      go_wp2
      go_ret2
      have HE2 : polyAt D j = ringZ D.ps r := by unfold polyAt; rw [HEE.out]
      refine ⟨_, rfl, ?_, HG.out.trans (HB3.out.mono HG.out.size)⟩
      rw [HE2, ringZ_len]
      exact HO3.out
end Go.Proofs.Ytbidbleghlcegaa
