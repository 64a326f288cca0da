/- The face at a point: impl. -/
import Derived.Test.YthflkkkpggaalaaDrw19
import Derived.Test.YthflkkkpggaalaaIns3
namespace Go.Proofs.Ythflkkkpggaalaa
open Seq2 Go.ChangeShapes Go.WideShapes Go.ChangeAt Go.RowKit
set_option linter.unusedVariables false
set_option linter.unusedSimpArgs false

theorem DP.val {w : World} {q : Nat} {D : Drw} (h : DP w q D) : ∃ ao n c bo m d, w.heap[q]? = some (.cells #[.int .i64 D.wd, .int .i64 D.hg, .slice ao n c, .slice bo m d] 32 (0, 0)) ∧ DV w (.agg #[.int .i64 D.wd, .int .i64 D.hg, .slice ao n c, .slice bo m d]) D := by
  obtain ⟨ao, n, c, bo, m, d, hq, h1, h2, h3, h4, h5⟩ := h.out
  exact ⟨ao, n, c, bo, m, d, hq, ⟨ao, n, c, bo, m, d, rfl, h1, h2, h3, h4, h5⟩⟩
/-- A point in a box. -/
def PB (w : World) (b : Nat) (x y : Int) : Prop := w.heap[b]? = some (.cells #[.int .i64 x, .int .i64 y] 39 (0, 0))
theorem PB.below {w w' : World} {b : Nat} {x y : Int} (h : PB w b x y) (hb : Below w.heap.size w w') : PB w' b x y := (hb.block b (blk_lt h)).trans h
theorem place_dec (D : Drw) (x y : Int) {j : Nat} (hv : drB D = true) (hj : j < D.fs.length) : (insI (polyAt D j) (x, y) != -1) = atF D x y j := by
  rw [ins_same (dr_polyB hv hj)]
  unfold atF
  rcases insS_rng (polyAt D j) (x, y) with h | h | h <;> rw [h] <;> rfl
set_option maxRecDepth 100000 in
set_option maxHeartbeats 8000000 in
theorem clo_at (s : ByteArray) (a : Option Addr) (n c q pb : Nat) (r : List Int) (D : Drw) (x y : Int) (w : World) (hd : DP w q D) (hp : PB w pb x y) (hn : n ≤ 1048576) (hi : IV w a n r) (hv : drB D = true) {j : Nat} (hj : j < D.fs.length) (hr : (D.fs.getD j fc0).2 = r) (ho : okI x y = true) :
    Calls Try.prog 48 #[.agg #[.string s, .slice a n c], .pointer (some ⟨q, 0, none⟩), .pointer (some ⟨pb, 0, none⟩)] w fun e w' => e = .returned (.bool (atF D x y j)) ∧ Below w.heap.size w w' := by
  have HPR := Lib.hid (show polyAt D j = ringZ D.ps r by unfold polyAt; rw [hr])
  have HDEC := Lib.hid (place_dec D x y hv hj)
  obtain ⟨h3, h24, hav, _, _, _⟩ := poly_ok (dr_polyB hv hj)
  rw [HPR.out] at h3 h24 hav HDEC
  rw [ringZ_len] at h3 h24
  have HAV := Lib.hid (allW_of hav)
  have HRI := Lib.hid (show ringIn D.ps r = true by have := (dr_face hv hj).2.1; rwa [hr] at this)
  have HOW := Lib.hid (okW_of ho)
  have hd1 := hd.below (one_alloc (.cells #[.string s, .slice a n c] 72))
  have HP1 := Lib.hid (hp.below (one_alloc (.cells #[.string s, .slice a n c] 72)))
  have HI := Lib.hid (hi.below (one_alloc (.cells #[.string s, .slice a n c] 72)))
  obtain ⟨ao, np, cp, bo, m, d, hq, hdv⟩ := hd1.val
  have HDV := Lib.hid hdv
  have hqw := blk_lt hq
  have hpw := blk_lt HP1.out
  obtain ⟨c0, _, c1, _, c2, _, c3, _⟩ := cells4_of hq
  obtain ⟨p0, _, p1, _⟩ := cells2_of HP1.out
  have HW0 := Lib.hid (one_alloc (w := w) (.cells #[.string s, .slice a n c] 72))
  have hfb := World.alloc_heap_new w (.cells #[.string s, .slice a n c] 72)
  have hfl := blk_lt hfb
  obtain ⟨k0, _, k1, _⟩ := cells2_of hfb
  clear hd hp hi hv hr ho hav hd1 hq hdv hfb
  go_enter Try.func48, Try.ntmps48
  go_wp2
  generalize w.alloc _ = W at *
  refine Seq2.wp_region_fl W [0, 1, 2, 4] [3, 5, 6, 7] (by kernel_rfl) (by kernel_rfl) rfl (Below.refl _ _) (fun w1 hh hb1 => ?_)
  repeat (first | (refine Seq2.fl_row (by decide) ?_) | (refine Seq2.fl_skip (by kernel_rfl) (by kernel_rfl) ?_ ?_; (focus (go_simp; (first | done | (simp [undef]; done)))); (try simp only [Act.put, List.setIfInBounds_toArray, List.set_cons_zero, List.set_cons_succ])) | (refine Seq2.fl_val (by kernel_rfl) (by kernel_rfl) ?_ ?_; (focus (go_simp; done)); apply Exists.intro; refine ⟨fun w2 hw2 => ?_, ?_⟩; (focus (obtain ⟨hc, hf⟩ := bcell hw2; clear hw2; go_simp; (first | done | with_reducible rfl | (with_reducible exact eql2 _ _ _) | (with_reducible exact neq2 _ _ _)))); (try simp only [Act.put, List.setIfInBounds_toArray, List.set_cons_zero, List.set_cons_succ])))
  refine Seq2.fl_nil ?_
  refine ch_one (by kernel_rfl) rfl ?_
  gi_wp2_with fail
  refine ⟨trivial, rfl, (callsIn_wide.2 (around_any _ D a n c r _ hn (HDV.out.below hb1) (HI.out.below hb1) HRI.out)).mono ?_⟩
  rintro e w3 ⟨g, rfl, hgo, hb3⟩
  have HB3 := Lib.hid (hb1.trans (hb3.mono hb1.size))
  obtain ⟨ao', cp', he, _, hpv⟩ := own_PV (zs := ringZ D.ps r) hgo
  cases he
  obtain ⟨g', he, hpt⟩ := hpv.at (by omega)
  cases he
  have HPT := Lib.hid hpt
  clear hgo hpv hpt hb3 hh
  gi_wp2
  refine ⟨HB3.out, ?_⟩
  refine ch_one (by kernel_rfl) rfl ?_
  gi_wp2_with fail
  refine ⟨trivial, rfl, (callsIn_wide.2 (place_W g _ _ (ringZ D.ps r) x y _ (by rw [ringZ_len]) (by omega) h24 HAV.out HPT.out HOW.out)).mono ?_⟩
  rintro e w4 ⟨rfl, hb4⟩
  have HB4 := Lib.hid (HB3.out.trans (hb4.mono HB3.out.size))
  clear hb4
  gi_wp2
  refine ⟨HB4.out, ?_⟩
  refine ch_one (by kernel_rfl) rfl ?_
  gi_wp2
  refine ⟨HB4.out, ?_⟩
  refine ch_one (by kernel_rfl) rfl ?_
  gi_wp2
  refine ⟨HB4.out, ?_⟩
  refine ch_nil (by kernel_rfl) ?_
  go_wp2
  go_ret
  exact ⟨ret_bool' HDEC.out, bseq HW0.out HB4.out⟩
set_option maxRecDepth 100000 in
set_option maxHeartbeats 2000000 in
theorem index_at (bo : Option Addr) (m d q pb : Nat) (D : Drw) (x y : Int) (w : World) (hs : fsSz D.fs ≤ 1048576) (hf : FV w bo m D.fs) (hd : DP w q D) (hp : PB w pb x y) (hv : drB D = true) (ho : okI x y = true) :
    Calls Try.prog 92 #[.slice bo m d, .func (.func 48) #[] #[.pointer (some ⟨q, 0, none⟩), .pointer (some ⟨pb, 0, none⟩)]] w fun e w' => e = .returned (.int .i64 (firstIx (atF D x y) m)) ∧ Below w.heap.size w w' := by
  have hm1 : m ≤ 1048576 := by have := hf.1; unfold fsSz at hs; omega
  have HF := Lib.hid hf
  have HS := Lib.hid hs
  have HM := Lib.hid hf.1
  have HD := Lib.hid hd
  have HPB := Lib.hid hp
  have HV := Lib.hid hv
  have HO := Lib.hid ho
  clear hf hs hd hp hv ho
  go_enter Try.func92, Try.ntmps92
  go_wp2
  go_loopw [8] (fun iv wr => ∃ k : Nat, k ≤ m ∧ iv = .int .i64 k ∧ Hid (∀ j, j < k → atF D x y j = false) ∧ Hid (Below w.heap.size w wr)) (fun i _ => m - (intOf i).toNat)
  case atStart => exact ⟨0, by omega, rfl, Lib.hid (fun j hj => absurd hj (by omega)), Lib.hid (Below.refl _ _)⟩
  case round =>
    obtain ⟨k, hk, rfl, hi, hw⟩ := hrel
    by_cases hlt : k < m
    · obtain ⟨fb, s, r, a, n, c, rfl, hfb, e, _, x0, x1, en, hiv⟩ := (HF.out.below hw.out).at hlt
      have hkz : k < D.fs.length := by have := HM.out; omega
      have hln := fcs_le HS.out hkz
      have hn : n ≤ 1048576 := by omega
      have HIV := Lib.hid hiv
      have HR := Lib.hid (show (D.fs.getD k fc0).2 = r by rw [e])
      clear e en hln hiv
      go_wp2_with fail
      refine (clo_at s a n c q pb r D x y _ (HD.out.below hw.out) (HPB.out.below hw.out) hn HIV.out HV.out hkz HR.out HO.out).mono ?_
      rintro e w1 ⟨rfl, g1⟩
      have HG := Lib.hid (bseq hw.out g1)
      clear g1 x0 x1
      cases hs : atF D x y k with
      | true =>
        go_wp2
        go_ret
        exact ⟨ret_int (firstIx_at hi.out hs m hlt).symm, HG.out⟩
      | false =>
        go_wp2
        go_roundw
        case rel => exact ⟨k + 1, by omega, by go_num, Lib.hid (fun j hj => (Nat.lt_succ_iff_lt_or_eq.1 hj).elim (hi.out j) (fun e => e ▸ hs)), HG⟩
        case measure => simp [intOf]; omega
    · obtain rfl : k = m := by omega
      go_wp2
      go_ret
      exact ⟨ret_int (firstIx_none hi.out).symm, hw.out⟩
theorem firstFace_at (v : Value) (D : Drw) (x y : Int) (q pb : Nat) (w : World) (hd : DV w v D) (hq : DP w q D) (hp : PB w pb x y) (hv : drB D = true) (ho : okI x y = true) :
    Calls Try.prog 47 #[v, .func (.func 48) #[] #[.pointer (some ⟨q, 0, none⟩), .pointer (some ⟨pb, 0, none⟩)]] w fun e w' => e = .returned (.tuple #[.int .i64 ((ixR (firstIx (atF D x y) D.fs.length)).1), .int .i64 ((ixR (firstIx (atF D x y) D.fs.length)).2)]) ∧ Below w.heap.size w w' := by
  obtain ⟨ao, n, c, bo, m, d, rfl, _, _, hs, _, hf⟩ := hd.out
  have HM := Lib.hid hf.1
  have HS := Lib.hid (show fsSz D.fs ≤ 1048576 by unfold dSz at hs; omega)
  have ha := one_alloc (w := w) (.cells #[.int .i64 D.wd, .int .i64 D.hg, .slice ao n c, .slice bo m d] 32)
  have HF := Lib.hid (hf.below ha)
  have HQ := Lib.hid (hq.below ha)
  have HPB := Lib.hid (hp.below ha)
  have HV := Lib.hid hv
  have HO := Lib.hid ho
  rw [← HM.out]
  have HX : ∃ x0, firstIx (atF D x y) m = x0 := ⟨_, rfl⟩
  obtain ⟨x0, hx⟩ := HX
  have HXX := Lib.hid hx
  rw [hx]
  clear hd hf hs hx hq hp ha hv ho
  by_cases h0 : 0 ≤ x0
  · have hd1 : decide (x0 < 0) = false := by simp; omega
    rw [show ixR x0 = (x0, 0) from if_pos h0]
    go_enter Try.func47, Try.ntmps47
    go_wp2_with fail
    refine (index_at bo m d q pb D x y _ HS.out HF.out HQ.out HPB.out HV.out HO.out).mono ?_
    rintro e w1 ⟨rfl, g1⟩
    have HG := Lib.hid (bseq (one_alloc _) g1)
    clear g1
    rw [HXX.out]
    go_wp2
    go_ret2
    exact ⟨rfl, HG.out⟩
  · have hd1 : decide (x0 < 0) = true := by simp; omega
    rw [show ixR x0 = (0, 3) from if_neg h0]
    go_enter Try.func47, Try.ntmps47
    go_wp2_with fail
    refine (index_at bo m d q pb D x y _ HS.out HF.out HQ.out HPB.out HV.out HO.out).mono ?_
    rintro e w1 ⟨rfl, g1⟩
    have HG := Lib.hid (bseq (one_alloc _) g1)
    clear g1
    rw [HXX.out]
    go_wp2
    go_ret2
    exact ⟨rfl, HG.out⟩
set_option maxRecDepth 100000 in
set_option maxHeartbeats 2000000 in
theorem fat_impl (v : Value) (D : Drw) (x y : Int) (w : World) (hd : DV w v D) : Calls Try.prog 17 #[v, .agg #[.int .i64 x, .int .i64 y]] w fun e w' => e = .returned (.tuple #[.int .i64 ((faR D x y).1), .int .i64 ((faR D x y).2)]) ∧ Below w.heap.size w w' := by
  have HD := Lib.hid hd
  obtain ⟨ao, n, c, bo, m, d, rfl, h1, h2, hs, hp, hf⟩ := hd.out
  have HA := Lib.hid (two_allocs (w := w) (.cells #[.int .i64 D.wd, .int .i64 D.hg, .slice ao n c, .slice bo m d] 32) (.cells #[.int .i64 x, .int .i64 y] 39))
  have HBX := Lib.hid (show ((w.alloc (.cells #[.int .i64 D.wd, .int .i64 D.hg, .slice ao n c, .slice bo m d] 32)).alloc (.cells #[.int .i64 x, .int .i64 y] 39)).heap[w.heap.size]? = some (.cells #[.int .i64 D.wd, .int .i64 D.hg, .slice ao n c, .slice bo m d] 32 (0, 0)) from (Below.heap_alloc _ _ _ (by simp)).trans (World.alloc_heap_new _ _))
  have HX := Lib.hid (World.alloc_heap_new (w.alloc (.cells #[.int .i64 D.wd, .int .i64 D.hg, .slice ao n c, .slice bo m d] 32)) (.cells #[.int .i64 x, .int .i64 y] 39))
  rw [World.size_alloc] at HX
  have HDP := Lib.hid (show DP _ w.heap.size D from ⟨ao, n, c, bo, m, d, HBX.out, h1, h2, hs, hp.below HA.out, hf.below HA.out⟩)
  have HDA := Lib.hid (HD.out.below HA.out)
  clear hd h1 h2 hs hp hf
  cases h : drB D with
  | false =>
    have HR := Lib.hid (show faR D x y = (0, 1) by unfold faR; rw [h]; rfl)
    rw [HR.out]
    go_enter Try.func17, Try.ntmps17
    go_wp2_with fail
    refine (valid_dimpl _ D _ HDA.out).mono ?_
    rintro e w1 ⟨rfl, g1⟩
    have HG := Lib.hid (bseq HA.out g1)
    clear g1
    rw [h]
    go_wp2
    go_ret2
    exact ⟨rfl, HG.out⟩
  | true =>
  cases ho : okI x y with
  | false =>
    have HR := Lib.hid (show faR D x y = (0, 1) by unfold faR; rw [h, ho]; rfl)
    rw [HR.out]
    go_enter Try.func17, Try.ntmps17
    go_wp2_with fail
    refine (valid_dimpl _ D _ HDA.out).mono ?_
    rintro e w1 ⟨rfl, g1⟩
    have HG := Lib.hid (bseq HA.out g1)
    have hx1 := (g1.block _ (blk_lt HX.out)).trans HX.out
    have hxl := blk_lt hx1
    obtain ⟨p0, _, p1, _⟩ := cells2_of hx1
    clear g1
    rw [h]
    go_wp2_with fail
    refine (valid_impl x y _).mono ?_
    rintro e w2 ⟨rfl, g2⟩
    have HG2 := Lib.hid (bseq HG.out g2)
    clear g2
    rw [ho]
    go_wp2
    go_ret2
    exact ⟨rfl, HG2.out⟩
  | true =>
    have HV := Lib.hid h
    have HO := Lib.hid ho
    have HR := Lib.hid (show faR D x y = ixR (firstIx (atF D x y) D.fs.length) by unfold faR; rw [h, ho]; rfl)
    rw [HR.out]
    go_enter Try.func17, Try.ntmps17
    go_wp2_with fail
    refine (valid_dimpl _ D _ HDA.out).mono ?_
    rintro e w1 ⟨rfl, g1⟩
    have HG := Lib.hid (bseq HA.out g1)
    have HDP1 := Lib.hid (HDP.out.below g1)
    have HB1 := Lib.hid ((g1.block _ (blk_lt HBX.out)).trans HBX.out)
    have HX1 := Lib.hid ((g1.block _ (blk_lt HX.out)).trans HX.out)
    have hxl := blk_lt HX1.out
    obtain ⟨p0, _, p1, _⟩ := cells2_of HX1.out
    clear g1
    rw [h]
    go_wp2_with fail
    refine (valid_impl x y _).mono ?_
    rintro e w2 ⟨rfl, g2⟩
    replace HG := Lib.hid (bseq HG.out g2)
    replace HDP1 := Lib.hid (HDP1.out.below g2)
    replace HB1 := Lib.hid ((g2.block _ (blk_lt HB1.out)).trans HB1.out)
    replace HX1 := Lib.hid ((g2.block _ (blk_lt HX1.out)).trans HX1.out)
    clear g2 p0 p1 hxl
    rw [ho]
    have hbl := blk_lt HB1.out
    obtain ⟨x0, _, x1, _, x2, _, x3, _⟩ := cells4_of HB1.out
    go_wp2_with fail
    refine (firstFace_at _ D x y w.heap.size (w.heap.size + 1) _ (HD.out.below HG.out) HDP1.out HX1.out HV.out HO.out).mono ?_
    rintro e w3 ⟨rfl, g3⟩
    have HG3 := Lib.hid (bseq HG.out g3)
    clear g3
    go_wp2
    go_ret2
    exact ⟨rfl, HG3.out⟩
end Go.Proofs.Ythflkkkpggaalaa
