/- The face at a point: spec. -/
import Derived.Test.YthflkkkpggaalaaDrw14
import Derived.Test.YthflkkkpggaalaaIns2
import Derived.Test.YthflkkkpggaalaaIns4
namespace Go.Proofs.Ythflkkkpggaalaa
open Seq2 Go.ChangeShapes Go.WideShapes Go.ChangeAt Go.RowKit
set_option linter.unusedVariables false
set_option linter.unusedSimpArgs false

theorem insS_rng (zs : List P2) (q : P2) : insS zs q = -1 ∨ insS zs q = 0 ∨ insS zs q = 1 := by
  unfold insS
  split
  · rcases insT_rng zs q zs.length with h | h <;> omega
  · omega
theorem dr_polyB {D : Drw} (h : drB D = true) {j : Nat} (hj : j < D.fs.length) : polyB (polyAt D j) = true := (dr_face h hj).2.2
/-- Is the point in the face, or on its border? -/
def atF (D : Drw) (x y : Int) (j : Nat) : Bool := decide (0 ≤ insS (polyAt D j) (x, y))
def faR (D : Drw) (x y : Int) : Int × Int := if drB D && okI x y then ixR (firstIx (atF D x y) D.fs.length) else (0, 1)
set_option maxRecDepth 100000 in
set_option maxHeartbeats 8000000 in
theorem fat_spec (v : Value) (D : Drw) (x y : Int) (w : World) (hd : DV w v D) : Calls Try.prog 15 #[v, .agg #[.int .i64 x, .int .i64 y]] w fun e w' => e = .returned (.tuple #[.int .i64 ((faR D x y).1), .int .i64 ((faR D x y).2)]) ∧ Below w.heap.size w w' := by
  obtain ⟨cs, rfl, hp0⟩ := hd.box
  have HA := Lib.hid (two_allocs (w := w) (.cells cs 32) (.cells #[.int .i64 x, .int .i64 y] 39))
  have HP := Lib.hid (hp0.below (one_alloc (.cells #[.int .i64 x, .int .i64 y] 39)))
  have HX := Lib.hid (World.alloc_heap_new (w.alloc (.cells cs 32)) (.cells #[.int .i64 x, .int .i64 y] 39))
  rw [World.size_alloc] at HX
  clear hd hp0
  cases h : drB D with
  | false =>
    have HR := Lib.hid (show faR D x y = (0, 1) by unfold faR; rw [h]; rfl)
    rw [HR.out]
    go_enter Try.func15, Try.ntmps15
    go_wp2_with fail
    refine (drOk_spec _ D _ HP.out).mono ?_
    rintro e w1 ⟨rfl, g1⟩
    have HG := Lib.hid (bseq HA.out g1)
    clear g1
    rw [h]
    go_wp2
    go_ret2
    exact ⟨rfl, HG.out⟩
  | true =>
  cases ho : okI x y with
  | false =>
    have HR := Lib.hid (show faR D x y = (0, 1) by unfold faR; rw [h, ho]; rfl)
    rw [HR.out]
    go_enter Try.func15, Try.ntmps15
    go_wp2_with fail
    refine (drOk_spec _ D _ HP.out).mono ?_
    rintro e w1 ⟨rfl, g1⟩
    have HG := Lib.hid (bseq HA.out g1)
    have hx1 := (g1.block _ (blk_lt HX.out)).trans HX.out
    have hxl := blk_lt hx1
    obtain ⟨p0, _, p1, _⟩ := cells2_of hx1
    clear g1
    rw [h]
    go_wp2_with fail
    refine (ok_spec x y _).mono ?_
    rintro e w2 ⟨rfl, g2⟩
    have HG2 := Lib.hid (bseq HG.out g2)
    clear g2
    rw [ho]
    go_wp2
    go_ret2
    exact ⟨rfl, HG2.out⟩
  | true =>
    have HV := Lib.hid h
    have HO := Lib.hid ho
    have HR := Lib.hid (show faR D x y = ixR (firstIx (atF D x y) D.fs.length) by unfold faR; rw [h, ho]; rfl)
    obtain ⟨R, hR⟩ : ∃ R, faR D x y = R := ⟨_, rfl⟩
    have HRR := Lib.hid hR
    rw [hR]
    clear hR
    obtain ⟨r0, r1⟩ := R
    go_enter Try.func15, Try.ntmps15
    go_wp2_with fail
    refine (drOk_spec _ D _ HP.out).mono ?_
    rintro e w1 ⟨rfl, g1⟩
    have HG := Lib.hid (bseq HA.out g1)
    have HP1 := Lib.hid (HP.out.below g1)
    have HX1 := Lib.hid ((g1.block _ (blk_lt HX.out)).trans HX.out)
    have hxl := blk_lt HX1.out
    obtain ⟨p0, _, p1, _⟩ := cells2_of HX1.out
    clear g1
    rw [h]
    go_wp2_with fail
    refine (ok_spec x y _).mono ?_
    rintro e w2 ⟨rfl, g2⟩
    replace HG := Lib.hid (bseq HG.out g2)
    replace HP1 := Lib.hid (HP1.out.below g2)
    replace HX1 := Lib.hid ((g2.block _ (blk_lt HX1.out)).trans HX1.out)
    clear g2 p0 p1 hxl
    rw [ho]
    obtain ⟨ao, np, cp, bo, m, d, hq, _, _, hs, _, hf⟩ := HP1.out.out
    have HQ := Lib.hid hq
    have HM := Lib.hid hf.1
    have hm1 : m ≤ 24 := by have := (dr_few HV.out).1; have := hf.1; omega
    clear hq hf hs h ho
    go_wp2
    go_loopw [6] (fun iv wr => ∃ k : Nat, k ≤ m ∧ iv = .int .i64 k ∧ Hid (∀ j, j < k → atF D x y j = false) ∧ Hid (Below w2.heap.size w2 wr)) (fun i _ => m - (intOf i).toNat)
    case atStart => exact ⟨0, by omega, rfl, Lib.hid (fun j hj => absurd hj (by omega)), Lib.hid (Below.refl _ _)⟩
    case round =>
      obtain ⟨k, hk, rfl, hi, hb⟩ := hrel
      have hob := (hb.out.block _ (blk_lt HQ.out)).trans HQ.out
      have hqr := blk_lt hob
      obtain ⟨_, _, _, _, _, _, c3, _⟩ := cells4_of hob
      have hox := (hb.out.block _ (blk_lt HX1.out)).trans HX1.out
      have hxr := blk_lt hox
      obtain ⟨p0, _, p1, _⟩ := cells2_of hox
      clear hob hox
      by_cases hlt : k < m
      · have hkz : k < D.fs.length := by have := HM.out; omega
        obtain ⟨h3, h24, hav, _, _, _⟩ := poly_ok (dr_polyB HV.out hkz)
        have HAV := Lib.hid hav
        have HF := Lib.hid (dr_face HV.out hkz)
        have HRG := Lib.hid (insS_rng (polyAt D k) (x, y))
        have HAT := Lib.hid (show atF D x y k = decide (0 ≤ insS (polyAt D k) (x, y)) from rfl)
        clear hav
        go_wp2
        refine Seq2.wp_region_fl wr [0, 2] [1, 3, 4] (by kernel_rfl) (by kernel_rfl) rfl (Below.refl _ _) (fun w1 hh hb1 => ?_)
        repeat (first | (refine Seq2.fl_row (by decide) ?_) | (refine Seq2.fl_skip (by kernel_rfl) (by kernel_rfl) ?_ ?_; (focus (go_simp; (first | done | (simp [undef]; done)))); (try simp only [Act.put, List.setIfInBounds_toArray, List.set_cons_zero, List.set_cons_succ])) | (refine Seq2.fl_val (by kernel_rfl) (by kernel_rfl) ?_ ?_; (focus (go_simp; done)); apply Exists.intro; refine ⟨fun w2 hw2 => ?_, ?_⟩; (focus (obtain ⟨hc, hf⟩ := bcell hw2; clear hw2; go_simp; (first | done | with_reducible rfl | (with_reducible exact eql2 _ _ _) | (with_reducible exact neq2 _ _ _)))); (try simp only [Act.put, List.setIfInBounds_toArray, List.set_cons_zero, List.set_cons_succ])))
        refine Seq2.fl_nil ?_
        refine ch_one (by kernel_rfl) rfl ?_
        gi_wp2_with fail
        refine ⟨trivial, rfl, (callsIn_wide.2 (poly_spec w.heap.size D k _ ((HP1.out.below hb.out).below hb1) hkz HF.out.2.1)).mono ?_⟩
        rintro e w3 ⟨u, rfl, hn, hb3⟩
        have HB3 := Lib.hid (hb1.trans (hb3.mono hb1.size))
        obtain ⟨au, cu, rfl, _, hpu⟩ := own_PV hn
        obtain ⟨bu, rfl, hpt⟩ := hpu.at (by omega)
        have HPU := Lib.hid hpt
        clear hn hb3 hpu hpt hh
        gi_wp2
        refine ⟨HB3.out, ?_⟩
        refine ch_one (by kernel_rfl) rfl ?_
        gi_wp2_with fail
        refine ⟨trivial, rfl, (callsIn_wide.2 (ins_spec bu _ _ (polyAt D k) x y _ rfl (by omega) h24 HAV.out HPU.out HO.out)).mono ?_⟩
        rintro e w4 ⟨rfl, hb4⟩
        have HB4 := Lib.hid (HB3.out.trans (hb4.mono HB3.out.size))
        clear hb4
        gi_wp2
        refine ⟨HB4.out, ?_⟩
        refine ch_one (by kernel_rfl) rfl ?_
        gi_wp2
        refine ⟨HB4.out, ?_⟩
        refine ch_nil (by kernel_rfl) ?_
        have HW := Lib.hid (bseq hb.out HB4.out)
        by_cases hat : 0 ≤ insS (polyAt D k) (x, y)
        · have hd1 : decide (0 ≤ insS (polyAt D k) (x, y)) = true := by simpa using hat
          have hfx := firstIx_at hi.out (HAT.out.trans hd1) D.fs.length hkz
          have hr : (r0, r1) = ((k : Int), (0 : Int)) := by rw [← HRR.out, HR.out, hfx]; unfold ixR; rw [if_pos (by omega)]
          obtain ⟨rfl, rfl⟩ := Prod.mk.inj hr
          clear hr hfx
          go_wp2
          go_ret2
          exact ⟨rfl, bseq HG.out HW.out⟩
        · have hd1 : decide (0 ≤ insS (polyAt D k) (x, y)) = false := by simpa using hat
          have HI := Lib.hid (show ∀ j, j < k + 1 → atF D x y j = false from fun j hj => (Nat.lt_succ_iff_lt_or_eq.1 hj).elim (hi.out j) (fun e => e ▸ HAT.out.trans hd1))
          go_wp2
          go_roundw
          case rel => exact ⟨k + 1, by omega, by go_num, HI, HW⟩
          case measure => simp [intOf]; omega
      · obtain rfl : k = m := by omega
        have hfx := firstIx_none (f := atF D x y) (n := D.fs.length) (by rw [← HM.out]; exact hi.out)
        have hr : (r0, r1) = ((0 : Int), (3 : Int)) := by rw [← HRR.out, HR.out, hfx]; rfl
        obtain ⟨rfl, rfl⟩ := Prod.mk.inj hr
        clear hr hfx
        go_wp2
        go_ret2
        exact ⟨rfl, bseq HG.out hb.out⟩
end Go.Proofs.Ythflkkkpggaalaa
