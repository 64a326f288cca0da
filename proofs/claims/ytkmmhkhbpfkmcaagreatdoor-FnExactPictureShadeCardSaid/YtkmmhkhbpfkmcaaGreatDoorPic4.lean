/- The shade of a picture: impl. -/
import Derived.Test.YtkmmhkhbpfkmcaaGreatDoorPic3
namespace Go.Proofs.YtkmmhkhbpfkmcaaGreatDoor
open Seq2 Go.ChangeShapes Go.WideShapes Go.ChangeAt Go.RowKit
set_option linter.unusedVariables false
set_option linter.unusedSimpArgs false

set_option maxRecDepth 100000 in
set_option maxHeartbeats 8000000 in
theorem shade_impl (v : Value) (z : Pc) (w : World) (hd : PcV w v z) (ht : TabAt w) : Calls Tryz.prog 20 #[v] w fun e w' => e = .returned (.tuple #[.int .i64 ((psR z).1), .int .i64 ((psR z).2)]) ∧ Below w.heap.size w w' := by
  have HD := Lib.hid hd
  have HT := Lib.hid ht
  obtain ⟨ao, bo, n, c, m, d, eo, k0, e, rfl, hs, h2, h3, h4⟩ := hd.out
  have HA := Lib.hid (one_alloc (w := w) (.cells #[.int .i64 z.dr.wd, .int .i64 z.dr.hg, .slice ao n c, .slice bo m d, .slice eo k0 e] 37))
  have HX := Lib.hid (World.alloc_heap_new w (.cells #[.int .i64 z.dr.wd, .int .i64 z.dr.hg, .slice ao n c, .slice bo m d, .slice eo k0 e] 37))
  have HV2 := Lib.hid h2
  have HVN := Lib.hid h4
  have HK := Lib.hid h4.1
  clear hd hs h2 h3 h4 ht
  obtain ⟨R, hR⟩ : ∃ R, psR z = R := ⟨_, rfl⟩
  have HR := Lib.hid hR
  rw [hR]
  clear hR
  obtain ⟨r0, r1⟩ := R
  cases hv : picB z with
  | false =>
    obtain ⟨rfl, rfl⟩ := Prod.mk.inj (HR.out.symm.trans (show psR z = (0, 1) by unfold psR; rw [hv]; rfl))
    go_enter Tryz.func20, Tryz.ntmps20
    go_wp2_with fail
    refine (picv_impl _ z _ (HD.out.below HA.out) (HT.out.below HA.out)).mono ?_
    rintro e' w1 ⟨rfl, g1⟩
    have HG := Lib.hid (bseq HA.out g1)
    clear g1
    rw [hv]
    go_wp2
    go_ret2
    exact ⟨rfl, HG.out⟩
  | true =>
  have HV := Lib.hid hv
  have hr := HR.out.symm.trans (show psR z = if z.vs.length = 0 then (0, 6) else (shTo z z.vs.length / arTo z.dr z.vs.length, 0) by unfold psR; rw [hv]; rfl)
  by_cases h0 : z.vs.length = 0
  · rw [if_pos h0] at hr
    obtain ⟨rfl, rfl⟩ := Prod.mk.inj hr
    clear hr
    obtain rfl : k0 = 0 := by have := HK.out; omega
    go_enter Tryz.func20, Tryz.ntmps20
    go_wp2_with fail
    refine (picv_impl _ z _ (HD.out.below HA.out) (HT.out.below HA.out)).mono ?_
    rintro e' w1 ⟨rfl, g1⟩
    have HG := Lib.hid (bseq HA.out g1)
    have HX1 := Lib.hid ((g1.block _ (blk_lt HX.out)).trans HX.out)
    clear g1
    have hz := blk_lt HX1.out
    have a4 := (cell_of_arr HX1.out (j := 4) rfl).1
    rw [hv]
    go_wp2
    go_ret2
    exact ⟨rfl, HG.out⟩
  · rw [if_neg h0, (pic_ok hv).2.2] at hr
    obtain ⟨rfl, rfl⟩ := Prod.mk.inj hr
    clear hr
    have hlen := (pic_ok hv).2.2
    have hfew := (dr_few (pic_ok hv).1).1
    have he0 : ((k0 : Int) == 0) = false := by have := HK.out; simp; omega
    have hkn : k0 = z.dr.fs.length := by have := HK.out; omega
    have HKN := Lib.hid hkn
    have HLEN := Lib.hid hlen
    have HFEW := Lib.hid hfew
    clear hkn hlen hfew
    go_enter Tryz.func20, Tryz.ntmps20
    go_wp2_with fail
    refine (picv_impl _ z _ (HD.out.below HA.out) (HT.out.below HA.out)).mono ?_
    rintro e' w1 ⟨rfl, g1⟩
    have HG := Lib.hid (bseq HA.out g1)
    have HX1 := Lib.hid ((g1.block _ (blk_lt HX.out)).trans HX.out)
    clear g1
    have hz := blk_lt HX1.out
    have a0 := (cell_of_arr HX1.out (j := 0) rfl).1
    have a1 := (cell_of_arr HX1.out (j := 1) rfl).1
    have a2 := (cell_of_arr HX1.out (j := 2) rfl).1
    have a3 := (cell_of_arr HX1.out (j := 3) rfl).1
    have a4 := (cell_of_arr HX1.out (j := 4) rfl).1
    rw [hv]
    go_wp2_with fail
    refine (polys_any _ z.dr _ (HV2.out.below HG.out) (pic_ok HV.out).1).mono ?_
    rintro e' w2 ⟨B, rfl, hpl, g2⟩
    have HPL := Lib.hid hpl
    have HG2 := Lib.hid (bseq HG.out g2)
    have HX2 := Lib.hid ((g2.block _ (blk_lt HX1.out)).trans HX1.out)
    clear hpl g2 a0 a1 a2 a3 a4 hz
    go_wp2
    go_loopw [20, 4, 5, 6, 7, 8] (fun iv sv av u1 u2 u3 wr => ∃ k : Nat, k ≤ z.dr.fs.length ∧ iv = .int .i64 k ∧ sv = .int .i64 (shTo z k) ∧ av = .int .i64 (arTo z.dr k) ∧ Hid (Below w2.heap.size w2 wr)) (fun i _ _ _ _ _ _ => z.dr.fs.length - (intOf i).toNat)
    case atStart => exact ⟨0, by omega, rfl, rfl, rfl, Lib.hid (Below.refl _ _)⟩
    case round =>
      obtain ⟨k, hk, rfl, rfl, rfl, hb⟩ := hrel
      by_cases hlt : k < z.dr.fs.length
      · have hkv : k < z.vs.length := by have := HLEN.out; omega
        have hk24 : k < 24 := by have := HFEW.out; omega
        obtain ⟨hbs, hcs⟩ := HPL.out.below hb.out
        obtain ⟨g, k1, hpt⟩ := hcs k hlt
        have HPT := Lib.hid hpt
        obtain ⟨h3', h24, hav, _, _, _⟩ := poly_ok (dr_poly (pic_ok HV.out).1 hlt)
        have HAV := Lib.hid hav
        have hr1 := shTo_rng HV.out (k := k) (by omega)
        have hr3 := arTo_rng (pic_ok HV.out).1 (k := k) (by omega)
        have hr4 := ar_rng (pic_ok HV.out).1 hlt
        have hr5 := pr_rng HV.out hkv
        have HS1 := Lib.hid (ar_succ z.dr k)
        have HS2 := Lib.hid (sh_succ z k)
        have HL := Lib.hid (show plL z.dr k = (polyAt z.dr k).length from rfl)
        rw [HL.out] at k1
        generalize hA : areaI (polyAt z.dr k) = A at *
        generalize hS : shA z k = s at *
        generalize hP : A * s = P at *
        have HAA := Lib.hid hA
        have HSS := Lib.hid hS
        have HPP := Lib.hid hP
        have q1 : IntKind.i64.wrap (arTo z.dr k + A) = arTo z.dr k + A := IntWalk.i64_in _ (by omega)
        have q3 : IntKind.i64.wrap (A * s) = P := by rw [hP]; exact IntWalk.i64_in _ (by omega)
        have q2 : IntKind.i64.wrap (shTo z k + P) = shTo z k + P := IntWalk.i64_in _ (by omega)
        clear hav hr1 hr3 hr4 hr5 hcs hpt hA hS hP
        go_wp2_with fail
        refine (area_impl g _ _ (polyAt z.dr k) _ rfl (by omega) h24 HAV.out HPT.out).mono ?_
        rintro e'' w3 ⟨rfl, g3⟩
        have HB2 := Lib.hid (bseq hb.out g3)
        clear g3
        rw [HAA.out]
        have HX3 := Lib.hid ((HB2.out.block _ (blk_lt HX2.out)).trans HX2.out)
        have hz := blk_lt HX3.out
        have a4 := (cell_of_arr HX3.out (j := 4) rfl).1
        obtain ⟨vb, rfl, hcs⟩ := (HVN.out.below (HG2.out.trans (HB2.out.mono HG2.out.size))).2.resolve_left (by have := HKN.out; omega)
        obtain ⟨hvl2, _, y1, _⟩ := hcs k (by have := HKN.out; omega)
        replace y1 : w3.cell? ⟨vb, k * 3 + 1, none⟩ = some (.int .i64 s) := by rw [← HSS.out]; exact y1
        have hk0 : k < k0 := by have := HKN.out; omega
        clear hcs
        go_wp2
        go_roundw
        case rel => exact ⟨k + 1, by omega, by go_num, by rw [HS2.out], by rw [HS1.out], HB2⟩
        case measure => simp [intOf]; omega
      · obtain rfl : k = z.dr.fs.length := by omega
        have hp := arTo_pos HV.out h0
        have hlen := HLEN.out
        have hr1 := shTo_rng HV.out (k := z.dr.fs.length) (by omega)
        have hr3 := arTo_rng (pic_ok HV.out).1 (k := z.dr.fs.length) (by omega)
        have hfew := HFEW.out
        rw [hlen] at hp
        have e3 : (shTo z z.dr.fs.length).tdiv (arTo z.dr z.dr.fs.length) = shTo z z.dr.fs.length / arTo z.dr z.dr.fs.length := Int.tdiv_eq_ediv_of_nonneg hr1.1
        have e4 : (arTo z.dr z.dr.fs.length == 0) = false := by simp; omega
        have e5 := Int.ediv_nonneg hr1.1 (show 0 ≤ arTo z.dr z.dr.fs.length by omega)
        have e6 := Int.ediv_le_self (arTo z.dr z.dr.fs.length) hr1.1
        have e7 : IntKind.i64.wrap (shTo z z.dr.fs.length / arTo z.dr z.dr.fs.length) = shTo z z.dr.fs.length / arTo z.dr z.dr.fs.length := IntWalk.i64_in _ (by omega)
        go_wp2
        go_ret2
        exact ⟨rfl, HG2.out.trans (hb.out.mono HG2.out.size)⟩
end Go.Proofs.YtkmmhkhbpfkmcaaGreatDoor
