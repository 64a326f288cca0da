/- The shade of a picture: spec and impl. -/
import Derived.Test.YtkmmhkhbpfkmcaaGreatDoorPic2
import Derived.Test.YtkmmhkhbpfkmcaaGreatDoorDrw18
namespace Go.Proofs.YtkmmhkhbpfkmcaaGreatDoor
open Seq2 Go.ChangeShapes Go.WideShapes Go.ChangeAt Go.RowKit
set_option linter.unusedVariables false
set_option linter.unusedSimpArgs false

/-- The shade of a face. -/
def shA (z : Pc) (j : Nat) : Int := (z.vs.getD j vn0).2.1
/-- The sum of areas times shades of the first faces. -/
def shTo (z : Pc) (k : Nat) : Int := sumTo (fun j => areaI (polyAt z.dr j) * shA z j) k
def psR (z : Pc) : Int × Int := if picB z then (if z.vs.length = 0 then (0, 6) else (shTo z z.vs.length / arTo z.dr z.vs.length, 0)) else (0, 1)
theorem pic_ok {z : Pc} (h : picB z = true) : drB z.dr = true ∧ vnsB z.vs = true ∧ z.vs.length = z.dr.fs.length := by
  unfold picB cntB at h
  simp only [Bool.and_eq_true, decide_eq_true_eq] at h
  exact ⟨h.1, h.2.1, h.2.2⟩
theorem vnsB_get {zs : List Vn} (h : vnsB zs = true) {j : Nat} (hj : j < zs.length) : vnB (zs.getD j vn0) = true := by
  unfold vnsB at h
  rw [List.all_eq_true] at h
  rw [List.getD_eq_getElem?_getD, List.getElem?_eq_getElem hj]
  exact h _ (List.getElem_mem hj)
theorem shA_rng {z : Pc} (h : picB z = true) {j : Nat} (hj : j < z.vs.length) : 0 ≤ shA z j ∧ shA z j ≤ 100 := by
  have h1 := vnsB_get (pic_ok h).2.1 hj
  obtain ⟨_, h2, h3, _⟩ := venB_ok h1
  exact ⟨h2, h3⟩
theorem pr_rng {z : Pc} (h : picB z = true) {j : Nat} (hj : j < z.vs.length) : 0 ≤ areaI (polyAt z.dr j) * shA z j ∧ areaI (polyAt z.dr j) * shA z j ≤ 960000000000 := by
  have h1 := shA_rng h hj
  have h2 := ar_rng (pic_ok h).1 (j := j) (by have := (pic_ok h).2.2; omega)
  have h3 := Int.mul_nonneg (show 0 ≤ areaI (polyAt z.dr j) by omega) h1.1
  have h4 := Int.mul_le_mul h2.2 h1.2 h1.1 (by omega)
  omega
theorem shTo_rng {z : Pc} (h : picB z = true) {k : Nat} (hk : k ≤ z.vs.length) : 0 ≤ shTo z k ∧ shTo z k ≤ k * 960000000000 := by
  unfold shTo
  induction k with
  | zero => simp [sumTo]
  | succ k ih =>
    have h1 := ih (by omega)
    have h2 := pr_rng h (j := k) (by omega)
    show 0 ≤ sumTo _ k + areaI (polyAt z.dr k) * shA z k ∧ sumTo _ k + areaI (polyAt z.dr k) * shA z k ≤ _
    push_cast
    omega
theorem arTo_pos {z : Pc} (h : picB z = true) (h0 : z.vs.length ≠ 0) : 0 < arTo z.dr z.vs.length := by
  obtain ⟨h1, _, h2⟩ := pic_ok h
  obtain ⟨n, hn⟩ : ∃ n, z.vs.length = n + 1 := ⟨z.vs.length - 1, by omega⟩
  rw [hn]
  have h3 := arTo_rng h1 (k := n) (by omega)
  have h4 := ar_rng h1 (j := n) (by omega)
  show 0 < sumTo _ n + areaI (polyAt z.dr n)
  unfold arTo at h3
  omega
theorem ar_succ (D : Drw) (k : Nat) : arTo D (k + 1) = arTo D k + areaI (polyAt D k) := rfl
theorem sh_succ (z : Pc) (k : Nat) : shTo z (k + 1) = shTo z k + areaI (polyAt z.dr k) * shA z k := rfl
set_option maxRecDepth 100000 in
set_option maxHeartbeats 8000000 in
theorem shade_spec (v : Value) (z : Pc) (w : World) (hd : PcV w v z) : Calls Tryz.prog 19 #[v] w fun e w' => e = .returned (.tuple #[.int .i64 ((psR z).1), .int .i64 ((psR z).2)]) ∧ Below w.heap.size w w' := by
  obtain ⟨c, rfl, hp⟩ := hd.box
  have HP := Lib.hid hp
  have HA := Lib.hid (one_alloc (w := w) (.cells c 37))
  clear hd hp
  obtain ⟨R, hR⟩ : ∃ R, psR z = R := ⟨_, rfl⟩
  have HR := Lib.hid hR
  rw [hR]
  clear hR
  obtain ⟨r0, r1⟩ := R
  cases hv : picB z with
  | false =>
    obtain ⟨rfl, rfl⟩ := Prod.mk.inj (HR.out.symm.trans (show psR z = (0, 1) by unfold psR; rw [hv]; rfl))
    go_enter Tryz.func19, Tryz.ntmps19
    go_wp2_with fail
    refine (picOk_spec _ z _ HP.out).mono ?_
    rintro e w1 ⟨rfl, g1⟩
    have HG := Lib.hid (bseq HA.out g1)
    clear g1
    rw [hv]
    go_wp2
    go_ret2
    exact ⟨rfl, HG.out⟩
  | true =>
  have HV := Lib.hid hv
  have hr := HR.out.symm.trans (show psR z = if z.vs.length = 0 then (0, 6) else (shTo z z.vs.length / arTo z.dr z.vs.length, 0) by unfold psR; rw [hv]; rfl)
  by_cases h0 : z.vs.length = 0
  · rw [if_pos h0] at hr
    obtain ⟨rfl, rfl⟩ := Prod.mk.inj hr
    clear hr
    go_enter Tryz.func19, Tryz.ntmps19
    go_wp2_with fail
    refine (picOk_spec _ z _ HP.out).mono ?_
    rintro e w1 ⟨rfl, g1⟩
    have HG := Lib.hid (bseq HA.out g1)
    have HP1 := Lib.hid (HP.out.below g1)
    clear g1
    rw [hv]
    obtain ⟨ao, bo, n, c', m, d, eo, k, e, h1, hs, h2, h3, h4⟩ := HP1.out.out
    have hz := h1.lt
    have c4 := h1.c4
    obtain rfl : k = 0 := by have := h4.1; rw [this]; exact h0
    clear h1 hs h2 h4
    go_wp2
    go_ret2
    exact ⟨rfl, HG.out⟩
  · rw [if_neg h0] at hr
    have hlen := (pic_ok hv).2.2
    obtain ⟨N, hN⟩ : ∃ N, z.vs.length = N := ⟨_, rfl⟩
    have HN := Lib.hid hN
    rw [hN] at hr h0 hlen
    have HLEN := Lib.hid hlen
    clear hN hlen
    obtain ⟨rfl, rfl⟩ := Prod.mk.inj hr
    clear hr
    go_enter Tryz.func19, Tryz.ntmps19
    go_wp2_with fail
    refine (picOk_spec _ z _ HP.out).mono ?_
    rintro e w1 ⟨rfl, g1⟩
    have HG := Lib.hid (bseq HA.out g1)
    have HP1 := Lib.hid (HP.out.below g1)
    clear g1
    rw [hv]
    obtain ⟨ao, bo, n, c', m, d, eo, k0, e, h1, hs, h2, h3, h4⟩ := HP1.out.out
    have hz := h1.lt
    have c4 := h1.c4
    obtain rfl : k0 = N := h4.1.trans HN.out
    have HQ := Lib.hid h1
    have HVN := Lib.hid h4
    have hfew := (dr_few (pic_ok hv).1).1
    have he0 : ((k0 : Int) == 0) = false := by simp; omega
    have HFEW := Lib.hid hfew
    clear h1 hs h2 h4 hfew
    go_wp2
    clear c4
    go_loopw [6, 4, 5, 7] (fun iv sv av uv wr => ∃ k : Nat, k ≤ k0 ∧ iv = .int .i64 k ∧ sv = .int .i64 (shTo z k) ∧ av = .int .i64 (arTo z.dr k) ∧ Hid (Below w1.heap.size w1 wr)) (fun i _ _ _ _ => k0 - (intOf i).toNat)
    case atStart => exact ⟨0, by omega, rfl, rfl, rfl, Lib.hid (Below.refl _ _)⟩
    case round =>
      obtain ⟨k, hk, rfl, rfl, rfl, hb⟩ := hrel
      have hq := HQ.out.keep (hb.out.block _ hz)
      have hqr := hq.lt
      have c4 := hq.c4
      clear hq
      by_cases hlt : k < k0
      · have hkv : k < z.vs.length := by have := HN.out; omega
        have hkz : k < z.dr.fs.length := by have := HLEN.out; omega
        have hk24 : k < 24 := by have := HFEW.out; omega
        obtain ⟨h3', h24, hav, _, _, _⟩ := poly_ok (dr_poly (pic_ok HV.out).1 hkz)
        have HAV := Lib.hid hav
        have hr1 := shTo_rng HV.out (k := k) (by omega)
        have hr3 := arTo_rng (pic_ok HV.out).1 (k := k) (by omega)
        have hr4 := ar_rng (pic_ok HV.out).1 hkz
        have hr5 := pr_rng HV.out hkv
        have HS1 := Lib.hid (ar_succ z.dr k)
        have HS2 := Lib.hid (sh_succ z k)
        have HF := Lib.hid (dr_face (pic_ok HV.out).1 hkz)
        obtain ⟨vb, rfl, hcs⟩ := (HVN.out.below hb.out).2.resolve_left (by omega)
        have HVA := Lib.hid (hcs k hlt)
        have hvl := HVA.out.1
        generalize hA : areaI (polyAt z.dr k) = A at *
        generalize hS : shA z k = s at *
        generalize hP : A * s = P at *
        have HAA := Lib.hid hA
        have HSS := Lib.hid hS
        have HPP := Lib.hid hP
        have q1 : IntKind.i64.wrap (arTo z.dr k + A) = arTo z.dr k + A := IntWalk.i64_in _ (by omega)
        have q3 : IntKind.i64.wrap (A * s) = P := by rw [hP]; exact IntWalk.i64_in _ (by omega)
        have q2 : IntKind.i64.wrap (shTo z k + P) = shTo z k + P := IntWalk.i64_in _ (by omega)
        clear hav hr1 hr3 hr4 hr5 hcs hA hS hP
        go_wp2_with fail
        refine (poly_spec w.heap.size z.dr k _ (HP1.out.below hb.out).dp hkz HF.out.2.1).mono ?_
        rintro e w2 ⟨u, rfl, hn, hb1⟩
        obtain ⟨au, cu, rfl, _, hpu⟩ := own_PV hn
        obtain ⟨bu, rfl, hpt⟩ := hpu.at (by omega)
        have HPU := Lib.hid hpt
        have HB1 := Lib.hid (bseq hb.out hb1)
        clear hn hb1 hpu hpt
        go_wp2_with fail
        refine (area_spec bu _ _ (polyAt z.dr k) _ rfl (by omega) h24 HAV.out HPU.out).mono ?_
        rintro e w3 ⟨rfl, hb2⟩
        have HB2 := Lib.hid (bseq HB1.out hb2)
        rw [HAA.out]
        have hq := HQ.out.keep (HB2.out.block _ hz)
        have hqr2 := hq.lt
        replace c4 := hq.c4
        obtain ⟨vb', he, hcs⟩ := (HVN.out.below HB2.out).2.resolve_left (by omega)
        cases he
        obtain ⟨hvl2, _, y1, _⟩ := hcs k hlt
        replace y1 : w3.cell? ⟨vb, k * 3 + 1, none⟩ = some (.int .i64 s) := by rw [← HSS.out]; exact y1
        clear hcs
        clear hq hb2
        go_wp2
        go_roundw
        case rel => exact ⟨k + 1, by omega, by go_num, by rw [HS2.out], by rw [HS1.out], HB2⟩
        case measure => simp [intOf]; omega
      · obtain rfl : k = k0 := by omega
        have hp := arTo_pos HV.out (by have := HN.out; omega)
        have hr1 := shTo_rng HV.out (k := k) (by have := HN.out; omega)
        have hr3 := arTo_rng (pic_ok HV.out).1 (k := k) (by have := HLEN.out; omega)
        have hk24 : k ≤ 24 := by have := HFEW.out; have := HLEN.out; omega
        rw [HN.out] at hp
        have e3 : (shTo z k).tdiv (arTo z.dr k) = shTo z k / arTo z.dr k := Int.tdiv_eq_ediv_of_nonneg hr1.1
        have e4 : (arTo z.dr k == 0) = false := by simp; omega
        have e5 := Int.ediv_nonneg hr1.1 (show 0 ≤ arTo z.dr k by omega)
        have e6 := Int.ediv_le_self (arTo z.dr k) hr1.1
        have e7 : IntKind.i64.wrap (shTo z k / arTo z.dr k) = shTo z k / arTo z.dr k := IntWalk.i64_in _ (by omega)
        go_wp2
        go_ret2
        exact ⟨rfl, HG.out.trans (hb.out.mono (by have := HG.out.size; omega))⟩
end Go.Proofs.YtkmmhkhbpfkmcaaGreatDoor
