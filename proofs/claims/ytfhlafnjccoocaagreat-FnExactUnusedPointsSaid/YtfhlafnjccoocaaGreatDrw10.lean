/- Is a drawing valid, in impl: the panel, the rings. -/
import Derived.Test.YtfhlafnjccoocaaGreatDrw7
namespace Go.Proofs.YtfhlafnjccoocaaGreat
open Seq2 Go.ChangeShapes Go.WideShapes Go.ChangeAt Go.RowKit
set_option linter.unusedVariables false
set_option linter.unusedSimpArgs false

theorem isIndex_any (z : Int) (ao : Option Addr) (n c : Nat) (w : World) : Calls Tryz.prog 64 #[.int .i64 z, .slice ao n c] w fun e w' => e = .returned (.bool (inI z 0 ((n : Int) - 1))) ∧ w = w' := by
  by_cases h1 : 0 ≤ z
  · by_cases h2 : z < (n : Int)
    · have hs : inI z 0 ((n : Int) - 1) = true := by unfold inI; simp; omega
      rw [hs]; clear hs
      have e1 : decide (0 ≤ z) = true := by simpa using h1
      have e2 : decide (z < (n : Int)) = true := by simpa using h2
      go_enter Tryz.func64, Tryz.ntmps64
      go_wp2
      go_ret
      exact ⟨rfl, rfl⟩
    · have hs : inI z 0 ((n : Int) - 1) = false := by unfold inI; simp; omega
      rw [hs]; clear hs
      have e1 : decide (0 ≤ z) = true := by simpa using h1
      have e2 : decide (z < (n : Int)) = false := by simpa using h2
      go_enter Tryz.func64, Tryz.ntmps64
      go_wp2
      go_ret
      exact ⟨rfl, rfl⟩
  · have hs : inI z 0 ((n : Int) - 1) = false := by unfold inI; simp; omega
    rw [hs]; clear hs
    have e1 : decide (0 ≤ z) = false := by simpa using h1
    go_enter Tryz.func64, Tryz.ntmps64
    go_wp2
    go_ret
    exact ⟨rfl, rfl⟩
theorem panel_any (v : Value) (D : Drw) (w : World) (hd : DV w v D) : Calls Tryz.prog 34 #[v] w fun e w' => e = .returned (.bool (panelB D)) ∧ Below w.heap.size w w' := by
  obtain ⟨ao, n, c, bo, m, d, rfl, _, _, _, _, _⟩ := hd.out
  have HB := Lib.hid (show panelB D = (decide (10 ≤ min D.wd D.hg) && decide (max D.wd D.hg ≤ 20000)) by
    unfold panelB inI
    rw [← Bool.decide_and, ← Bool.decide_and, ← Bool.decide_and, ← Bool.decide_and]
    exact decide_eq_decide.2 (by omega))
  clear hd
  generalize D.wd = a at *
  generalize D.hg = b at *
  by_cases h1 : 10 ≤ min a b
  · have e1 : decide (10 ≤ min a b) = true := by simpa using h1
    have HR := Lib.hid (show panelB D = decide (max a b ≤ 20000) by rw [HB.out, e1]; simp)
    clear h1
    go_enter Tryz.func34, Tryz.ntmps34
    go_wp2
    go_ret
    exact ⟨ret_bool' HR.out.symm, one_alloc _⟩
  · have e1 : decide (10 ≤ min a b) = false := by simpa using h1
    have HR := Lib.hid (show panelB D = false by rw [HB.out, e1]; simp)
    clear h1
    go_enter Tryz.func34, Tryz.ntmps34
    go_wp2
    go_ret
    exact ⟨ret_bool' HR.out.symm, one_alloc _⟩
theorem ringZ_at {zs : List P2} {r : List Int} {k j : Nat} {x y : Int} (hk : k < r.length) (e : r.getD k 0 = (j : Int)) (e2 : zs.getD j (0, 0) = (x, y)) : (ringZ zs r).getD k (0, 0) = (x, y) := by
  have e' : r[k] = (j : Int) := by simpa [List.getD_eq_getElem?_getD, hk] using e
  simp [ringZ, List.getD_eq_getElem?_getD, hk, e']
  simpa [List.getD_eq_getElem?_getD] using e2
def ArdPost (zs : List P2) (r : List Int) (w : World) (e : Ending) (w' : World) : Prop := ∃ g, e = .returned (.slice (some ⟨g, 0, none⟩) r.length r.length) ∧ w'.ownsRow w.heap.size 67 2 (.slice (some ⟨g, 0, none⟩) r.length r.length) r.length (flatP (ringZ zs r)) ∧ Below w.heap.size w w'
set_option maxRecDepth 100000 in
set_option maxHeartbeats 4000000 in
theorem around_any (v : Value) (D : Drw) (a : Option Addr) (n c : Nat) (r : List Int) (w : World) (hn : n ≤ 1048576) (hd : DV w v D) (hi : IV w a n r) (hr : ringIn D.ps r = true) :
    Calls Tryz.prog 65 #[v, .slice a n c] w (ArdPost D.ps r w) := by
  obtain ⟨ao, np, cp, bo, m, d, rfl, _, _, hs, hp, _⟩ := hd.out
  have HI := Lib.hid hi
  have HZ := Lib.hid hi.1
  have HP := Lib.hid hp
  have HPZ := Lib.hid hp.1
  have HR := Lib.hid ((allTo_iff _ _).1 hr)
  have hnp : np ≤ 1048576 := by have := hp.1; unfold dSz at hs; omega
  have hmk := make_outl n hn
  have hb0 := one_alloc (w := w) (.cells #[.int .i64 D.wd, .int .i64 D.hg, .slice ao np cp, .slice bo m d] 33)
  have HM0 := Lib.hid (made_pts (w.alloc (.cells #[.int .i64 D.wd, .int .i64 D.hg, .slice ao np cp, .slice bo m d] 33)) n (ringZ D.ps r) 67)
  have HB := Lib.hid (two_allocs (w := w) (.cells #[.int .i64 D.wd, .int .i64 D.hg, .slice ao np cp, .slice bo m d] 33) (.cells (madeCells #[.int .i64 0, .int .i64 0] (n * 2)) 67))
  have HBX := Lib.hid (show ((w.alloc (.cells #[.int .i64 D.wd, .int .i64 D.hg, .slice ao np cp, .slice bo m d] 33)).alloc (.cells (madeCells #[.int .i64 0, .int .i64 0] (n * 2)) 67)).heap[w.heap.size]? = some (.cells #[.int .i64 D.wd, .int .i64 D.hg, .slice ao np cp, .slice bo m d] 33 (0, 0)) from (Below.heap_alloc _ _ _ (by simp)).trans (World.alloc_heap_new _ _))
  clear hd hi hp hr hs hb0
  go_enter Tryz.func65, Tryz.ntmps65
  go_wp2
  clear hmk
  go_loopw [13, 6, 7] (fun iv jv bv wr => ∃ (k : Nat), k ≤ n ∧ iv = .int .i64 k ∧ Hid (wr.rowIs (w.heap.size + 1) 67 (n * 2) (ptF (ringZ D.ps r) k)) ∧ Hid (wr.heap[w.heap.size]? = some (.cells #[.int .i64 D.wd, .int .i64 D.hg, .slice ao np cp, .slice bo m d] 33 (0, 0))) ∧ Hid (Below w.heap.size w wr)) (fun i _ _ _ => n - (intOf i).toNat)
  case atStart => exact ⟨0, by omega, rfl, Lib.hid (by simpa using HM0.out), HBX, HB⟩
  case round =>
    obtain ⟨k, hk, rfl, hr, hx, hb⟩ := hrel
    have hxw := blk_lt hx.out
    obtain ⟨_, _, _, _, c2, _, _, _⟩ := cells4_of hx.out
    by_cases hlt : k < n
    · have hkz : k < r.length := by have := HZ.out; omega
      have hin := HR.out k hkz
      unfold inAt inI at hin
      simp only [Bool.and_eq_true, decide_eq_true_eq] at hin
      rw [← HPZ.out] at hin
      obtain ⟨ib, rfl, hib, hcs⟩ := (HI.out.below hb.out).2.resolve_left (by omega)
      have i1 := hcs k hlt
      obtain ⟨j, ej⟩ := Int.eq_ofNat_of_zero_le hin.1
      rw [ej] at i1 hin
      have hjn : j < np := by omega
      obtain ⟨b, rfl, hpp⟩ := (HP.out.below hb.out).at (by omega)
      have hbw := hpp.1
      obtain ⟨x, y, e2, p0, p1⟩ := hpp.pt (k := j) (by have := HPZ.out; omega)
      have HE := Lib.hid (ptF_step (ringZ_at hkz ej e2))
      have hgw := hr.out.lt
      have d0 := hr.out.cell (i := k * 2) (by omega)
      have d1 := hr.out.cell (i := k * 2 + 1) (by omega)
      rw [ptF, if_neg (by omega)] at d0 d1
      have f0 := hr.out.frozen (k * 2)
      have f1 := hr.out.frozen (k * 2 + 1)
      clear hpp e2 hcs hin ej
      go_wp2
      go_roundw
      case rel => exact ⟨k + 1, by omega, by go_num, Lib.hid (((hr.out.set (k * 2) _).set (k * 2 + 1) _).congr (fun j _ => HE.out j)), Lib.hid ((Below.heap_setCell _ _ _ _ (by simp)).trans ((Below.heap_setCell _ _ _ _ (by simp)).trans hx.out)), Lib.hid ((hb.out.setCell (p := ⟨w.heap.size + 1, k * 2, none⟩) (by show w.heap.size ≤ w.heap.size + 1; omega) _).setCell (p := ⟨w.heap.size + 1, k * 2 + 1, none⟩) (by show w.heap.size ≤ w.heap.size + 1; omega) _)⟩
      case measure => simp [intOf]; omega
    · obtain rfl : k = n := by omega
      go_wp2
      go_ret
      have := own_rowPts (base := w.heap.size) (by rw [ringZ_len]; exact HZ.out) (by omega) (show w.heap.size ≤ w.heap.size + 1 by omega) hr.out
      rw [HZ.out] at this
      exact ⟨_, by rw [HZ.out]; rfl, this, hb.out⟩
set_option maxRecDepth 100000 in
set_option maxHeartbeats 4000000 in
theorem ring_impl (v : Value) (D : Drw) (a : Option Addr) (n c : Nat) (r : List Int) (w : World) (hn : n ≤ 1048576) (hd : DV w v D) (hi : IV w a n r) :
    Calls Tryz.prog 53 #[v, .slice a n c] w fun e w' => e = .returned (.bool (ringB D.ps r)) ∧ Below w.heap.size w w' := by
  have HD := Lib.hid hd
  have HI := Lib.hid hi
  have HZ := Lib.hid hi.1
  obtain ⟨ao, np, cp, bo, m, d, rfl, _, _, hs, hp, _⟩ := hd.out
  have HPZ := Lib.hid hp.1
  have HBX := Lib.hid (World.alloc_heap_new w (.cells #[.int .i64 D.wd, .int .i64 D.hg, .slice ao np cp, .slice bo m d] 33))
  clear hd hi hp hs
  go_enter Tryz.func53, Tryz.ntmps53
  go_wp2
  go_loopw [9, 6] (fun iv jv wr => ∃ (k : Nat), k ≤ n ∧ iv = .int .i64 k ∧ Hid (allTo (inAt D.ps r) k = true) ∧ Hid (wr = w.alloc (.cells #[.int .i64 D.wd, .int .i64 D.hg, .slice ao np cp, .slice bo m d] 33))) (fun i _ _ => n - (intOf i).toNat)
  case atStart => exact ⟨0, by omega, rfl, Lib.hid rfl, Lib.hid rfl⟩
  case round =>
    obtain ⟨k, hk, rfl, ha, hw⟩ := hrel
    have hb := one_alloc (w := w) (.cells #[.int .i64 D.wd, .int .i64 D.hg, .slice ao np cp, .slice bo m d] 33)
    rw [← hw.out] at hb
    have HB := Lib.hid hb
    have hx := HBX.out
    rw [← hw.out] at hx
    have hxw := blk_lt hx
    obtain ⟨c0, _, c1, _, c2, _, c3, _⟩ := cells4_of hx
    clear hb hx
    by_cases hlt : k < n
    · have hkz : k < r.length := by have := HZ.out; omega
      obtain ⟨ib, rfl, hib, hcs⟩ := (HI.out.below HB.out).2.resolve_left (by omega)
      have i1 := hcs k hlt
      have HK := Lib.hid (show inAt D.ps r k = inI (r.getD k 0) 0 ((np : Int) - 1) by unfold inAt; rw [← HPZ.out])
      generalize r.getD k 0 = z at *
      clear hcs
      cases hin : inI z 0 ((np : Int) - 1) with
      | false =>
        have HR := Lib.hid (show ringB D.ps r = false by unfold ringB ringIn; rw [allTo_bad hkz (HK.out.trans hin)]; rfl)
        go_wp2_with fail
        refine (isIndex_any z ao np cp _).mono ?_
        rintro e w1 ⟨rfl, rfl⟩
        go_wp2
        go_ret
        exact ⟨ret_bool' HR.out.symm, HB.out⟩
      | true =>
        have HT := Lib.hid (allTo_succ ha.out (HK.out.trans hin))
        go_wp2_with fail
        refine (isIndex_any z ao np cp _).mono ?_
        rintro e w1 ⟨rfl, rfl⟩
        go_wp2
        go_roundw
        case rel => exact ⟨k + 1, by omega, by go_num, HT, hw⟩
        case measure => simp [intOf]; omega
    · obtain rfl : k = n := by omega
      have HR := Lib.hid (show ringIn D.ps r = true by unfold ringIn; rw [← HZ.out]; exact ha.out)
      go_wp2_with fail
      refine (around_any _ D a k c r _ hn (HD.out.below HB.out) (HI.out.below HB.out) HR.out).mono ?_
      rintro e w1 ⟨g, rfl, ho, hb1⟩
      have HB1 := Lib.hid (HB.out.trans (hb1.mono HB.out.size))
      have HO := Lib.hid (own_pv' ho)
      have hrl : r.length ≤ 1048576 := by have := HZ.out; omega
      have HRB := Lib.hid (show ringB D.ps r = polyB (ringZ D.ps r) by unfold ringB; rw [HR.out]; rfl)
      clear ho hb1
      go_wp2_with fail
      refine (isValid_any _ r.length r.length (ringZ D.ps r) _ hrl HO.out).mono ?_
      rintro e w2 ⟨rfl, g2⟩
      have HB2 := Lib.hid (HB1.out.trans (g2.mono HB1.out.size))
      clear g2
      go_wp2
      go_ret
      exact ⟨ret_bool' HRB.out.symm, HB2.out⟩
end Go.Proofs.YtfhlafnjccoocaaGreat
