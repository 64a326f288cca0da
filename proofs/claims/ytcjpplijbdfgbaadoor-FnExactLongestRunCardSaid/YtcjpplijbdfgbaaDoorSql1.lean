/- Sequences of leaves: spec, impl. -/
import Derived.Test.YtcjpplijbdfgbaaDoorMat1
import Derived.Test.YtcjpplijbdfgbaaDoorK19
import Derived.Test.YtcjpplijbdfgbaaDoorIsq
namespace Go.Proofs.YtcjpplijbdfgbaaDoor
open Seq2 Go.ChangeShapes Go.WideShapes Go.ChangeAt Go.RowKit
set_option linter.unusedVariables false
set_option linter.unusedSimpArgs false

def nxN (zs : List Lf) (a b : Nat) : Bool := ((zs.getD b lf0).fl.toList == (zs.getD a lf0).fl.toList) && ((zs.getD b lf0).nu == (zs.getD a lf0).nu + 1)
def nxB (zs : List Lf) (x y : Int) : Bool := nxN zs x.toNat y.toNat
def sqB (zs : List Lf) (cs : List Int) (j : Nat) : Bool := inI (cs.getD j 0) 0 ((zs.length : Int) - 1) && (decide (j = 0) || nxB zs (cs.getD (j - 1) 0) (cs.getD j 0))
def isqB (zs : List Lf) (cs : List Int) : Bool := lfsB zs && (decide (0 < cs.length) && (List.range cs.length).all (sqB zs cs))
theorem isq_no {zs : List Lf} {cs : List Int} {k : Nat} (hk : k < cs.length) (h : sqB zs cs k = false) : isqB zs cs = false := by
  have : (List.range cs.length).all (sqB zs cs) = false := by
    rw [Bool.eq_false_iff]
    intro h2
    have := List.all_eq_true.1 h2 k (List.mem_range.2 hk)
    rw [h] at this; cases this
  unfold isqB; rw [this]; simp
theorem isq_yes {zs : List Lf} {cs : List Int} (hB : lfsB zs = true) (h0 : 0 < cs.length) (h : ∀ j, j < cs.length → sqB zs cs j = true) : isqB zs cs = true := by
  unfold isqB
  rw [hB, decide_eq_true h0, List.all_eq_true.2 (fun j hj => h j (List.mem_range.1 hj))]
  rfl
/-- The flitch and the number of a leaf in a list. -/
theorem lfs_cells {w : World} {ao : Option Addr} {n a : Nat} {zs : List Lf} (h : LfsV w ao n zs) (ha : a < n) : ∃ b, ao = some ⟨b, 0, none⟩ ∧ b < w.heap.size ∧ w.cell? ⟨b, a * 9 + 1, none⟩ = some (.string (zs.getD a lf0).fl) ∧ w.cell? ⟨b, a * 9 + 2, none⟩ = some (.int .i64 (zs.getD a lf0).nu) := by
  obtain ⟨b, e, hcs⟩ := h.2.resolve_left (by omega)
  obtain ⟨v, hv, hat⟩ := hcs a ha
  obtain ⟨ao6, n6, c6, rfl, h1, h2, h3, h4, h5, h6, h7, h8, h9⟩ := hv.out
  exact ⟨b, e, hat.1, hat.at 1 rfl, hat.at 2 rfl⟩
set_option maxRecDepth 100000 in
set_option maxHeartbeats 8000000 in
theorem next_impl (ao : Option Addr) (n c : Nat) (zs : List Lf) (a d : Nat) (w : World) (ha : a < n) (hd : d < n) (hn : n ≤ 1048576) (hv : LfsV w ao n zs) (hna : LfN (zs.getD a lf0)) :
    Calls Tryd.prog 104 #[.slice ao n c, .int .i64 a, .int .i64 d] w fun e w' => e = .returned (.bool (nxN zs a d)) ∧ Below w.heap.size w w' := by
  obtain ⟨b, rfl, hbw, a1, a2⟩ := lfs_cells hv ha
  obtain ⟨b', hb', _, d1, d2⟩ := lfs_cells hv hd
  have hbb : b = b' := by simpa using hb'
  subst hbb
  have hu := hna.nu
  have HN := Lib.hid (show nxN zs a d = (((zs.getD d lf0).fl.toList == (zs.getD a lf0).fl.toList) && ((zs.getD d lf0).nu == (zs.getD a lf0).nu + 1)) from rfl)
  rw [HN.out]
  obtain ⟨fa, hfa⟩ : ∃ q, (zs.getD a lf0).fl = q := ⟨_, rfl⟩
  obtain ⟨fd, hfd⟩ : ∃ q, (zs.getD d lf0).fl = q := ⟨_, rfl⟩
  obtain ⟨ua, hua⟩ : ∃ q, (zs.getD a lf0).nu = q := ⟨_, rfl⟩
  obtain ⟨ud, hud⟩ : ∃ q, (zs.getD d lf0).nu = q := ⟨_, rfl⟩
  rw [hfa] at a1
  rw [hfd] at d1
  rw [hua] at a2 hu
  rw [hud] at d2
  rw [hfa, hfd, hua, hud]
  clear hv hna hb' hfa hfd hua hud HN
  have e1 : IntKind.i64.wrap (ua + 1) = ua + 1 := IntWalk.i64_in _ (by omega)
  obtain ⟨F, hF⟩ : ∃ F, (fd.toList == fa.toList) = F := ⟨_, rfl⟩
  rw [hF]
  cases F
  · go_enter Tryd.func104, Tryd.ntmps104
    go_wp2
    refine wp_region_below (by kernel_rfl) (by kernel_rfl) ?_
    repeat (first | (refine wq_val ?_ ?_; (focus (go_simp; done)); apply Exists.intro; refine ⟨fun w1 hw1 => ?_, ?_⟩; (obtain ⟨hc, hf⟩ := bcell hw1; clear hw1; go_simp; (first | done | with_reducible rfl | (with_reducible exact eql2 _ _ _) | (with_reducible exact neq2 _ _ _))); (try simp only [Act.put, List.setIfInBounds_toArray, List.set_cons_zero, List.set_cons_succ])) | (refine wq_skip ?_ ?_; (focus (go_simp; (first | done | (simp [undef]; done)))); (try simp only [Act.put, List.setIfInBounds_toArray, List.set_cons_zero, List.set_cons_succ])))
    refine wq_nil ?_
    intro w1 hb1
    have HB1 := Lib.hid hb1
    clear hb1
    go_wp2
    go_ret
    exact ⟨rfl, HB1.out⟩
  · rw [Bool.true_and]
    go_enter Tryd.func104, Tryd.ntmps104
    go_wp2
    refine wp_region_below (by kernel_rfl) (by kernel_rfl) ?_
    repeat (first | (refine wq_val ?_ ?_; (focus (go_simp; done)); apply Exists.intro; refine ⟨fun w1 hw1 => ?_, ?_⟩; (obtain ⟨hc, hf⟩ := bcell hw1; clear hw1; go_simp; (first | done | with_reducible rfl | (with_reducible exact eql2 _ _ _) | (with_reducible exact neq2 _ _ _))); (try simp only [Act.put, List.setIfInBounds_toArray, List.set_cons_zero, List.set_cons_succ])) | (refine wq_skip ?_ ?_; (focus (go_simp; (first | done | (simp [undef]; done)))); (try simp only [Act.put, List.setIfInBounds_toArray, List.set_cons_zero, List.set_cons_succ])))
    refine wq_nil ?_
    intro w1 hb1
    have HB1 := Lib.hid hb1
    clear hb1
    go_wp2
    go_ret
    exact ⟨rfl, HB1.out⟩
theorem isIndexL_any (z : Int) (ao : Option Addr) (n c : Nat) (w : World) : Calls Tryd.prog 102 #[.int .i64 z, .slice ao n c] w fun e w' => e = .returned (.bool (inI z 0 ((n : Int) - 1))) ∧ w = w' := by
  by_cases h1 : 0 ≤ z
  · by_cases h2 : z < (n : Int)
    · have hs : inI z 0 ((n : Int) - 1) = true := by unfold inI; simp; omega
      rw [hs]; clear hs
      have e1 : decide (0 ≤ z) = true := by simpa using h1
      have e2 : decide (z < (n : Int)) = true := by simpa using h2
      go_enter Tryd.func102, Tryd.ntmps102
      go_wp2
      go_ret
      exact ⟨rfl, rfl⟩
    · have hs : inI z 0 ((n : Int) - 1) = false := by unfold inI; simp; omega
      rw [hs]; clear hs
      have e1 : decide (0 ≤ z) = true := by simpa using h1
      have e2 : decide (z < (n : Int)) = false := by simpa using h2
      go_enter Tryd.func102, Tryd.ntmps102
      go_wp2
      go_ret
      exact ⟨rfl, rfl⟩
  · have hs : inI z 0 ((n : Int) - 1) = false := by unfold inI; simp; omega
    rw [hs]; clear hs
    have e1 : decide (0 ≤ z) = false := by simpa using h1
    go_enter Tryd.func102, Tryd.ntmps102
    go_wp2
    go_ret
    exact ⟨rfl, rfl⟩
set_option maxRecDepth 100000 in
set_option maxHeartbeats 8000000 in
theorem seq_impl (ao : Option Addr) (n c q cap M : Nat) (zs : List Lf) (cs : List Int) (w : World) (hB : lfsB zs = true) (hn : n ≤ 16) (hM : cs.length = M) (hM2 : M ≤ 1048576) (hv : LfsV w ao n zs) (hq : IsAt w q cs) :
    Calls Tryd.prog 72 #[.slice ao n c, .slice (some ⟨q, 0, none⟩) M cap] w fun e w' => e = .returned (.bool (isqB zs cs)) ∧ Below w.heap.size w w' := by
  have HV := Lib.hid hv
  have HQ := Lib.hid hq
  have HZ := Lib.hid hv.1
  have HM := Lib.hid hM
  have HLN := Lib.hid (fun j hj => lfN_of ((lfsB_ok hB).2 j hj).1)
  have HNO := Lib.hid (fun k (hk : k < cs.length) h => isq_no (zs := zs) hk h)
  have HYS := Lib.hid (fun (h0 : 0 < cs.length) h => isq_yes (zs := zs) hB h0 h)
  have HSQ := Lib.hid (fun j => show sqB zs cs j = (inI (cs.getD j 0) 0 ((zs.length : Int) - 1) && (decide (j = 0) || nxB zs (cs.getD (j - 1) 0) (cs.getD j 0))) from rfl)
  have HE := Lib.hid (show cs.length = 0 → isqB zs cs = false by intro h; unfold isqB; rw [h]; simp)
  clear hv hq hB hM
  go_enter Tryd.func72, Tryd.ntmps72
  go_wp2
  go_loopw [5, 6, 9] (fun u5 u6 iv wr => ∃ k : Nat, k ≤ M ∧ iv = .int .i64 k ∧ Hid (∀ j, j < k → sqB zs cs j = true) ∧ Hid (Below w.heap.size w wr)) (fun _ _ i _ => M - (intOf i).toNat)
  case atStart => exact ⟨0, by omega, rfl, Lib.hid (fun j hj => absurd hj (by omega)), Lib.hid (Below.refl _ _)⟩
  case round =>
    obtain ⟨k, hk, rfl, hi, hb⟩ := hrel
    by_cases hlt : k < M
    · have hkc : k < cs.length := by have := HM.out; omega
      have HQk := Lib.hid (HQ.out.below hb.out)
      have HVk := Lib.hid (HV.out.below hb.out)
      have hqw := HQk.out.1
      have ck := HQk.out.2 k hkc
      have HSK := Lib.hid (HSQ.out k)
      have HNK := Lib.hid (HNO.out k hkc)
      obtain ⟨x, hx⟩ : ∃ x, cs.getD k 0 = x := ⟨_, rfl⟩
      rw [hx] at ck HSK
      have HX := Lib.hid hx
      clear hx hkc
      rw [← HZ.out] at HSK
      cases hin : inI x 0 ((n : Int) - 1) with
      | false =>
        have HR := Lib.hid (show isqB zs cs = false from HNK.out (by rw [HSK.out, hin]; rfl))
        go_wp2_with fail
        refine (isIndexL_any x ao n c _).mono ?_
        rintro e w2 ⟨rfl, rfl⟩
        rw [hin]
        go_wp2
        go_ret
        exact ⟨ret_bool' HR.out.symm, hb.out⟩
      | true =>
        have hx2 := inIb.1 hin
        obtain ⟨a, rfl⟩ : ∃ a : Nat, x = (a : Int) := ⟨x.toNat, by omega⟩
        have han : a < n := by omega
        have HIN := Lib.hid hin
        clear hx2 hin
        by_cases h0 : k = 0
        · have hd0 : ¬ 0 < k := by omega
          have hd1 : decide (0 < k) = false := by simpa using hd0
          have hd2 : decide ((0 : Int) < (k : Int)) = false := by simp; omega
          have HS1 := Lib.hid (show sqB zs cs k = true by rw [HSK.out, HIN.out, decide_eq_true h0]; rfl)
          clear h0
          go_wp2_with fail
          refine (isIndexL_any (a : Int) ao n c _).mono ?_
          rintro e w2 ⟨rfl, rfl⟩
          rw [HIN.out]
          go_wp2
          go_roundw
          case rel => exact ⟨k + 1, by omega, by go_num, Lib.hid (fun j hj => (Nat.lt_succ_iff_lt_or_eq.1 hj).elim (hi.out j) (fun e => by subst e; exact HS1.out)), hb⟩
          case measure => simp [intOf]; omega
        · have hd0 : 0 < k := by omega
          have hd1 : decide (0 < k) = true := by simpa using hd0
          have hd2 : decide ((0 : Int) < (k : Int)) = true := by simp; omega
          have hkm : IntKind.i64.wrap ((k : Int) - 1) = ((k - 1 : Nat) : Int) := by rw [IntWalk.i64_in _ (by omega)]; omega
          have cp := HQk.out.2 (k - 1) (by have := HM.out; omega)
          obtain ⟨y, hy⟩ : ∃ y, cs.getD (k - 1) 0 = y := ⟨_, rfl⟩
          have hyin : inI y 0 ((n : Int) - 1) = true := by
            have h1 := hi.out (k - 1) (by omega)
            rw [HSQ.out (k - 1), Bool.and_eq_true, hy, ← HZ.out] at h1
            exact h1.1
          have hy2 := inIb.1 hyin
          obtain ⟨d, rfl⟩ : ∃ d : Nat, y = (d : Int) := ⟨y.toNat, by omega⟩
          have hdn : d < n := by omega
          rw [hy] at cp HSK
          have hk1 : k - 1 < M := by omega
          have HNX := Lib.hid (show sqB zs cs k = nxN zs d a by rw [HSK.out, HIN.out, decide_eq_false h0]; simp [nxB])
          have HC := Lib.hid (fun w' (hb' : Below w.heap.size w w') => next_impl ao n c zs d a w' hdn han (by omega) (HV.out.below hb') (HLN.out d (by rw [← HZ.out]; exact hdn)))
          clear hyin hy2 hy h0
          go_wp2_with fail
          refine (isIndexL_any (a : Int) ao n c _).mono ?_
          rintro e w2 ⟨rfl, rfl⟩
          rw [HIN.out]
          go_wp2_with fail
          refine (HC.out _ hb.out).mono ?_
          rintro e w2 ⟨rfl, g2⟩
          have HG2 := Lib.hid (hb.out.trans (g2.mono hb.out.size))
          clear g2
          cases hnx : nxN zs d a with
          | false =>
            have HR := Lib.hid (show isqB zs cs = false from HNK.out (by rw [HNX.out, hnx]))
            go_wp2
            go_ret
            exact ⟨ret_bool' HR.out.symm, HG2.out⟩
          | true =>
            have HS1 := Lib.hid (show sqB zs cs k = true by rw [HNX.out, hnx])
            go_wp2
            go_roundw
            case rel => exact ⟨k + 1, by omega, by go_num, Lib.hid (fun j hj => (Nat.lt_succ_iff_lt_or_eq.1 hj).elim (hi.out j) (fun e => by subst e; exact HS1.out)), HG2⟩
            case measure => simp [intOf]; omega
    · obtain rfl : k = M := by omega
      by_cases h0 : k = 0
      · have HR := Lib.hid (show isqB zs cs = false from HE.out (by rw [HM.out]; exact h0))
        subst h0
        go_wp2
        go_ret
        exact ⟨ret_bool' HR.out.symm, hb.out⟩
      · have HR := Lib.hid (show isqB zs cs = true from HYS.out (by rw [HM.out]; omega) (by rw [HM.out]; exact hi.out))
        have hd2 : decide ((0 : Int) < (k : Int)) = true := by simp; omega
        have hd3 : 0 < k := by omega
        go_wp2
        go_ret
        exact ⟨ret_bool' HR.out.symm, hb.out⟩
set_option maxRecDepth 100000 in
set_option maxHeartbeats 4000000 in
theorem isq_impl (ao : Option Addr) (n c q cap M : Nat) (zs : List Lf) (cs : List Int) (w : World) (hn : n ≤ 1048576) (hM : cs.length = M) (hM2 : M ≤ 1048576) (hv : LfsV w ao n zs) (hq : IsAt w q cs) (ht : TabAt w) :
    Calls Tryd.prog 30 #[.slice ao n c, .slice (some ⟨q, 0, none⟩) M cap] w fun e w' => e = .returned (.bool (isqB zs cs)) ∧ Below w.heap.size w w' := by
  have HV := Lib.hid hv
  have HQ := Lib.hid hq
  have HT := Lib.hid ht
  have HZ := Lib.hid hv.1
  clear hv hq ht
  cases hB : lfsB zs with
  | false =>
    have HR := Lib.hid (show isqB zs cs = false by unfold isqB; rw [hB]; rfl)
    rw [HR.out]
    go_enter Tryd.func30, Tryd.ntmps30
    go_wp2_with fail
    refine (validLs_impl ao n c zs _ hn HV.out HT.out).mono ?_
    rintro e w1 ⟨rfl, g1⟩
    have HG := Lib.hid g1
    clear g1
    rw [hB]
    go_wp2
    go_ret
    exact ⟨rfl, HG.out⟩
  | true =>
    have hn16 : n ≤ 16 := by have := (lfsB_ok hB).1; have := HZ.out; omega
    have HBB := Lib.hid hB
    go_enter Tryd.func30, Tryd.ntmps30
    go_wp2_with fail
    refine (validLs_impl ao n c zs _ hn HV.out HT.out).mono ?_
    rintro e w1 ⟨rfl, g1⟩
    have HG := Lib.hid g1
    clear g1
    rw [hB]
    go_wp2_with fail
    refine (seq_impl ao n c q cap M zs cs _ HBB.out hn16 hM hM2 (HV.out.below HG.out) (HQ.out.below HG.out)).mono ?_
    rintro e w2 ⟨rfl, g2⟩
    have HG2 := Lib.hid (bseq HG.out g2)
    clear g2
    go_wp2
    go_ret
    exact ⟨rfl, HG2.out⟩
set_option maxRecDepth 100000 in
set_option maxHeartbeats 16000000 in
theorem isq_spec (ao : Option Addr) (n c q cap M : Nat) (zs : List Lf) (cs : List Int) (w : World) (hn : n ≤ 1048576) (hM : cs.length = M) (hM2 : M ≤ 1048576) (hv : LfsV w ao n zs) (hq : IsAt w q cs) :
    Calls Tryd.prog 28 #[.slice ao n c, .slice (some ⟨q, 0, none⟩) M cap] w fun e w' => e = .returned (.bool (isqB zs cs)) ∧ Below w.heap.size w w' := by
  have HV := Lib.hid hv
  have HQ := Lib.hid hq
  have HZ := Lib.hid hv.1
  have HM := Lib.hid hM
  have HE := Lib.hid (show cs.length = 0 → isqB zs cs = false by intro h; unfold isqB; rw [h]; simp)
  clear hv hq hM
  cases hB : lfsB zs with
  | false =>
    have HR := Lib.hid (show isqB zs cs = false by unfold isqB; rw [hB]; rfl)
    rw [HR.out]
    go_enter Tryd.func28, Tryd.ntmps28
    go_wp2_with fail
    refine (validLs_spec ao n c zs _ hn HV.out).mono ?_
    rintro e w1 ⟨rfl, g1⟩
    have HG := Lib.hid g1
    clear g1
    rw [hB]
    go_wp2
    go_ret
    exact ⟨rfl, HG.out⟩
  | true =>
    have hn16 : n ≤ 16 := by have := (lfsB_ok hB).1; have := HZ.out; omega
    have HLN := Lib.hid (fun j hj => lfN_of ((lfsB_ok hB).2 j hj).1)
    have HNO := Lib.hid (fun k (hk : k < cs.length) h => isq_no (zs := zs) hk h)
    have HYS := Lib.hid (fun (h0 : 0 < cs.length) h => isq_yes (zs := zs) hB h0 h)
    have HSQ := Lib.hid (fun j => show sqB zs cs j = (inI (cs.getD j 0) 0 ((zs.length : Int) - 1) && (decide (j = 0) || nxB zs (cs.getD (j - 1) 0) (cs.getD j 0))) from rfl)
    by_cases hM0 : M = 0
    · have HR := Lib.hid (show isqB zs cs = false from HE.out (by rw [HM.out]; exact hM0))
      subst hM0
      rw [HR.out]
      go_enter Tryd.func28, Tryd.ntmps28
      go_wp2_with fail
      refine (validLs_spec ao n c zs _ hn HV.out).mono ?_
      rintro e w1 ⟨rfl, g1⟩
      have HG := Lib.hid g1
      clear g1
      rw [hB]
      go_wp2
      go_ret
      exact ⟨rfl, HG.out⟩
    have hM1 : ((M : Int) == 0) = false := by simp; omega
    have hM3 : decide ((M : Int) = 0) = false := by simp; omega
    have hM4 : ¬ ((M : Int) = 0) := by omega
    have ew : IntKind.i64.wrap ((n : Int) - 1) = (n : Int) - 1 := IntWalk.i64_in _ (by omega)
    go_enter Tryd.func28, Tryd.ntmps28
    go_wp2_with fail
    refine (validLs_spec ao n c zs _ hn HV.out).mono ?_
    rintro e w1 ⟨rfl, g1⟩
    have HG := Lib.hid g1
    clear g1
    rw [hB]
    go_wp2
    go_loopw [5] (fun iv wr => ∃ k : Nat, k ≤ M ∧ iv = .int .i64 k ∧ Hid (∀ j, j < k → sqB zs cs j = true) ∧ Hid (Below w.heap.size w wr)) (fun i _ => M - (intOf i).toNat)
    case atStart => exact ⟨0, by omega, rfl, Lib.hid (fun j hj => absurd hj (by omega)), HG⟩
    case round =>
      obtain ⟨k, hk, rfl, hi, hb⟩ := hrel
      by_cases hlt : k < M
      · have hkc : k < cs.length := by have := HM.out; omega
        have HQk := Lib.hid (HQ.out.below hb.out)
        have HVk := Lib.hid (HV.out.below hb.out)
        have hqw := HQk.out.1
        have ck := HQk.out.2 k hkc
        have HSK := Lib.hid (HSQ.out k)
        have HNK := Lib.hid (HNO.out k hkc)
        obtain ⟨x, hx⟩ : ∃ x, cs.getD k 0 = x := ⟨_, rfl⟩
        rw [hx] at ck HSK
        have HX := Lib.hid hx
        clear hx hkc
        rw [← HZ.out] at HSK
        cases hin : inI x 0 ((n : Int) - 1) with
        | false =>
          have HR := Lib.hid (show isqB zs cs = false from HNK.out (by rw [HSK.out, hin]; rfl))
          go_wp2_with fail
          refine (in_any _ _ _ _).mono ?_
          rintro e w2 ⟨rfl, rfl⟩
          rw [hin]
          go_wp2
          go_ret
          exact ⟨ret_bool' HR.out.symm, hb.out⟩
        | true =>
          have hx2 := inIb.1 hin
          obtain ⟨a, rfl⟩ : ∃ a : Nat, x = (a : Int) := ⟨x.toNat, by omega⟩
          have han : a < n := by omega
          obtain ⟨b, rfl, hbw, a1, a2⟩ := lfs_cells HVk.out han
          have HIN := Lib.hid hin
          clear hx2 hin
          by_cases h0 : k = 0
          · have hd0 : ¬ 0 < k := by omega
            have hd1 : decide (0 < k) = false := by simpa using hd0
            have hd2 : decide ((0 : Int) < (k : Int)) = false := by simp; omega
            have HS1 := Lib.hid (show sqB zs cs k = true by rw [HSK.out, HIN.out, decide_eq_true h0]; rfl)
            clear h0
            go_wp2_with fail
            refine (in_any _ _ _ _).mono ?_
            rintro e w2 ⟨rfl, rfl⟩
            rw [HIN.out]
            go_wp2
            refine wp_region_below (by kernel_rfl) (by kernel_rfl) ?_
            repeat (first | (refine wq_val ?_ ?_; (focus (go_simp; done)); apply Exists.intro; refine ⟨fun w1 hw1 => ?_, ?_⟩; (obtain ⟨hc, hf⟩ := bcell hw1; clear hw1; go_simp; (first | done | with_reducible rfl | (with_reducible exact eql2 _ _ _) | (with_reducible exact neq2 _ _ _))); (try simp only [Act.put, List.setIfInBounds_toArray, List.set_cons_zero, List.set_cons_succ])) | (refine wq_skip ?_ ?_; (focus (go_simp; (first | done | (simp [undef]; done)))); (try simp only [Act.put, List.setIfInBounds_toArray, List.set_cons_zero, List.set_cons_succ])))
            refine wq_nil ?_
            intro w3 hb3
            have HB3 := Lib.hid (hb.out.trans (hb3.mono hb.out.size))
            clear hb3
            go_wp2
            go_roundw
            case rel => exact ⟨k + 1, by omega, by go_num, Lib.hid (fun j hj => (Nat.lt_succ_iff_lt_or_eq.1 hj).elim (hi.out j) (fun e => by subst e; exact HS1.out)), HB3⟩
            case measure => simp [intOf]; omega
          · have hd0 : 0 < k := by omega
            have hd1 : decide (0 < k) = true := by simpa using hd0
            have hd2 : decide ((0 : Int) < (k : Int)) = true := by simp; omega
            have hkm : IntKind.i64.wrap ((k : Int) - 1) = ((k - 1 : Nat) : Int) := by rw [IntWalk.i64_in _ (by omega)]; omega
            have cp := HQk.out.2 (k - 1) (by have := HM.out; omega)
            obtain ⟨y, hy⟩ : ∃ y, cs.getD (k - 1) 0 = y := ⟨_, rfl⟩
            have hyin : inI y 0 ((n : Int) - 1) = true := by
              have h1 := hi.out (k - 1) (by omega)
              rw [HSQ.out (k - 1), Bool.and_eq_true, hy, ← HZ.out] at h1
              exact h1.1
            have hy2 := inIb.1 hyin
            obtain ⟨d, rfl⟩ : ∃ d : Nat, y = (d : Int) := ⟨y.toNat, by omega⟩
            have hdn : d < n := by omega
            rw [hy] at cp HSK
            have hk1 : k - 1 < M := by omega
            obtain ⟨b', hb', _, d1, d2⟩ := lfs_cells HVk.out hdn
            have hbb : b = b' := by simpa using hb'
            subst hbb
            have hu := (HLN.out d (by rw [← HZ.out]; exact hdn)).nu
            have HNX := Lib.hid (show sqB zs cs k = (((zs.getD a lf0).fl.toList == (zs.getD d lf0).fl.toList) && ((zs.getD a lf0).nu == (zs.getD d lf0).nu + 1)) by rw [HSK.out, HIN.out, decide_eq_false h0]; simp [nxB, nxN])
            obtain ⟨fa, hfa⟩ : ∃ q, (zs.getD a lf0).fl = q := ⟨_, rfl⟩
            obtain ⟨fd, hfd⟩ : ∃ q, (zs.getD d lf0).fl = q := ⟨_, rfl⟩
            obtain ⟨ua, hua⟩ : ∃ q, (zs.getD a lf0).nu = q := ⟨_, rfl⟩
            obtain ⟨ud, hud⟩ : ∃ q, (zs.getD d lf0).nu = q := ⟨_, rfl⟩
            rw [hfa] at a1
            rw [hfd] at d1
            rw [hua] at a2
            rw [hud] at d2 hu
            rw [hfa, hfd, hua, hud] at HNX
            clear hyin hy2 hy h0 hb' hfa hfd hua hud
            have e1 : IntKind.i64.wrap (ud + 1) = ud + 1 := IntWalk.i64_in _ (by omega)
            cases hF : (fa.toList == fd.toList) with
            | false =>
              have hF2 : (fa.toList != fd.toList) = true := by simp only [bne, hF]; rfl
              have HR := Lib.hid (show isqB zs cs = false from HNK.out (by rw [HNX.out, hF]; rfl))
              go_wp2_with fail
              refine (in_any _ _ _ _).mono ?_
              rintro e w2 ⟨rfl, rfl⟩
              rw [HIN.out]
              go_wp2
              refine wp_region_below (by kernel_rfl) (by kernel_rfl) ?_
              repeat (first | (refine wq_val ?_ ?_; (focus (go_simp; done)); apply Exists.intro; refine ⟨fun w1 hw1 => ?_, ?_⟩; (obtain ⟨hc, hf⟩ := bcell hw1; clear hw1; go_simp; (first | done | with_reducible rfl | (with_reducible exact eql2 _ _ _) | (with_reducible exact neq2 _ _ _))); (try simp only [Act.put, List.setIfInBounds_toArray, List.set_cons_zero, List.set_cons_succ])) | (refine wq_skip ?_ ?_; (focus (go_simp; (first | done | (simp [undef]; done)))); (try simp only [Act.put, List.setIfInBounds_toArray, List.set_cons_zero, List.set_cons_succ])))
              refine wq_nil ?_
              intro w3 hb3
              have HB3 := Lib.hid (hb.out.trans (hb3.mono hb.out.size))
              clear hb3
              go_wp2
              go_ret
              exact ⟨ret_bool' HR.out.symm, HB3.out⟩
            | true =>
              have hF2 : (fa.toList != fd.toList) = false := by simp only [bne, hF]; rfl
              cases hU : (ua == ud + 1) with
              | false =>
                have hU2 : (ua != ud + 1) = true := by simp only [bne, hU]; rfl
                have hU3 : decide (ua = ud + 1) = false := by simpa using hU
                have HR := Lib.hid (show isqB zs cs = false from HNK.out (by rw [HNX.out, hF, hU]; rfl))
                go_wp2_with fail
                refine (in_any _ _ _ _).mono ?_
                rintro e w2 ⟨rfl, rfl⟩
                rw [HIN.out]
                go_wp2
                refine wp_region_below (by kernel_rfl) (by kernel_rfl) ?_
                repeat (first | (refine wq_val ?_ ?_; (focus (go_simp; done)); apply Exists.intro; refine ⟨fun w1 hw1 => ?_, ?_⟩; (obtain ⟨hc, hf⟩ := bcell hw1; clear hw1; go_simp; (first | done | with_reducible rfl | (with_reducible exact eql2 _ _ _) | (with_reducible exact neq2 _ _ _))); (try simp only [Act.put, List.setIfInBounds_toArray, List.set_cons_zero, List.set_cons_succ])) | (refine wq_skip ?_ ?_; (focus (go_simp; (first | done | (simp [undef]; done)))); (try simp only [Act.put, List.setIfInBounds_toArray, List.set_cons_zero, List.set_cons_succ])))
                refine wq_nil ?_
                intro w3 hb3
                have HB3 := Lib.hid (hb.out.trans (hb3.mono hb.out.size))
                clear hb3
                go_wp2
                go_ret
                exact ⟨ret_bool' HR.out.symm, HB3.out⟩
              | true =>
                have hU2 : (ua != ud + 1) = false := by simp only [bne, hU]; rfl
                have hU3 : decide (ua = ud + 1) = true := by simpa using hU
                have HS1 := Lib.hid (show sqB zs cs k = true by rw [HNX.out, hF, hU]; rfl)
                go_wp2_with fail
                refine (in_any _ _ _ _).mono ?_
                rintro e w2 ⟨rfl, rfl⟩
                rw [HIN.out]
                go_wp2
                refine wp_region_below (by kernel_rfl) (by kernel_rfl) ?_
                repeat (first | (refine wq_val ?_ ?_; (focus (go_simp; done)); apply Exists.intro; refine ⟨fun w1 hw1 => ?_, ?_⟩; (obtain ⟨hc, hf⟩ := bcell hw1; clear hw1; go_simp; (first | done | with_reducible rfl | (with_reducible exact eql2 _ _ _) | (with_reducible exact neq2 _ _ _))); (try simp only [Act.put, List.setIfInBounds_toArray, List.set_cons_zero, List.set_cons_succ])) | (refine wq_skip ?_ ?_; (focus (go_simp; (first | done | (simp [undef]; done)))); (try simp only [Act.put, List.setIfInBounds_toArray, List.set_cons_zero, List.set_cons_succ])))
                refine wq_nil ?_
                intro w3 hb3
                have HB3 := Lib.hid (hb.out.trans (hb3.mono hb.out.size))
                clear hb3
                go_wp2
                go_roundw
                case rel => exact ⟨k + 1, by omega, by go_num, Lib.hid (fun j hj => (Nat.lt_succ_iff_lt_or_eq.1 hj).elim (hi.out j) (fun e => by subst e; exact HS1.out)), HB3⟩
                case measure => simp [intOf]; omega
      · obtain rfl : k = M := by omega
        have HR := Lib.hid (show isqB zs cs = true from HYS.out (by rw [HM.out]; omega) (by rw [HM.out]; exact hi.out))
        go_wp2
        go_ret
        exact ⟨ret_bool' HR.out.symm, hb.out⟩
end Go.Proofs.YtcjpplijbdfgbaaDoor
