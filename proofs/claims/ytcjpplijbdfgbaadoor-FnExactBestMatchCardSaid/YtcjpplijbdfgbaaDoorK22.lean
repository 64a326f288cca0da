/- Several texts in one: Mat6, Mat7, Mat8, Mat9. -/
import Derived.Test.YtcjpplijbdfgbaaDoorMat1
import Derived.Test.YtcjpplijbdfgbaaDoorK19
import Derived.Test.YtcjpplijbdfgbaaDoorMat5
import Derived.Test.YtcjpplijbdfgbaaDoorSql1
import Derived.Test.YtcjpplijbdfgbaaDoorK11
import Derived.Test.YtcjpplijbdfgbaaDoorK18
import Derived.BigRegion
import Derived.StillTailTactics
namespace Go.Proofs.YtcjpplijbdfgbaaDoor
open Seq2 Go.ChangeShapes Go.WideShapes Go.ChangeAt Go.RowKit
set_option linter.unusedVariables false
set_option linter.unusedSimpArgs false

def scE (zs : List Lf) (K : Nat) (bk : Bool) (j : Nat) : Int := scI (zs.getD K lf0) (zs.getD j lf0) bk
/-- The best one of the first m, and its score. -/
def bmS (zs : List Lf) (K : Nat) (bk : Bool) : Nat → Int × Int
  | 0 => (-1, 0)
  | m + 1 => if m = K then bmS zs K bk m else if (bmS zs K bk m).1 < 0 ∨ scE zs K bk m < (bmS zs K bk m).2 then ((m : Int), scE zs K bk m) else bmS zs K bk m
theorem bmS_eq (zs : List Lf) (K : Nat) (bk : Bool) : bmS zs K bk (K + 1) = bmS zs K bk K := by rw [bmS, if_pos rfl]
theorem bmS_yes {zs : List Lf} {K m : Nat} {bk : Bool} (hm : ¬ m = K) (h : (bmS zs K bk m).1 < 0 ∨ scE zs K bk m < (bmS zs K bk m).2) : bmS zs K bk (m + 1) = ((m : Int), scE zs K bk m) := by rw [bmS, if_neg hm, if_pos h]
theorem bmS_no {zs : List Lf} {K m : Nat} {bk : Bool} (hm : ¬ m = K) (h : ¬ ((bmS zs K bk m).1 < 0 ∨ scE zs K bk m < (bmS zs K bk m).2)) : bmS zs K bk (m + 1) = bmS zs K bk m := by rw [bmS, if_neg hm, if_neg h]
/-- There is none yet just if all so far are the one itself. -/
theorem bmS_none (zs : List Lf) (K : Nat) (bk : Bool) : ∀ m, (bmS zs K bk m).1 < 0 ↔ ∀ j, j < m → j = K
  | 0 => by simp [bmS]
  | m + 1 => by
    have ih := bmS_none zs K bk m
    by_cases hm : m = K
    · rw [show bmS zs K bk (m + 1) = bmS zs K bk m by rw [bmS, if_pos hm], ih]
      exact ⟨fun h j hj => (Nat.lt_succ_iff_lt_or_eq.1 hj).elim (h j) (fun e => e.trans hm), fun h j hj => h j (by omega)⟩
    · by_cases hc : (bmS zs K bk m).1 < 0 ∨ scE zs K bk m < (bmS zs K bk m).2
      · rw [bmS_yes hm hc]
        exact ⟨fun h => by simp only at h; omega, fun h => absurd (h m (by omega)) hm⟩
      · rw [bmS_no hm hc]
        exact ⟨fun h => absurd (Or.inl h) hc, fun h => absurd (h m (by omega)) hm⟩
def bmR (zs : List Lf) (k : Int) (bk : Bool) : Int × Int × Int :=
  if lfsB zs then (if inI k 0 ((zs.length : Int) - 1) then (if (bmS zs k.toNat bk zs.length).1 < 0 then (0, 0, 3) else ((bmS zs k.toNat bk zs.length).1, (bmS zs k.toNat bk zs.length).2, 0)) else (0, 0, 2)) else (0, 0, 1)
theorem lfsB_N {zs : List Lf} (h : lfsB zs = true) : ∀ j, j < zs.length → LfN (zs.getD j lf0) := fun j hj => lfN_of ((lfsB_ok h).2 j hj).1
set_option maxRecDepth 100000 in
set_option maxHeartbeats 16000000 in
theorem bst_spec (ao : Option Addr) (n c : Nat) (zs : List Lf) (k : Int) (bk : Bool) (w : World) (hn : n ≤ 1048576) (hv : LfsV w ao n zs) :
    Calls Tryd.prog 24 #[.slice ao n c, .int .i64 k, .bool bk] w fun e w' => e = .returned (.tuple #[.int .i64 ((bmR zs k bk).1), .int .i64 ((bmR zs k bk).2.1), .int .i64 ((bmR zs k bk).2.2)]) ∧ Below w.heap.size w w' := by
  have HV := Lib.hid hv
  have HZ := Lib.hid hv.1
  clear hv
  cases hB : lfsB zs with
  | false =>
    have HR := Lib.hid (show bmR zs k bk = (0, 0, 1) by unfold bmR; rw [hB]; rfl)
    rw [HR.out]
    go_enter Tryd.func24, Tryd.ntmps24
    go_wp2_with fail
    refine (validLs_spec ao n c zs _ hn HV.out).mono ?_
    rintro e w1 ⟨rfl, g1⟩
    have HG := Lib.hid g1
    clear g1
    rw [hB]
    go_wp2
    exact bodyPost_ret (v := .tuple #[.int .i64 0, .int .i64 0, .int .i64 1]) (by simp [results, Tryd.results24, go_sem]) rfl ⟨rfl, HG.out⟩
  | true =>
    have hn16 : n ≤ 16 := by have := (lfsB_ok hB).1; have := HZ.out; omega
    have HLN := Lib.hid (lfsB_N hB)
    have ew : IntKind.i64.wrap ((n : Int) - 1) = (n : Int) - 1 := IntWalk.i64_in _ (by omega)
    cases hin : inI k 0 ((n : Int) - 1) with
    | false =>
      have HR := Lib.hid (show bmR zs k bk = (0, 0, 2) by unfold bmR; rw [hB, if_pos rfl, ← HZ.out, hin]; rfl)
      rw [HR.out]
      go_enter Tryd.func24, Tryd.ntmps24
      go_wp2_with fail
      refine (validLs_spec ao n c zs _ hn HV.out).mono ?_
      rintro e w1 ⟨rfl, g1⟩
      have HG := Lib.hid g1
      clear g1
      rw [hB]
      go_wp2_with fail
      refine (in_any _ _ _ _).mono ?_
      rintro e w2 ⟨rfl, rfl⟩
      rw [hin]
      go_wp2
      exact bodyPost_ret (v := .tuple #[.int .i64 0, .int .i64 0, .int .i64 2]) (by simp [results, Tryd.results24, go_sem]) rfl ⟨rfl, HG.out⟩
    | true =>
      have hk := inIb.1 hin
      obtain ⟨K, rfl⟩ : ∃ K : Nat, k = (K : Int) := ⟨k.toNat, by omega⟩
      have hK : K < n := by omega
      have HR0 := Lib.hid (show bmR zs (K : Int) bk = if (bmS zs K bk n).1 < 0 then (0, 0, 3) else ((bmS zs K bk n).1, (bmS zs K bk n).2, 0) by unfold bmR; rw [hB, if_pos rfl, ← HZ.out, hin, if_pos rfl, Int.toNat_natCast])
      have HNO := Lib.hid (fun m (h : ¬ m = K) h2 => bmS_no (zs := zs) (bk := bk) h h2)
      have HYS := Lib.hid (fun m (h : ¬ m = K) h2 => bmS_yes (zs := zs) (bk := bk) h h2)
      have HEQ := Lib.hid (bmS_eq zs K bk)
      have HS0 := Lib.hid (show bmS zs K bk 0 = (-1, 0) from rfl)
      have HIN := Lib.hid hin
      clear hk hin
      go_enter Tryd.func24, Tryd.ntmps24
      go_wp2_with fail
      refine (validLs_spec ao n c zs _ hn HV.out).mono ?_
      rintro e w1 ⟨rfl, g1⟩
      have HG := Lib.hid g1
      clear g1
      rw [hB]
      go_wp2_with fail
      refine (in_any _ _ _ _).mono ?_
      rintro e w2 ⟨rfl, rfl⟩
      rw [HIN.out]
      go_wp2
      clear ew
      go_loopw [9, 10, 11, 12] (fun bv lv iv vv wr => ∃ m : Nat, m ≤ n ∧ iv = .int .i64 m ∧ bv = .int .i64 (bmS zs K bk m).1 ∧ lv = .int .i64 (bmS zs K bk m).2 ∧ Hid (Below w.heap.size w wr)) (fun _ _ i _ _ => n - (intOf i).toNat)
      case atStart => exact ⟨0, by omega, rfl, by rw [HS0.out], by rw [HS0.out], HG⟩
      case round =>
        obtain ⟨m, hm, rfl, rfl, rfl, hb⟩ := hrel
        by_cases hlt : m < n
        · obtain ⟨b, rfl, hcs⟩ := (HV.out.below hb.out).2.resolve_left (by omega)
          have HAK := Lib.hid (show LfAt wr b (K * 9) (zs.getD K lf0) from hcs K hK)
          have HAM := Lib.hid (show LfAt wr b (m * 9) (zs.getD m lf0) from hcs m hlt)
          clear hcs
          by_cases hmk : m = K
          · subst hmk
            have h1 : ((m : Int) == (m : Int)) = true := by simp
            go_wp2
            go_roundw
            case rel => exact ⟨m + 1, by omega, by go_num, by rw [HEQ.out], by rw [HEQ.out], hb⟩
            case measure => simp [intOf]; omega
          · have h1 : ((m : Int) == (K : Int)) = false := by simp; omega
            have h2 : decide ((m : Int) = (K : Int)) = false := by simp; omega
            have HNK := Lib.hid (HLN.out K (by rw [← HZ.out]; exact hK))
            have HNM := Lib.hid (HLN.out m (by rw [← HZ.out]; exact hlt))
            have HYM := Lib.hid (HYS.out m hmk)
            have HNM2 := Lib.hid (HNO.out m hmk)
            have HSC := Lib.hid (show scI (zs.getD K lf0) (zs.getD m lf0) bk = scE zs K bk m from rfl)
            obtain ⟨s, hs⟩ : ∃ s, scE zs K bk m = s := ⟨_, rfl⟩
            obtain ⟨p1, hp1⟩ : ∃ s, (bmS zs K bk m).1 = s := ⟨_, rfl⟩
            obtain ⟨p2, hp2⟩ : ∃ s, (bmS zs K bk m).2 = s := ⟨_, rfl⟩
            rw [hs, hp1, hp2] at HYM HNM2
            rw [hs] at HSC
            have HP := Lib.hid (And.intro hp1 hp2)
            rw [hp1, hp2]
            clear hs hp1 hp2
            have hmk2 := Lib.hid hmk
            clear hmk
            obtain ⟨B1, hB1⟩ : ∃ B, decide (p1 < 0) = B := ⟨_, rfl⟩
            obtain ⟨B2, hB2⟩ : ∃ B, decide (s < p2) = B := ⟨_, rfl⟩
            have HBB := Lib.hid (And.intro hB1 hB2)
            go_wp2
            refine wp_region_below (by kernel_rfl) (by kernel_rfl) ?_
            repeat (first | (refine wq_val ?_ ?_; (focus (go_simp; done)); apply Exists.intro; refine ⟨fun w1 hw1 => ?_, ?_⟩; (obtain ⟨hc, hf⟩ := bcell hw1; clear hw1; go_simp; (first | done | with_reducible rfl | (with_reducible exact eql2 _ _ _) | (with_reducible exact neq2 _ _ _))); (try simp only [Act.put, List.setIfInBounds_toArray, List.set_cons_zero, List.set_cons_succ])) | (refine wq_skip ?_ ?_; (focus (go_simp; (first | done | (simp [undef]; done)))); (try simp only [Act.put, List.setIfInBounds_toArray, List.set_cons_zero, List.set_cons_succ])) | (refine wq_call 64 ?_ ?_; (focus (go_simp; done)); apply Exists.intro; refine ⟨fun w1 hw1 => ?_, ?_⟩; (focus (clear hw1; go_simp; (first | done | with_reducible rfl))); apply Exists.intro; refine ⟨fun w1 hw1 => ?_, ?_⟩; (focus (exact calls_below hw1 (by have h := score_spec b (K * 9) b (m * 9) _ _ bk w1 (HAK.out.below hw1) (HAM.out.below hw1) HNK.out HNM.out; rw [HSC.out] at h; exact h); done)); (try simp only [Act.put, List.setIfInBounds_toArray, List.set_cons_zero, List.set_cons_succ])))
            refine wq_nil ?_
            intro w3 hb3
            have HB3 := Lib.hid (hb.out.trans (hb3.mono hb.out.size))
            clear hb3
            cases B1 <;> cases B2
            · have HNX := Lib.hid (HNM2.out (fun h => h.elim (of_decide_eq_false HBB.out.1) (of_decide_eq_false HBB.out.2)))
              go_wp2
              go_roundw
              case rel => exact ⟨m + 1, by omega, by go_num, by rw [HNX.out, HP.out.1], by rw [HNX.out, HP.out.2], HB3⟩
              case measure => simp [intOf]; omega
            · have HNX := Lib.hid (HYM.out (Or.inr (of_decide_eq_true HBB.out.2)))
              go_wp2
              go_roundw
              case rel => exact ⟨m + 1, by omega, by go_num, by rw [HNX.out], by rw [HNX.out], HB3⟩
              case measure => simp [intOf]; omega
            · have HNX := Lib.hid (HYM.out (Or.inl (of_decide_eq_true HBB.out.1)))
              go_wp2
              go_roundw
              case rel => exact ⟨m + 1, by omega, by go_num, by rw [HNX.out], by rw [HNX.out], HB3⟩
              case measure => simp [intOf]; omega
            · have HNX := Lib.hid (HYM.out (Or.inl (of_decide_eq_true HBB.out.1)))
              go_wp2
              go_roundw
              case rel => exact ⟨m + 1, by omega, by go_num, by rw [HNX.out], by rw [HNX.out], HB3⟩
              case measure => simp [intOf]; omega
        · obtain rfl : m = n := by omega
          obtain ⟨p1, hp1⟩ : ∃ s, (bmS zs K bk m).1 = s := ⟨_, rfl⟩
          obtain ⟨p2, hp2⟩ : ∃ s, (bmS zs K bk m).2 = s := ⟨_, rfl⟩
          rw [hp1, hp2] at HR0 ⊢
          clear hp1 hp2
          cases hd : decide (p1 < 0) with
          | true =>
            have HR := Lib.hid (HR0.out.trans (if_pos (by simpa using hd)))
            go_wp2
            exact bodyPost_ret (v := .tuple #[.int .i64 0, .int .i64 0, .int .i64 3]) (by simp [results, Tryd.results24, go_sem]) rfl ⟨by rw [HR.out], hb.out⟩
          | false =>
            have HR := Lib.hid (HR0.out.trans (if_neg (by simpa using hd)))
            go_wp2
            exact bodyPost_ret (v := .tuple #[.int .i64 p1, .int .i64 p2, .int .i64 0]) (by simp [results, Tryd.results24, go_sem]) rfl ⟨by rw [HR.out], hb.out⟩
end Go.Proofs.YtcjpplijbdfgbaaDoor
namespace Go.Proofs.YtcjpplijbdfgbaaDoor
open Seq2 Go.ChangeShapes Go.WideShapes Go.ChangeAt Go.RowKit
set_option linter.unusedVariables false
set_option linter.unusedSimpArgs false

def scL (zs : List Lf) (K : Nat) (bk : Bool) (n : Nat) : List Int := (List.range n).map (scE zs K bk)
theorem scL_len (zs : List Lf) (K : Nat) (bk : Bool) (n : Nat) : (scL zs K bk n).length = n := by simp [scL]
theorem scL_get (zs : List Lf) (K : Nat) (bk : Bool) {n j : Nat} (h : j < n) : (scL zs K bk n).getD j 0 = scE zs K bk j := by
  rw [List.getD_eq_getElem?_getD, List.getElem?_eq_getElem (by rw [scL_len]; exact h)]
  simp [scL]
theorem row_below {w w' : World} {g n : Nat} {t : TypeId} {f : Nat → Value} (h : w.rowIs g t n f) (hb : Below w.heap.size w w') : w'.rowIs g t n f := by
  obtain ⟨c, h1, h2, h3⟩ := h
  exact ⟨c, (hb.block _ (blk_lt h1)).trans h1, h2, h3⟩
theorem nine_at {w : World} {b o : Nat} {c0 c1 c2 c3 c4 c5 c6 c7 c8 : Value} (h : AtV w b o (.agg #[c0, c1, c2, c3, c4, c5, c6, c7, c8])) : b < w.heap.size ∧ w.cell? ⟨b, o, none⟩ = some c0 ∧ w.cell? ⟨b, o + 1, none⟩ = some c1 ∧ w.cell? ⟨b, o + 2, none⟩ = some c2 ∧ w.cell? ⟨b, o + 3, none⟩ = some c3 ∧ w.cell? ⟨b, o + 4, none⟩ = some c4 ∧ w.cell? ⟨b, o + 5, none⟩ = some c5 ∧ w.cell? ⟨b, o + 6, none⟩ = some c6 ∧ w.cell? ⟨b, o + 7, none⟩ = some c7 ∧ w.cell? ⟨b, o + 8, none⟩ = some c8 :=
  ⟨h.1, h.at 0 rfl, h.at 1 rfl, h.at 2 rfl, h.at 3 rfl, h.at 4 rfl, h.at 5 rfl, h.at 6 rfl, h.at 7 rfl, h.at 8 rfl⟩
set_option maxRecDepth 100000 in
set_option maxHeartbeats 16000000 in
theorem scores_impl (ao : Option Addr) (n c K : Nat) (zs : List Lf) (bk : Bool) (w : World) (hB : lfsB zs = true) (hn16 : n ≤ 16) (hK : K < n) (hv : LfsV w ao n zs) :
    Calls Tryd.prog 103 #[.slice ao n c, .int .i64 K, .bool bk] w fun e w' => ∃ g, e = .returned (.slice (some ⟨g, 0, none⟩) n n) ∧ w.heap.size ≤ g ∧ IsAt w' g (scL zs K bk n) ∧ Below w.heap.size w w' := by
  have HV := Lib.hid hv
  have HZ := Lib.hid hv.1
  have HLB := Lib.hid (fun j hj => ((lfsB_ok hB).2 j hj).1)
  have HGT := Lib.hid (fun j (hj : j < n) => scL_get zs K bk hj)
  have HLL := Lib.hid (scL_len zs K bk n)
  clear hv hB
  have hmk := make_ints n (by omega)
  obtain ⟨q, hq⟩ : ∃ q, w.heap.size = q := ⟨_, rfl⟩
  go_enter Tryd.func103, Tryd.ntmps103
  go_wp2
  clear hmk
  have HR0 := Lib.hid (made_ints w n (scL zs K bk n) 2)
  have HB0 := Lib.hid (one_alloc (w := w) (.cells (madeCells #[.int .i64 0] n) 2))
  have HQ := Lib.hid hq
  rw [hq] at HR0
  clear hq
  go_loopw [8, 9, 15] (fun u8 u9 iv wr => ∃ k : Nat, k ≤ n ∧ iv = .int .i64 k ∧ Hid (wr.rowIs q 2 n (inF (scL zs K bk n) k)) ∧ Hid (Below w.heap.size w wr)) (fun _ _ i _ => n - (intOf i).toNat)
  case atStart => exact ⟨0, by omega, rfl, HR0, HB0⟩
  case round =>
    obtain ⟨k, hk, rfl, hr, hb⟩ := hrel
    by_cases hlt : k < n
    · obtain ⟨b, rfl, hcs⟩ := (HV.out.below hb.out).2.resolve_left (by omega)
      obtain ⟨vK, hvK, haK⟩ := hcs K hK
      obtain ⟨vM, hvM, haM⟩ := hcs k hlt
      have HVK := Lib.hid hvK
      have HVM := Lib.hid hvM
      obtain ⟨aoK, nK, cK, rfl, _, _, _, _, _, _, _, _, _⟩ := hvK.out
      obtain ⟨aoM, nM, cM, rfl, _, _, _, _, _, _, _, _, _⟩ := hvM.out
      have HBK := Lib.hid (HLB.out K (by rw [← HZ.out]; exact hK))
      have HBM := Lib.hid (HLB.out k (by rw [← HZ.out]; exact hlt))
      have HE := Lib.hid (HGT.out k hlt)
      have HSE := Lib.hid (show scI (zs.getD K lf0) (zs.getD k lf0) bk = scE zs K bk k from rfl)
      obtain ⟨yK, hyK⟩ : ∃ y, zs.getD K lf0 = y := ⟨_, rfl⟩
      obtain ⟨yM, hyM⟩ : ∃ y, zs.getD k lf0 = y := ⟨_, rfl⟩
      obtain ⟨s, hs⟩ : ∃ s, scE zs K bk k = s := ⟨_, rfl⟩
      rw [hyK] at HVK HBK HSE haK
      rw [hyM] at HVM HBM HSE haM
      rw [hs] at HSE HE
      clear hcs hvK hvM hyK hyM hs
      have HAK := Lib.hid haK
      obtain ⟨hbw, m0, m1, m2, m3, m4, m5, m6, m7, m8⟩ := nine_at haM
      have HA1 := Lib.hid (one_alloc (w := wr) (.cells #[.string yM.id, .string yM.fl, .int .i64 yM.nu, .string yM.ve.1, .int .i64 yM.ve.2.1, .int .i64 yM.ve.2.2, .int .i64 yM.wd, .int .i64 yM.ln, .slice aoM nM cM] 33))
      have HX1 := Lib.hid (World.alloc_heap_new wr (.cells #[.string yM.id, .string yM.fl, .int .i64 yM.nu, .string yM.ve.1, .int .i64 yM.ve.2.1, .int .i64 yM.ve.2.2, .int .i64 yM.wd, .int .i64 yM.ln, .slice aoM nM cM] 33))
      go_wp2
      clear haK haM m0 m1 m2 m3 m4 m5 m6 m7 m8 hbw
      have HK3 := HAK.out.below HA1.out
      have HVK3 := Lib.hid (HVK.out.below HA1.out)
      have HVM3 := Lib.hid (HVM.out.below HA1.out)
      have HR3 := Lib.hid (row_below hr.out HA1.out)
      have HB3 := Lib.hid (bseq hb.out HA1.out)
      have hqr : q < wr.heap.size := hr.out.lt
      generalize hwq : wr.alloc (.cells #[.string yM.id, .string yM.fl, .int .i64 yM.nu, .string yM.ve.1, .int .i64 yM.ve.2.1, .int .i64 yM.ve.2.2, .int .i64 yM.wd, .int .i64 yM.ln, .slice aoM nM cM] 33) = w3 at *
      have HSC := Lib.hid (fun w1 (h : Below w3.heap.size w3 w1) => score_impl _ _ yK yM bk w1 (HVK3.out.below h) (HVM3.out.below h) HBK.out HBM.out)
      rw [HSE.out] at HSC
      have HWQ := Lib.hid hwq
      clear hwq
      obtain ⟨hbw, m0, m1, m2, m3, m4, m5, m6, m7, m8⟩ := nine_at HK3
      obtain ⟨hxz, c0, f0, c1, f1, c2, f2, c3, f3, c4, f4, c5, f5, c6, f6, c7, f7, c8, f8⟩ := cells9_of HX1.out
      clear HK3
      refine wp_region_plan_tail 1 [10] [.val 0 [] (.slice (some ⟨q, 0, none⟩) n n), .val 1 [] (.int .i64 k), .val 2 [] (.slice (some ⟨b, 0, none⟩) n c), .val 3 [] (.int .i64 K), .val 4 [] (.pointer (some ⟨b, K * 9, none⟩)), .val 5 [] (.agg #[.string yK.id, .string yK.fl, .int .i64 yK.nu, .string yK.ve.1, .int .i64 yK.ve.2.1, .int .i64 yK.ve.2.2, .int .i64 yK.wd, .int .i64 yK.ln, .slice aoK nK cK]), .val 6 [] (.agg #[.string yM.id, .string yM.fl, .int .i64 yM.nu, .string yM.ve.1, .int .i64 yM.ve.2.1, .int .i64 yM.ve.2.2, .int .i64 yM.wd, .int .i64 yM.ln, .slice aoM nM cM]), .val 7 [] (.bool bk), .val 8 [] (.int .i64 s), .val 9 [] (.pointer (some ⟨q, k, none⟩))] (by kernel_rfl) (by kernel_rfl) rfl ?_
      refine plan_val (by kernel_rfl) (by kernel_rfl) (by kernel_rfl) (by go_simp) (fun w1 hw1 => ?_) ?_
      · obtain ⟨hc, hf⟩ := bcell hw1; clear hw1; go_simp; (try with_reducible rfl)
      (try simp only [Act.put, List.setIfInBounds_toArray, List.set_cons_zero, List.set_cons_succ])
      refine plan_val (by kernel_rfl) (by kernel_rfl) (by kernel_rfl) (by go_simp) (fun w1 hw1 => ?_) ?_
      · obtain ⟨hc, hf⟩ := bcell hw1; clear hw1; go_simp; (try with_reducible rfl)
      (try simp only [Act.put, List.setIfInBounds_toArray, List.set_cons_zero, List.set_cons_succ])
      refine plan_val (by kernel_rfl) (by kernel_rfl) (by kernel_rfl) (by go_simp) (fun w1 hw1 => ?_) ?_
      · obtain ⟨hc, hf⟩ := bcell hw1; clear hw1; go_simp; (try with_reducible rfl)
      (try simp only [Act.put, List.setIfInBounds_toArray, List.set_cons_zero, List.set_cons_succ])
      refine plan_val (by kernel_rfl) (by kernel_rfl) (by kernel_rfl) (by go_simp) (fun w1 hw1 => ?_) ?_
      · obtain ⟨hc, hf⟩ := bcell hw1; clear hw1; go_simp; (try with_reducible rfl)
      (try simp only [Act.put, List.setIfInBounds_toArray, List.set_cons_zero, List.set_cons_succ])
      refine plan_val (by kernel_rfl) (by kernel_rfl) (by kernel_rfl) (by go_simp) (fun w1 hw1 => ?_) ?_
      · obtain ⟨hc, hf⟩ := bcell hw1; clear hw1; go_simp; (try with_reducible rfl)
      (try simp only [Act.put, List.setIfInBounds_toArray, List.set_cons_zero, List.set_cons_succ])
      refine plan_val (by kernel_rfl) (by kernel_rfl) (by kernel_rfl) (by go_simp) (fun w1 hw1 => ?_) ?_
      · obtain ⟨hc, hf⟩ := bcell hw1; clear hw1; go_simp; (try with_reducible rfl)
      (try simp only [Act.put, List.setIfInBounds_toArray, List.set_cons_zero, List.set_cons_succ])
      refine plan_val (by kernel_rfl) (by kernel_rfl) (by kernel_rfl) (by go_simp) (fun w1 hw1 => ?_) ?_
      · obtain ⟨hc, hf⟩ := bcell hw1; clear hw1; go_simp; (try with_reducible rfl)
      (try simp only [Act.put, List.setIfInBounds_toArray, List.set_cons_zero, List.set_cons_succ])
      refine plan_val (by kernel_rfl) (by kernel_rfl) (by kernel_rfl) (by go_simp) (fun w1 hw1 => ?_) ?_
      · obtain ⟨hc, hf⟩ := bcell hw1; clear hw1; go_simp; (try with_reducible rfl)
      (try simp only [Act.put, List.setIfInBounds_toArray, List.set_cons_zero, List.set_cons_succ])
      refine plan_call [] 65 #[.agg #[.string yK.id, .string yK.fl, .int .i64 yK.nu, .string yK.ve.1, .int .i64 yK.ve.2.1, .int .i64 yK.ve.2.2, .int .i64 yK.wd, .int .i64 yK.ln, .slice aoK nK cK], .agg #[.string yM.id, .string yM.fl, .int .i64 yM.nu, .string yM.ve.1, .int .i64 yM.ve.2.1, .int .i64 yM.ve.2.2, .int .i64 yM.wd, .int .i64 yM.ln, .slice aoM nM cM], .bool bk] (by kernel_rfl) (by kernel_rfl) (by kernel_rfl) (by kernel_rfl) (by go_simp) (fun w1 hw1 => ?_) (fun w1 hC => ?_) ?_
      · clear hw1; go_simp; (try with_reducible rfl)
      · exact (HSC.out w1 hC.1).mono (fun e w2 h => h)
      (try simp only [Act.put, List.setIfInBounds_toArray, List.set_cons_zero, List.set_cons_succ])
      refine plan_val (by kernel_rfl) (by kernel_rfl) (by kernel_rfl) (by go_simp) (fun w1 hw1 => ?_) ?_
      · obtain ⟨hc, hf⟩ := bcell hw1; clear hw1; go_simp; (try with_reducible rfl)
      (try simp only [Act.put, List.setIfInBounds_toArray, List.set_cons_zero, List.set_cons_succ])
      refine plan_tail_w (by kernel_rfl) (by kernel_rfl) rfl (fun w4 hC => ?_)
      have HR4 := Lib.hid (row_below HR3.out hC.1)
      have HB4 := Lib.hid (bseq HB3.out hC.1)
      have hgw := HR4.out.lt
      have d0 := HR4.out.cell (i := k) (by omega)
      rw [inF, if_neg (by omega)] at d0
      have fz := HR4.out.frozen k
      have HST := Lib.hid (inF_step HE.out)
      clear hC m0 m1 m2 m3 m4 m5 m6 m7 m8 hbw hxz c0 f0 c1 f1 c2 f2 c3 f3 c4 f4 c5 f5 c6 f6 c7 f7 c8 f8
      gi_wp2
      go_wp2
      go_roundw
      case rel => exact ⟨k + 1, by omega, by go_num, Lib.hid ((HR4.out.set k _).congr (fun j _ => HST.out j)), Lib.hid (HB4.out.setCell (by show w.heap.size ≤ q; rw [HQ.out]; exact Nat.le_refl _) _)⟩
      case measure => simp [intOf]; omega
    · obtain rfl : k = n := by omega
      have HI := Lib.hid (show IsAt wr q (scL zs K bk k) from ⟨hr.out.lt, fun j hj => by
        rw [HLL.out] at hj
        have h1 := hr.out.cell (i := j) hj
        rw [inF, if_pos hj] at h1
        exact h1⟩)
      go_wp2
      go_ret
      exact ⟨_, rfl, by rw [HQ.out]; exact Nat.le_refl _, HI.out, hb.out⟩
end Go.Proofs.YtcjpplijbdfgbaaDoor
namespace Go.Proofs.YtcjpplijbdfgbaaDoor
open Seq2 Go.ChangeShapes Go.WideShapes Go.ChangeAt Go.RowKit
set_option linter.unusedVariables false
set_option linter.unusedSimpArgs false

def mbI (p : Int × Int) : Int × Int := if p.1 < 0 then (0, 9223372036854775807) else p
def bmO (E : ErrA) (zs : List Lf) (k : Int) (bk : Bool) (n : Nat) : (Int × Int) × Value :=
  if inI k 0 ((n : Int) - 1) then (if (bmS zs k.toNat bk n).1 < 0 then ((0, 0), esV E.n) else (bmS zs k.toNat bk n, .nilIface)) else ((0, 0), esV E.r)
theorem mb_yes {zs : List Lf} {K m : Nat} {bk : Bool} {s : Int} (hm : ¬ m = K) (hs : scE zs K bk m = s) (h : s < (mbI (bmS zs K bk m)).2) : mbI (bmS zs K bk (m + 1)) = ((m : Int), s) := by
  have h2 : (bmS zs K bk m).1 < 0 ∨ scE zs K bk m < (bmS zs K bk m).2 := by
    unfold mbI at h
    split at h
    · rename_i hn; exact Or.inl hn
    · rw [hs]; exact Or.inr h
  rw [bmS_yes hm h2, hs]
  unfold mbI
  rw [if_neg (by simp only; omega)]
theorem mb_no {zs : List Lf} {K m : Nat} {bk : Bool} {s : Int} (hm : ¬ m = K) (hs : scE zs K bk m = s) (h2 : s ≤ 2000) (h : ¬ s < (mbI (bmS zs K bk m)).2) : bmS zs K bk (m + 1) = bmS zs K bk m := by
  refine bmS_no hm (fun h3 => h ?_)
  unfold mbI
  rcases h3 with h3 | h3
  · rw [if_pos h3]; show s < 9223372036854775807; omega
  · split
    · show s < 9223372036854775807; omega
    · rw [← hs]; exact h3
theorem one_two (w : World) (x y : Obj) : ((w.alloc x).alloc y).heap[w.heap.size]? = some x ∧ ((w.alloc x).alloc y).heap[w.heap.size + 1]? = some y := by
  have h1 := (Below.heap_alloc (w.alloc x) y w.heap.size (by simp)).trans (World.alloc_heap_new w x)
  have h2 := World.alloc_heap_new (w.alloc x) y
  rw [show (w.alloc x).heap.size = w.heap.size + 1 by simp] at h2
  exact ⟨h1, h2⟩
theorem cell_oth {w : World} {a : Addr} {v : Value} {g j : Nat} (h : g ≠ a.block) : (w.setCell a v).cell? ⟨g, j, none⟩ = w.cell? ⟨g, j, none⟩ := by
  have e := Below.heap_setCell w a v g h
  unfold World.cell?
  simp only [e]
theorem isAt_oth {w : World} {a : Addr} {v : Value} {g : Nat} {zs : List Int} (hi : IsAt w g zs) (h : g ≠ a.block) : IsAt (w.setCell a v) g zs :=
  ⟨by have := hi.1; simpa using this, fun j hj => (cell_oth h).trans (hi.2 j hj)⟩
set_option maxRecDepth 100000 in
set_option maxHeartbeats 16000000 in
theorem best_impl (E : ErrA) (ao : Option Addr) (n c : Nat) (k : Int) (zs : List Lf) (bk : Bool) (w : World) (hB : lfsB zs = true) (hn16 : n ≤ 16) (hv : LfsV w ao n zs) (he : Errs w E) :
    Calls Tryd.prog 71 #[.slice ao n c, .int .i64 k, .bool bk] w fun e w' => e = .returned (.tuple #[.agg #[.int .i64 ((bmO E zs k bk n).1.1), .int .i64 ((bmO E zs k bk n).1.2)], (bmO E zs k bk n).2]) ∧ Below w.heap.size w w' := by
  have HZ := Lib.hid hv.1
  have HA := Lib.hid (one_alloc (w := w) (.cells #[.int .i64 0, .int .i64 0] 97))
  have HV := Lib.hid (hv.below HA.out)
  have HE := Lib.hid (he.below HA.out)
  have HLN := Lib.hid (lfsB_N hB)
  have HB := Lib.hid hB
  clear hv he hB
  cases hin : inI k 0 ((n : Int) - 1) with
  | false =>
    have HR := Lib.hid (show bmO E zs k bk n = ((0, 0), esV E.r) by unfold bmO; rw [hin]; rfl)
    rw [HR.out]
    have e0 := HE.out.R.cell
    have l0 := HE.out.R.lt
    go_enter Tryd.func71, Tryd.ntmps71
    go_wp2_with fail
    refine (isIndexL_any k ao n c _).mono ?_
    rintro e w1 ⟨rfl, rfl⟩
    rw [hin]
    go_wp2
    go_region
    go_wp2
    refine bodyPost_ret (v := .tuple #[.agg #[.int .i64 0, .int .i64 0], esV E.r]) (by simp [results, Tryd.results71, go_sem, esV]) rfl ⟨rfl, ?_⟩
    first | exact bel_drew HA.out | exact HA.out | exact bel_drew ((HA.out.setCell (p := ⟨w.heap.size, 0, none⟩) (Nat.le_refl _) _).setCell (p := ⟨w.heap.size, 1, none⟩) (Nat.le_refl _) _)
  | true =>
    have hk := inIb.1 hin
    obtain ⟨K, rfl⟩ : ∃ K : Nat, k = (K : Int) := ⟨k.toNat, by omega⟩
    have hK : K < n := by omega
    have HO := Lib.hid (show bmO E zs (K : Int) bk n = if (bmS zs K bk n).1 < 0 then ((0, 0), esV E.n) else (bmS zs K bk n, .nilIface) by unfold bmO; rw [hin, if_pos rfl, Int.toNat_natCast])
    have HIN := Lib.hid hin
    clear hk hin
    by_cases h1 : n = 1
    · subst h1
      have HR := Lib.hid (HO.out.trans (if_pos ((bmS_none zs K bk 1).2 (fun j hj => by omega))))
      rw [HR.out]
      have e0 := HE.out.N.cell
      have l0 := HE.out.N.lt
      go_enter Tryd.func71, Tryd.ntmps71
      go_wp2_with fail
      refine (isIndexL_any (K : Int) ao 1 c _).mono ?_
      rintro e w1 ⟨rfl, rfl⟩
      rw [HIN.out]
      go_wp2
      go_region
      go_wp2
      refine bodyPost_ret (v := .tuple #[.agg #[.int .i64 0, .int .i64 0], esV E.n]) (by simp [results, Tryd.results71, go_sem, esV]) rfl ⟨rfl, ?_⟩
      first | exact bel_drew HA.out | exact HA.out | exact bel_drew ((HA.out.setCell (p := ⟨w.heap.size, 0, none⟩) (Nat.le_refl _) _).setCell (p := ⟨w.heap.size, 1, none⟩) (Nat.le_refl _) _)
    · have hnn : ¬ (bmS zs K bk n).1 < 0 := fun h => by
        have h2 := (bmS_none zs K bk n).1 h
        have h3 := h2 0 (by omega)
        have h4 := h2 1 (by omega)
        omega
      have HR := Lib.hid (HO.out.trans (if_neg hnn))
      have HMB := Lib.hid (show mbI (bmS zs K bk n) = bmS zs K bk n from if_neg hnn)
      rw [HR.out]
      have hd1 : ((n : Int) == 1) = false := by simp; omega
      have hd2 : decide ((n : Int) = 1) = false := by simp; omega
      have HA2 := Lib.hid (two_allocs (w := w) (.cells #[.int .i64 0, .int .i64 0] 97) (.cells #[.int .i64 0, .int .i64 9223372036854775807] 97))
      have H12 := Lib.hid (one_two w (.cells #[.int .i64 0, .int .i64 0] 97) (.cells #[.int .i64 0, .int .i64 9223372036854775807] 97))
      have HV2 := Lib.hid (HV.out.below (one_alloc (.cells #[.int .i64 0, .int .i64 9223372036854775807] 97)))
      have HYS := Lib.hid (fun m s (hm : ¬ m = K) hs h => mb_yes (zs := zs) (bk := bk) (m := m) (s := s) hm hs h)
      have HNO := Lib.hid (fun m s (hm : ¬ m = K) hs h2 h => mb_no (zs := zs) (bk := bk) (m := m) (s := s) hm hs h2 h)
      have HEQ := Lib.hid (bmS_eq zs K bk)
      have HS0 := Lib.hid (show mbI (bmS zs K bk 0) = (0, 9223372036854775807) from rfl)
      have HGT := Lib.hid (fun j (hj : j < n) => scL_get zs K bk hj)
      have HLL := Lib.hid (scL_len zs K bk n)
      clear hnn h1
      go_enter Tryd.func71, Tryd.ntmps71
      go_wp2_with fail
      refine (isIndexL_any (K : Int) ao n c _).mono ?_
      rintro e w1 ⟨rfl, rfl⟩
      rw [HIN.out]
      go_wp2_with fail
      refine (scores_impl ao n c K zs bk _ HB.out hn16 hK HV2.out).mono ?_
      rintro e w1 ⟨g, rfl, hge, hI, g1⟩
      have HG := Lib.hid (bseq HA2.out g1)
      have HI := Lib.hid hI
      have HGE := Lib.hid (show w.heap.size + 1 + 1 ≤ g by simpa using hge)
      clear hge
      have HX := Lib.hid ((g1.block _ (blk_lt H12.out.1)).trans H12.out.1)
      have HP := Lib.hid ((g1.block _ (blk_lt H12.out.2)).trans H12.out.2)
      have HGG := Lib.hid g1
      clear hI g1 hd1 hd2
      go_wp2
      go_loopw [9, 10, 28] (fun u9 u10 iv wr => ∃ m : Nat, m ≤ n ∧ iv = .int .i64 m ∧ Hid (wr.heap[w.heap.size]? = some (.cells #[.int .i64 0, .int .i64 0] 97 (0, 0))) ∧ Hid (wr.heap[w.heap.size + 1]? = some (.cells #[.int .i64 (mbI (bmS zs K bk m)).1, .int .i64 (mbI (bmS zs K bk m)).2] 97 (0, 0))) ∧ Hid (IsAt wr g (scL zs K bk n)) ∧ Hid (Below w.heap.size w wr)) (fun _ _ i _ => n - (intOf i).toNat)
      case atStart => exact ⟨0, by omega, rfl, HX, Lib.hid (by rw [HS0.out]; exact HP.out), HI, HG⟩
      case round =>
        obtain ⟨m, hm, rfl, hx, hp, hi, hb⟩ := hrel
        by_cases hlt : m < n
        · have hgw := hi.out.1
          have cm := hi.out.2 m (by rw [HLL.out]; exact hlt)
          rw [HGT.out m hlt] at cm
          have hps := blk_lt hp.out
          obtain ⟨p0, y0, p1, y1⟩ := cells2_of hp.out
          have hrng := scI_rng (HLN.out K (by rw [← HZ.out]; exact hK)) (HLN.out m (by rw [← HZ.out]; exact hlt)) bk
          have HSE := Lib.hid (show scI (zs.getD K lf0) (zs.getD m lf0) bk = scE zs K bk m from rfl)
          rw [HSE.out] at hrng
          by_cases hmk : m = K
          · subst hmk
            have h1 : ((m : Int) != (m : Int)) = false := by simp
            have HPE := Lib.hid (show wr.heap[w.heap.size + 1]? = some (.cells #[.int .i64 (mbI (bmS zs m bk (m + 1))).1, .int .i64 (mbI (bmS zs m bk (m + 1))).2] 97 (0, 0)) by rw [HEQ.out]; exact hp.out)
            go_wp2
            go_roundw
            case rel => exact ⟨m + 1, by omega, by go_num, hx, HPE, hi, hb⟩
            case measure => simp [intOf]; omega
          · have h1 : ((m : Int) != (K : Int)) = true := by simp; omega
            have h3 : decide ((m : Int) = (K : Int)) = false := by simp; omega
            obtain ⟨s, hs⟩ : ∃ s, scE zs K bk m = s := ⟨_, rfl⟩
            have HYM := Lib.hid (HYS.out m s hmk hs)
            have HNM := Lib.hid (HNO.out m s hmk hs (by omega))
            rw [hs] at cm hrng
            obtain ⟨P, hP⟩ : ∃ P, mbI (bmS zs K bk m) = P := ⟨_, rfl⟩
            have HPP := Lib.hid hP
            rw [hP] at p0 p1 hp HYM HNM
            clear hP hs hmk
            obtain ⟨q1, q2⟩ := P
            simp only at p0 p1 hp HYM HNM
            by_cases hlq : s < q2
            · have hd : decide (s < q2) = true := by simpa using hlq
              have HN := Lib.hid (HYM.out hlq)
              have k1 := heap_setCell_same _ _ 0 _ _ (.int .i64 (m : Int)) hp.out
              have k2 := heap_setCell_same _ _ 1 _ _ (.int .i64 s) k1
              have HP2 := Lib.hid (show ((wr.setCell ⟨w.heap.size + 1, 0, none⟩ (.int .i64 (m : Int))).setCell ⟨w.heap.size + 1, 1, none⟩ (.int .i64 s)).heap[w.heap.size + 1]? = some (.cells #[.int .i64 (mbI (bmS zs K bk (m + 1))).1, .int .i64 (mbI (bmS zs K bk (m + 1))).2] 97 (0, 0)) by rw [HN.out]; exact k2.trans (by simp))
              have HX2 := Lib.hid (show ((wr.setCell ⟨w.heap.size + 1, 0, none⟩ (.int .i64 (m : Int))).setCell ⟨w.heap.size + 1, 1, none⟩ (.int .i64 s)).heap[w.heap.size]? = some (.cells #[.int .i64 0, .int .i64 0] 97 (0, 0)) by rw [Below.heap_setCell _ _ _ _ (by simp), Below.heap_setCell _ _ _ _ (by simp)]; exact hx.out)
              have HB2 := Lib.hid ((hb.out.setCell (p := ⟨w.heap.size + 1, 0, none⟩) (Nat.le_succ _) (.int .i64 (m : Int))).setCell (p := ⟨w.heap.size + 1, 1, none⟩) (Nat.le_succ _) (.int .i64 s))
              have HI2 := Lib.hid (show IsAt ((wr.setCell ⟨w.heap.size + 1, 0, none⟩ (.int .i64 (m : Int))).setCell ⟨w.heap.size + 1, 1, none⟩ (.int .i64 s)) g (scL zs K bk n) from isAt_oth (isAt_oth hi.out (by show g ≠ w.heap.size + 1; have := HGE.out; omega)) (by show g ≠ w.heap.size + 1; have := HGE.out; omega))
              clear k1 k2
              go_wp2
              go_roundw
              case rel => exact ⟨m + 1, by omega, by go_num, HX2, HP2, HI2, HB2⟩
              case measure => simp [intOf]; omega
            · have hd : decide (s < q2) = false := by simpa using hlq
              have HN := Lib.hid (HNM.out (by omega))
              have HPE := Lib.hid (show wr.heap[w.heap.size + 1]? = some (.cells #[.int .i64 (mbI (bmS zs K bk (m + 1))).1, .int .i64 (mbI (bmS zs K bk (m + 1))).2] 97 (0, 0)) by rw [HN.out, HPP.out]; exact hp.out)
              go_wp2
              go_roundw
              case rel => exact ⟨m + 1, by omega, by go_num, hx, HPE, hi, hb⟩
              case measure => simp [intOf]; omega
        · obtain rfl : m = n := by omega
          rw [HMB.out] at hp
          have hps := blk_lt hp.out
          have hxs := blk_lt hx.out
          obtain ⟨p0, y0, p1, y1⟩ := cells2_of hp.out
          obtain ⟨x0, t0, x1, t1⟩ := cells2_of hx.out
          have HB2 := Lib.hid ((hb.out.setCell (p := ⟨w.heap.size, 0, none⟩) (Nat.le_refl _) (.int .i64 (bmS zs K bk m).1)).setCell (p := ⟨w.heap.size, 1, none⟩) (Nat.le_refl _) (.int .i64 (bmS zs K bk m).2))
          have k1 := heap_setCell_same _ _ 0 _ _ (.int .i64 (bmS zs K bk m).1) hx.out
          have k2 := heap_setCell_same _ _ 1 _ _ (.int .i64 (bmS zs K bk m).2) k1
          have k3 : ((wr.setCell ⟨w.heap.size, 0, none⟩ (.int .i64 (bmS zs K bk m).1)).setCell ⟨w.heap.size, 1, none⟩ (.int .i64 (bmS zs K bk m).2)).heap[w.heap.size]? = some (.cells #[.int .i64 (bmS zs K bk m).1, .int .i64 (bmS zs K bk m).2] 97 (0, 0)) := k2.trans (by simp)
          go_wp2
          obtain ⟨z0, z2, z1, z3⟩ := cells2_of k3
          refine bodyPost_ret (v := .tuple #[.agg #[.int .i64 ((bmS zs K bk m).1), .int .i64 ((bmS zs K bk m).2)], .nilIface]) ?_ rfl ⟨rfl, HB2.out⟩
          clear k1 k2 k3 p0 y0 p1 y1 x0 t0 x1 t1 z2 z3
          generalize World.setCell _ _ _ = W' at *
          simp [results, Tryd.results71, go_sem, z0, z1]
end Go.Proofs.YtcjpplijbdfgbaaDoor
namespace Go.Proofs.YtcjpplijbdfgbaaDoor
open Seq2 Go.ChangeShapes Go.WideShapes Go.ChangeAt Go.RowKit
set_option linter.unusedVariables false
set_option linter.unusedSimpArgs false

set_option maxRecDepth 100000 in
set_option maxHeartbeats 4000000 in
theorem wcm_no (fv : Value) (w : World) : Calls Tryd.prog 68 #[.bool false, fv] w fun e w' => e = .returned (.tuple #[.agg #[.int .i64 0, .int .i64 0], .int .i64 1]) ∧ Below w.heap.size w w' := by
  have HA := Lib.hid (two_allocs (w := w) (.cells #[.int .i64 0, .int .i64 0] 97) (.cells #[.int .i64 0, .int .i64 0] 97))
  go_enter Tryd.func68, Tryd.ntmps68
  go_wp2
  refine bodyPost_ret (v := .tuple #[.agg #[.int .i64 0, .int .i64 0], .int .i64 1]) ?_ rfl ⟨rfl, HA.out⟩
  simp [results, Tryd.results68, go_sem]
set_option maxRecDepth 100000 in
set_option maxHeartbeats 4000000 in
theorem wcm_ok (k0 k1 k2 : Value) (x y : Int) (w : World) (h : ∀ w', Below w.heap.size w w' → Calls Tryd.prog 70 #[k0, k1, k2] w' fun e w'' => e = .returned (.tuple #[.agg #[.int .i64 x, .int .i64 y], .nilIface]) ∧ Below w'.heap.size w' w'') :
    Calls Tryd.prog 68 #[.bool true, .func (.func 70) #[] #[k0, k1, k2]] w fun e w' => e = .returned (.tuple #[.agg #[.int .i64 x, .int .i64 y], .int .i64 0]) ∧ Below w.heap.size w w' := by
  have HA := Lib.hid (two_allocs (w := w) (.cells #[.int .i64 0, .int .i64 0] 97) (.cells #[.int .i64 0, .int .i64 0] 97))
  have HH := Lib.hid (h _ HA.out)
  have H12 := Lib.hid (one_two w (.cells #[.int .i64 0, .int .i64 0] 97) (.cells #[.int .i64 0, .int .i64 0] 97))
  clear h
  go_enter Tryd.func68, Tryd.ntmps68
  go_wp2_with fail
  refine (HH.out).mono ?_
  rintro e w1 ⟨rfl, g1⟩
  have HB1 := Lib.hid (bseq HA.out g1)
  have HB2 := Lib.hid (HB1.out.alloc HB1.out.size (.cells #[.int .i64 x, .int .i64 y] 97))
  have hk0 := (Below.heap_alloc w1 (.cells #[.int .i64 x, .int .i64 y] 97) w.heap.size (blk_lt ((g1.block _ (blk_lt H12.out.1)).trans H12.out.1))).trans ((g1.block _ (blk_lt H12.out.1)).trans H12.out.1)
  have hz0 := blk_lt hk0
  obtain ⟨c0, f0, c1, f1⟩ := cells2_of hk0
  have k1 := heap_setCell_same _ _ 0 _ _ (.int .i64 x) hk0
  have k2 := heap_setCell_same _ _ 1 _ _ (.int .i64 y) k1
  have k3 : (((w1.alloc (.cells #[.int .i64 x, .int .i64 y] 97)).setCell ⟨w.heap.size, 0, none⟩ (.int .i64 x)).setCell ⟨w.heap.size, 1, none⟩ (.int .i64 y)).heap[w.heap.size]? = some (.cells #[.int .i64 x, .int .i64 y] 97 (0, 0)) := k2.trans (by simp)
  have HBL := Lib.hid ((HB2.out.setCell (p := ⟨w.heap.size, 0, none⟩) (Nat.le_refl _) (.int .i64 x)).setCell (p := ⟨w.heap.size, 1, none⟩) (Nat.le_refl _) (.int .i64 y))
  clear g1
  go_wp2
  obtain ⟨z0, z2, z1, z3⟩ := cells2_of k3
  refine bodyPost_ret (v := .tuple #[.agg #[.int .i64 x, .int .i64 y], .int .i64 0]) ?_ rfl ⟨rfl, HBL.out⟩
  clear hk0 hz0 c0 f0 c1 f1 k1 k2 k3 z2 z3
  generalize World.setCell _ _ _ = W at *
  simp [results, Tryd.results68, go_sem, z0, z1]
set_option maxRecDepth 100000 in
set_option maxHeartbeats 4000000 in
theorem wcm_err (k0 k1 k2 : Value) (k : Int) (a : Addr) (w : World) (h : ∀ w', Below w.heap.size w w' → Calls Tryd.prog 70 #[k0, k1, k2] w' fun e w'' => e = .returned (.tuple #[.agg #[.int .i64 0, .int .i64 0], esV a]) ∧ Below w'.heap.size w' w'')
    (hc : ∀ w', Below w.heap.size w w' → Calls Tryd.prog 86 #[esV a] w' fun e w'' => e = .returned (.int .i64 k) ∧ w' = w'') :
    Calls Tryd.prog 68 #[.bool true, .func (.func 70) #[] #[k0, k1, k2]] w fun e w' => e = .returned (.tuple #[.agg #[.int .i64 0, .int .i64 0], .int .i64 k]) ∧ Below w.heap.size w w' := by
  have HA := Lib.hid (two_allocs (w := w) (.cells #[.int .i64 0, .int .i64 0] 97) (.cells #[.int .i64 0, .int .i64 0] 97))
  have HH := Lib.hid (h _ HA.out)
  have HC := Lib.hid hc
  have H12 := Lib.hid (one_two w (.cells #[.int .i64 0, .int .i64 0] 97) (.cells #[.int .i64 0, .int .i64 0] 97))
  unfold esV at HH HC
  clear h hc
  go_enter Tryd.func68, Tryd.ntmps68
  go_wp2_with fail
  refine (HH.out).mono ?_
  rintro e w1 ⟨rfl, g1⟩
  have HB1 := Lib.hid (bseq HA.out g1)
  have hA3 := one_alloc (w := w1) (.cells #[.int .i64 0, .int .i64 0] 97)
  have HB3 := Lib.hid (HB1.out.trans (hA3.mono HB1.out.size))
  have hk0 := (hA3.block _ (blk_lt ((g1.block _ (blk_lt H12.out.1)).trans H12.out.1))).trans ((g1.block _ (blk_lt H12.out.1)).trans H12.out.1)
  have hk1 := (hA3.block _ (blk_lt ((g1.block _ (blk_lt H12.out.2)).trans H12.out.2))).trans ((g1.block _ (blk_lt H12.out.2)).trans H12.out.2)
  clear g1 hA3
  go_wp2
  generalize w1.alloc _ = W at *
  have hzk := blk_lt hk1
  obtain ⟨s0, t0, s1, t1⟩ := cells2_of hk1
  refine wp_region_plan_tail 2 [3] [.val 0 [] (.agg #[.int .i64 0, .int .i64 0]), .val 1 [] (.iface 172 (.pointer (some a))), .val 2 [] (.int .i64 k)] (by kernel_rfl) (by kernel_rfl) rfl ?_
  refine plan_val (by kernel_rfl) (by kernel_rfl) (by kernel_rfl) (by go_simp) (fun w1 hw1 => ?_) ?_
  · obtain ⟨hc, hf⟩ := bcell hw1; clear hw1; go_simp; (try with_reducible rfl)
  (try simp only [Act.put, List.setIfInBounds_toArray, List.set_cons_zero, List.set_cons_succ])
  refine plan_val (by kernel_rfl) (by kernel_rfl) (by kernel_rfl) (by go_simp) (fun w1 hw1 => ?_) ?_
  · obtain ⟨hc, hf⟩ := bcell hw1; clear hw1; go_simp; (try with_reducible rfl)
  (try simp only [Act.put, List.setIfInBounds_toArray, List.set_cons_zero, List.set_cons_succ])
  refine plan_call [] 86 #[.iface 172 (.pointer (some a))] (by kernel_rfl) (by kernel_rfl) (by kernel_rfl) (by kernel_rfl) (by go_simp) (fun w1 hw1 => ?_) (fun w1 hC => ?_) ?_
  · clear hw1; go_simp; (try with_reducible rfl)
  · exact (HC.out w1 (HB3.out.trans (hC.1.mono HB3.out.size))).mono (fun e w2 h => ⟨h.1, h.2 ▸ Below.refl _ _⟩)
  (try simp only [Act.put, List.setIfInBounds_toArray, List.set_cons_zero, List.set_cons_succ])
  refine plan_tail_w (by kernel_rfl) (by kernel_rfl) rfl (fun w4 hC => ?_)
  have hk4 := (hC.1.block _ (blk_lt hk0)).trans hk0
  have HB4 := Lib.hid (HB3.out.trans (hC.1.mono HB3.out.size))
  clear hC s0 t0 s1 t1 hzk
  have hz4 := blk_lt hk4
  obtain ⟨c0, f0, c1, f1⟩ := cells2_of hk4
  have k1 := heap_setCell_same _ _ 0 _ _ (.int .i64 0) hk4
  have k2 := heap_setCell_same _ _ 1 _ _ (.int .i64 0) k1
  have k3 : ((w4.setCell ⟨w.heap.size, 0, none⟩ (.int .i64 0)).setCell ⟨w.heap.size, 1, none⟩ (.int .i64 0)).heap[w.heap.size]? = some (.cells #[.int .i64 0, .int .i64 0] 97 (0, 0)) := k2.trans (by simp)
  have HBL := Lib.hid ((HB4.out.setCell (p := ⟨w.heap.size, 0, none⟩) (Nat.le_refl _) (.int .i64 0)).setCell (p := ⟨w.heap.size, 1, none⟩) (Nat.le_refl _) (.int .i64 0))
  gi_wp2
  obtain ⟨z0, z2, z1, z3⟩ := cells2_of k3
  go_wp2
  refine bodyPost_ret (v := .tuple #[.agg #[.int .i64 0, .int .i64 0], .int .i64 k]) ?_ rfl ⟨rfl, HBL.out⟩
  clear hk0 hk1 hk4 hz4 c0 f0 c1 f1 k1 k2 k3 z2 z3
  generalize World.setCell _ _ _ = W' at *
  simp [results, Tryd.results68, go_sem, z0, z1]
set_option maxRecDepth 100000 in
set_option maxHeartbeats 8000000 in
theorem clo_bm (q p1 p2 : Nat) (E : ErrA) (ao : Option Addr) (n c : Nat) (k : Int) (zs : List Lf) (bk : Bool) (w : World) (hB : lfsB zs = true) (hn : n ≤ 16) (hv : LfsV w ao n zs) (he : Errs w E)
    (hq : w.heap[q]? = some (.cells #[.slice ao n c] 51 (0, 0))) (h1 : w.heap[p1]? = some (.cells #[.int .i64 k] 2 (0, 0))) (h2 : w.heap[p2]? = some (.cells #[.bool bk] 4 (0, 0))) :
    Calls Tryd.prog 70 #[.pointer (some ⟨q, 0, none⟩), .pointer (some ⟨p1, 0, none⟩), .pointer (some ⟨p2, 0, none⟩)] w fun e w' => e = .returned (.tuple #[.agg #[.int .i64 ((bmO E zs k bk n).1.1), .int .i64 ((bmO E zs k bk n).1.2)], (bmO E zs k bk n).2]) ∧ Below w.heap.size w w' := by
  have hA := one_alloc (w := w) (.cells #[.int .i64 0, .int .i64 0] 97)
  have HA := Lib.hid hA
  have HX := Lib.hid (World.alloc_heap_new w (.cells #[.int .i64 0, .int .i64 0] 97))
  have HC := Lib.hid (best_impl E ao n c k zs bk _ hB hn (hv.below hA) (he.below hA))
  have hz := blk_lt hq
  have a0 := (cell_of_arr hq (j := 0) rfl).1
  have hz1 := blk_lt h1
  have b0 := (cell_of_arr h1 (j := 0) rfl).1
  have hz2 := blk_lt h2
  have d0 := (cell_of_arr h2 (j := 0) rfl).1
  clear hA hB hv he hq h1 h2
  obtain ⟨⟨⟨r0, r1⟩, rv⟩, hR⟩ : ∃ R, bmO E zs k bk n = R := ⟨_, rfl⟩
  have hN : rv = .nilIface ∨ ∃ a, rv = esV a := by
    have h := hR
    unfold bmO at h
    split at h
    · split at h
      · exact Or.inr ⟨_, (congrArg Prod.snd h).symm⟩
      · exact Or.inl (congrArg Prod.snd h).symm
    · exact Or.inr ⟨_, (congrArg Prod.snd h).symm⟩
  rw [hR] at HC ⊢
  simp only at HC ⊢
  clear hR
  obtain ⟨_, hN2⟩ : ∃ x : Unit, True := ⟨(), trivial⟩
  clear hN2 hN
  go_enter Tryd.func70, Tryd.ntmps70
  go_wp2_with fail
  refine (HC.out).mono ?_
  rintro e w1 ⟨rfl, g1⟩
  have HB1 := Lib.hid (bseq HA.out g1)
  have hk := (g1.block _ (blk_lt HX.out)).trans HX.out
  have hzk := blk_lt hk
  obtain ⟨c0, f0, c1, f1⟩ := cells2_of hk
  have k1 := heap_setCell_same _ _ 0 _ _ (.int .i64 r0) hk
  have k2 := heap_setCell_same _ _ 1 _ _ (.int .i64 r1) k1
  have k3 : ((w1.setCell ⟨w.heap.size, 0, none⟩ (.int .i64 r0)).setCell ⟨w.heap.size, 1, none⟩ (.int .i64 r1)).heap[w.heap.size]? = some (.cells #[.int .i64 r0, .int .i64 r1] 97 (0, 0)) := k2.trans (by simp)
  have HBL := Lib.hid ((HB1.out.setCell (p := ⟨w.heap.size, 0, none⟩) (Nat.le_refl _) (.int .i64 r0)).setCell (p := ⟨w.heap.size, 1, none⟩) (Nat.le_refl _) (.int .i64 r1))
  clear g1 a0 b0 d0 hz hz1 hz2
  go_wp2
  obtain ⟨z0, z2, z1, z3⟩ := cells2_of k3
  refine bodyPost_ret (v := .tuple #[.agg #[.int .i64 r0, .int .i64 r1], rv]) ?_ rfl ⟨rfl, HBL.out⟩
  clear hk hzk c0 f0 c1 f1 k1 k2 k3 z2 z3
  generalize World.setCell _ _ _ = W' at *
  simp [results, Tryd.results70, go_sem, z0, z1]
theorem toSt_below {w W W' : World} {A R O : Obj} (h : ToSt w W A R O) (hb : Below W.heap.size W W') : ToSt w W' A R O :=
  ⟨h.bel.trans (hb.mono h.bel.size), (hb.block _ (Array.getElem?_eq_some_iff.1 h.a).1).trans h.a, (hb.block _ (Array.getElem?_eq_some_iff.1 h.r).1).trans h.r, (hb.block _ (Array.getElem?_eq_some_iff.1 h.o).1).trans h.o⟩
set_option maxRecDepth 100000 in
set_option maxHeartbeats 8000000 in
theorem bst_impl (ao : Option Addr) (n c : Nat) (zs : List Lf) (k : Int) (bk : Bool) (w : World) (hn : n ≤ 1048576) (hv : LfsV w ao n zs) (ht : TabAt w) (he : ErrsAt w) :
    Calls Tryd.prog 26 #[.slice ao n c, .int .i64 k, .bool bk] w fun e w' => e = .returned (.tuple #[.int .i64 ((bmR zs k bk).1), .int .i64 ((bmR zs k bk).2.1), .int .i64 ((bmR zs k bk).2.2)]) ∧ Below w.heap.size w w' := by
  obtain ⟨E, hE⟩ := he.out
  have hA := three_allocs (w := w) (.cells #[.slice ao n c] 51) (.cells #[.int .i64 k] 2) (.cells #[.bool bk] 4)
  have HS := Lib.hid (ToSt.start w (.cells #[.slice ao n c] 51) (.cells #[.int .i64 k] 2) (.cells #[.bool bk] 4))
  have HA := Lib.hid hA
  have HT := Lib.hid (ht.below hA)
  have HE := Lib.hid (hE.below hA)
  have HV := Lib.hid (hv.below hA)
  have HZ := Lib.hid hv.1
  clear hv ht he hE hA
  cases hB : lfsB zs with
  | false =>
    have HR := Lib.hid (show bmR zs k bk = (0, 0, 1) by unfold bmR; rw [hB]; rfl)
    rw [HR.out]
    go_enter Tryd.func26, Tryd.ntmps26
    go_wp2_with fail
    refine (validLs_impl ao n c zs _ hn HV.out HT.out).mono ?_
    rintro e w1 ⟨rfl, g1⟩
    have HG := Lib.hid (bseq HA.out g1)
    clear g1
    rw [hB]
    go_wp2_with fail
    refine (wcm_no _ _).mono ?_
    rintro e w2 ⟨rfl, g2⟩
    have HG2 := Lib.hid (bseq HG.out g2)
    clear g2
    have HB3 := Lib.hid (HG2.out.alloc HG2.out.size (.cells #[.int .i64 0, .int .i64 0] 97))
    go_wp2
    go_region
    go_wp2
    refine bodyPost_ret (v := .tuple #[.int .i64 0, .int .i64 0, .int .i64 1]) (by simp [results, Tryd.results26, go_sem]) rfl ⟨rfl, ?_⟩
    first | exact bel_drew HB3.out | exact HB3.out
  | true =>
    have hn16 : n ≤ 16 := by have := (lfsB_ok hB).1; have := HZ.out; omega
    have HBB := Lib.hid hB
    have HMR := Lib.hid (show bmR zs k bk = if inI k 0 ((n : Int) - 1) then (if (bmS zs k.toNat bk n).1 < 0 then (0, 0, 3) else ((bmS zs k.toNat bk n).1, (bmS zs k.toNat bk n).2, 0)) else (0, 0, 2) by unfold bmR; rw [hB, if_pos rfl, ← HZ.out])
    have HMO := Lib.hid (show bmO E zs k bk n = if inI k 0 ((n : Int) - 1) then (if (bmS zs k.toNat bk n).1 < 0 then ((0, 0), esV E.n) else (bmS zs k.toNat bk n, .nilIface)) else ((0, 0), esV E.r) from rfl)
    cases hin : inI k 0 ((n : Int) - 1) with
    | false =>
      have HR := Lib.hid (show bmR zs k bk = (0, 0, 2) by rw [HMR.out, hin]; rfl)
      have HO := Lib.hid (show bmO E zs k bk n = ((0, 0), esV E.r) by rw [HMO.out, hin]; rfl)
      rw [HR.out]
      go_enter Tryd.func26, Tryd.ntmps26
      go_wp2_with fail
      refine (validLs_impl ao n c zs _ hn HV.out HT.out).mono ?_
      rintro e w1 ⟨rfl, g1⟩
      have HG := Lib.hid (bseq HA.out g1)
      have HE1 := Lib.hid (HE.out.below g1)
      have HV1 := Lib.hid (HV.out.below g1)
      have HS1 := Lib.hid (toSt_below HS.out g1)
      clear g1
      rw [HBB.out]
      go_wp2_with fail
      refine (wcm_err _ _ _ 2 E.r _ (fun w' hb => by have h := clo_bm w.heap.size (w.heap.size + 1) (w.heap.size + 1 + 1) E ao n c k zs bk w' HBB.out hn16 (HV1.out.below hb) (HE1.out.below hb) (toSt_below HS1.out hb).a (toSt_below HS1.out hb).r (toSt_below HS1.out hb).o; rw [HO.out] at h; exact h) (fun w' hb => code_R E w' (HE1.out.below hb))).mono ?_
      rintro e w2 ⟨rfl, g2⟩
      have HG2 := Lib.hid (bseq HG.out g2)
      clear g2
      have HB3 := Lib.hid (HG2.out.alloc HG2.out.size (.cells #[.int .i64 0, .int .i64 0] 97))
      go_wp2
      go_region
      go_wp2
      refine bodyPost_ret (v := .tuple #[.int .i64 0, .int .i64 0, .int .i64 2]) (by simp [results, Tryd.results26, go_sem]) rfl ⟨rfl, ?_⟩
      first | exact bel_drew HB3.out | exact HB3.out
    | true =>
      by_cases hp : (bmS zs k.toNat bk n).1 < 0
      · have HR := Lib.hid (show bmR zs k bk = (0, 0, 3) by rw [HMR.out, hin, if_pos rfl, if_pos hp])
        have HO := Lib.hid (show bmO E zs k bk n = ((0, 0), esV E.n) by rw [HMO.out, hin, if_pos rfl, if_pos hp])
        rw [HR.out]
        clear hp
        go_enter Tryd.func26, Tryd.ntmps26
        go_wp2_with fail
        refine (validLs_impl ao n c zs _ hn HV.out HT.out).mono ?_
        rintro e w1 ⟨rfl, g1⟩
        have HG := Lib.hid (bseq HA.out g1)
        have HE1 := Lib.hid (HE.out.below g1)
        have HV1 := Lib.hid (HV.out.below g1)
        have HS1 := Lib.hid (toSt_below HS.out g1)
        clear g1
        rw [HBB.out]
        go_wp2_with fail
        refine (wcm_err _ _ _ 3 E.n _ (fun w' hb => by have h := clo_bm w.heap.size (w.heap.size + 1) (w.heap.size + 1 + 1) E ao n c k zs bk w' HBB.out hn16 (HV1.out.below hb) (HE1.out.below hb) (toSt_below HS1.out hb).a (toSt_below HS1.out hb).r (toSt_below HS1.out hb).o; rw [HO.out] at h; exact h) (fun w' hb => code_N E w' (HE1.out.below hb))).mono ?_
        rintro e w2 ⟨rfl, g2⟩
        have HG2 := Lib.hid (bseq HG.out g2)
        clear g2
        have HB3 := Lib.hid (HG2.out.alloc HG2.out.size (.cells #[.int .i64 0, .int .i64 0] 97))
        go_wp2
        go_region
        go_wp2
        refine bodyPost_ret (v := .tuple #[.int .i64 0, .int .i64 0, .int .i64 3]) (by simp [results, Tryd.results26, go_sem]) rfl ⟨rfl, ?_⟩
        first | exact bel_drew HB3.out | exact HB3.out
      · have HR := Lib.hid (show bmR zs k bk = ((bmS zs k.toNat bk n).1, (bmS zs k.toNat bk n).2, 0) by rw [HMR.out, hin, if_pos rfl, if_neg hp])
        have HO := Lib.hid (show bmO E zs k bk n = (bmS zs k.toNat bk n, .nilIface) by rw [HMO.out, hin, if_pos rfl, if_neg hp])
        rw [HR.out]
        obtain ⟨⟨r0, r1⟩, hrr⟩ : ∃ R, bmS zs k.toNat bk n = R := ⟨_, rfl⟩
        rw [hrr] at HO ⊢
        clear hp hrr
        go_enter Tryd.func26, Tryd.ntmps26
        go_wp2_with fail
        refine (validLs_impl ao n c zs _ hn HV.out HT.out).mono ?_
        rintro e w1 ⟨rfl, g1⟩
        have HG := Lib.hid (bseq HA.out g1)
        have HE1 := Lib.hid (HE.out.below g1)
        have HV1 := Lib.hid (HV.out.below g1)
        have HS1 := Lib.hid (toSt_below HS.out g1)
        clear g1
        rw [HBB.out]
        go_wp2_with fail
        refine (wcm_ok _ _ _ r0 r1 _ (fun w' hb => by have h := clo_bm w.heap.size (w.heap.size + 1) (w.heap.size + 1 + 1) E ao n c k zs bk w' HBB.out hn16 (HV1.out.below hb) (HE1.out.below hb) (toSt_below HS1.out hb).a (toSt_below HS1.out hb).r (toSt_below HS1.out hb).o; rw [HO.out] at h; exact h)).mono ?_
        rintro e w2 ⟨rfl, g2⟩
        have HG2 := Lib.hid (bseq HG.out g2)
        clear g2
        have HB3 := Lib.hid (HG2.out.alloc HG2.out.size (.cells #[.int .i64 r0, .int .i64 r1] 97))
        go_wp2
        go_region
        go_wp2
        refine bodyPost_ret (v := .tuple #[.int .i64 r0, .int .i64 r1, .int .i64 0]) (by simp [results, Tryd.results26, go_sem]) rfl ⟨rfl, ?_⟩
        first | exact bel_drew HB3.out | exact HB3.out
end Go.Proofs.YtcjpplijbdfgbaaDoor
