/- The sizes of drawings that a law adds up. -/
import Derived.Test.YtkmmhkhbpfkmcaaLft
import Derived.Test.YtkmmhkhbpfkmcaaDrw1
import Derived.Test.YtkmmhkhbpfkmcaaK8
namespace Go.Proofs.Ytkmmhkhbpfkmcaa
open Go.ChangeShapes Go.WideShapes Go.ChangeAt Go.RowKit
set_option linter.unusedVariables false
set_option linter.unusedSimpArgs false

def sumN (f : Nat → Nat) : Nat → Nat
  | 0 => 0
  | k + 1 => sumN f k + f k
theorem sumN_le (f : Nat → Nat) {k m : Nat} (h : k ≤ m) : sumN f k ≤ sumN f m := by
  induction m with
  | zero => have : k = 0 := by omega
            subst this; exact Nat.le_refl _
  | succ m ih =>
    by_cases hk : k ≤ m
    · exact Nat.le_trans (ih hk) (Nat.le_add_right _ _)
    · have : k = m + 1 := by omega
      subst this; exact Nat.le_refl _
def fcSz (f : Fc) : Nat := f.1.size + f.2.length
def fcAt (fs : List Fc) (j : Nat) : Nat := fcSz (fs.getD j fc0)
def fsSz (fs : List Fc) : Nat := fs.length + sumN (fcAt fs) fs.length
def dSz (D : Drw) : Nat := D.ps.length + fsSz D.fs
theorem szPt_any (ao : Option Addr) (n c : Nat) (l : Int) (w : World) (h0 : 0 ≤ l) (hl : l ≤ 1048576) (hm : n ≤ 9223372036854775807) :
    Calls Try.prog 18 #[.slice ao n c, .int .i64 l] w fun e w' => e = .returned (.int .i64 (lft l n)) ∧ w = w' := by
  by_cases hn : (n : Int) ≤ l
  · rw [lft_ok hn]; exact szI_ok ao n c l w h0 hl hn
  · rw [lft_no hn]; exact szI_no ao n c l w h0 hl (by omega) hm
theorem szIn_any (ao : Option Addr) (n c : Nat) (l : Int) (w : World) (h0 : 0 ≤ l) (hl : l ≤ 1048576) (hm : n ≤ 9223372036854775807) :
    Calls Try.prog 39 #[.slice ao n c, .int .i64 l] w fun e w' => e = .returned (.int .i64 (lft l n)) ∧ w = w' := by
  have e1 : IntKind.i64.wrap (l - (n : Int)) = l - (n : Int) := IntWalk.i64_in _ (by omega)
  by_cases hn : (n : Int) ≤ l
  · rw [lft_ok hn]
    have e2 : decide (l - (n : Int) < 0) = false := by simp; omega
    go_enter Try.func39, Try.ntmps39
    go_wp2
    go_ret
    exact ⟨rfl, rfl⟩
  · rw [lft_no hn]
    have e2 : decide (l - (n : Int) < 0) = true := by simp; omega
    go_enter Try.func39, Try.ntmps39
    go_wp2
    go_ret
    exact ⟨rfl, rfl⟩
theorem szFc_any (s : ByteArray) (a : Option Addr) (n c : Nat) (l : Int) (w : World) (h0 : 0 ≤ l) (hl : l ≤ 1048576) (hs : s.size ≤ 9223372036854775807) (hm : n ≤ 9223372036854775807) :
    Calls Try.prog 31 #[.agg #[.string s, .slice a n c], .int .i64 l] w fun e w' => e = .returned (.int .i64 (lft l (s.size + n))) ∧ Below w.heap.size w w' := by
  have e1 : IntKind.i64.wrap (l - (s.size : Int)) = l - (s.size : Int) := IntWalk.i64_in _ (by omega)
  by_cases hn : (s.size : Int) ≤ l
  · have e2 : decide (l - (s.size : Int) < 0) = false := by simp; omega
    by_cases hk : (n : Int) ≤ l - s.size
    · have HR := Lib.hid (show lft l (s.size + n) = l - s.size - n by rw [lft_ok (by omega)]; omega)
      have HQ := Lib.hid (lft_ok hk)
      have e3 : decide (l - (s.size : Int) - (n : Int) < 0) = false := by simp; omega
      go_enter Try.func31, Try.ntmps31
      go_wp2_with fail
      refine (szIn_any a n c _ _ (by omega) (by omega) hm).mono ?_
      rintro e w1 ⟨rfl, rfl⟩
      rw [HQ.out]
      go_wp2
      go_ret
      exact ⟨ret_int HR.out.symm, one_alloc _⟩
    · have HR := Lib.hid (show lft l (s.size + n) = -1 by rw [lft_no (by omega)])
      have HQ := Lib.hid (lft_no hk)
      go_enter Try.func31, Try.ntmps31
      go_wp2_with fail
      refine (szIn_any a n c _ _ (by omega) (by omega) hm).mono ?_
      rintro e w1 ⟨rfl, rfl⟩
      rw [HQ.out]
      go_wp2
      go_ret
      exact ⟨ret_int HR.out.symm, one_alloc _⟩
  · have HR := Lib.hid (show lft l (s.size + n) = -1 by rw [lft_no (by omega)])
    have e2 : decide (l - (s.size : Int) < 0) = true := by simp; omega
    go_enter Try.func31, Try.ntmps31
    go_wp2
    go_ret
    exact ⟨ret_int HR.out.symm, one_alloc _⟩
set_option maxRecDepth 100000 in
set_option maxHeartbeats 1000000 in
theorem szFs_any (ao : Option Addr) (m c : Nat) (fs : List Fc) (l : Int) (w : World) (h0 : 0 ≤ l) (hl : l ≤ 1048576) (hm : m ≤ 9223372036854775807) (hv : FL w ao m fs) :
    Calls Try.prog 19 #[.slice ao m c, .int .i64 l] w fun e w' => e = .returned (.int .i64 (lft l (fsSz fs))) ∧ Below w.heap.size w w' := by
  have HV := Lib.hid hv
  have hmz := hv.1
  have e1 : IntKind.i64.wrap (l - (m : Int)) = l - (m : Int) := IntWalk.i64_in _ (by omega)
  by_cases hn : (m : Int) ≤ l
  · have e2 : decide (l - (m : Int) < 0) = false := by simp; omega
    have HF := Lib.hid (show fsSz fs = m + sumN (fcAt fs) m by unfold fsSz; rw [← hmz])
    have HL := Lib.hid (fun k (h : k ≤ m) => sumN_le (fcAt fs) h)
    generalize hg : fcAt fs = g at *
    have HG := Lib.hid hg
    clear hv hg hmz
    go_enter Try.func19, Try.ntmps19
    go_wp2
    go_loopw [5, 1] (fun iv lv wr => ∃ k : Nat, k ≤ m ∧ iv = .int .i64 k ∧ Hid ((m : Int) + sumN g k ≤ l) ∧ lv = .int .i64 (l - m - sumN g k) ∧ Hid (Below w.heap.size w wr)) (fun i _ _ => m - (intOf i).toNat)
    case atStart => exact ⟨0, by omega, rfl, Lib.hid (by simp [sumN]; omega), by simp [sumN], Lib.hid (Below.refl _ _)⟩
    case round =>
      obtain ⟨k, hk, rfl, hs, rfl, hw⟩ := hrel
      have hs' := hs.out
      by_cases hlt : k < m
      · obtain ⟨b, off, rfl, hbw, hcs⟩ := (HV.out.below hw.out).2.resolve_left (by omega)
        obtain ⟨q1, c0, a, n, c', c1, q4, q5⟩ := hcs k hlt
        have HS := Lib.hid (show sumN g (k + 1) = sumN g k + ((fs.getD k fc0).1.size + n) by
          show sumN g k + g k = _
          rw [← HG.out, q5.1]; rfl)
        clear hcs q5
        generalize (fs.getD k fc0).1 = s at *
        generalize hsk : sumN g k = sk at *
        by_cases hq : ((s.size + n : Nat) : Int) ≤ l - m - sk
        · have HQ := Lib.hid (lft_ok hq)
          have e3 : decide (l - (m : Int) - sk - ((s.size + n : Nat) : Int) < 0) = false := by simp; omega
          go_wp2_with fail
          refine (szFc_any s a n c' _ _ (by omega) (by omega) q1 q4).mono ?_
          rintro e w1 ⟨rfl, g1⟩
          have HB := Lib.hid (bseq hw.out g1)
          clear g1
          rw [HQ.out]
          go_wp2
          go_roundw
          case rel => exact ⟨k + 1, by omega, by go_num, Lib.hid (by rw [HS.out]; omega), by rw [HS.out]; exact val_int (by omega), HB⟩
          case measure => simp [intOf]; omega
        · have HQ := Lib.hid (lft_no hq)
          have HR := Lib.hid (show lft l (fsSz fs) = -1 by
            refine lft_no ?_
            have h1 := HL.out (k + 1) (by omega)
            rw [HF.out]; rw [HS.out] at h1; omega)
          go_wp2_with fail
          refine (szFc_any s a n c' _ _ (by omega) (by omega) q1 q4).mono ?_
          rintro e w1 ⟨rfl, g1⟩
          have HB := Lib.hid (bseq hw.out g1)
          clear g1
          rw [HQ.out]
          go_wp2
          go_ret
          exact ⟨ret_int HR.out.symm, HB.out⟩
      · obtain rfl : k = m := by omega
        have HR := Lib.hid (show lft l (fsSz fs) = l - k - sumN g k by rw [lft_ok (by rw [HF.out]; omega), HF.out]; omega)
        go_wp2
        go_ret
        exact ⟨ret_int HR.out.symm, hw.out⟩
  · have HR := Lib.hid (show lft l (fsSz fs) = -1 by refine lft_no ?_; unfold fsSz; omega)
    have e2 : decide (l - (m : Int) < 0) = true := by simp; omega
    clear hv
    go_enter Try.func19, Try.ntmps19
    go_wp2
    go_ret
    exact ⟨ret_int HR.out.symm, Below.refl _ _⟩
set_option maxRecDepth 100000 in
set_option maxHeartbeats 1000000 in
theorem szDr_any (v : Value) (D : Drw) (l : Int) (w : World) (h0 : 0 ≤ l) (hl : l ≤ 1048576) (hv : DL w v D) :
    Calls Try.prog 9 #[v, .int .i64 l] w fun e w' => e = .returned (.int .i64 (lft l (dSz D))) ∧ Below w.heap.size w w' := by
  obtain ⟨ao, n, c, bo, m, d, rfl, wa, wb, hn, hm, hp, hf⟩ := hv.out
  have HF := Lib.hid hf
  have HDS := Lib.hid (show dSz D = n + fsSz D.fs by unfold dSz; rw [hp.1])
  clear hv hp hf wa wb
  by_cases hq : (n : Int) ≤ l
  · have HQ := Lib.hid (lft_ok hq)
    by_cases hr : ((fsSz D.fs : Nat) : Int) ≤ l - n
    · have HQ2 := Lib.hid (lft_ok hr)
      have HR := Lib.hid (show lft l (dSz D) = l - n - fsSz D.fs by rw [lft_ok (by rw [HDS.out]; omega)]; rw [HDS.out]; omega)
      have e3 : decide (l - (n : Int) < 0) = false := by simp; omega
      have e4 : decide (l - (n : Int) - (fsSz D.fs : Int) < 0) = false := by simp; omega
      go_enter Try.func9, Try.ntmps9
      go_wp2_with fail
      refine (szPt_any ao n c _ _ h0 hl hn).mono ?_
      rintro e w1 ⟨rfl, rfl⟩
      rw [HQ.out]
      go_wp2_with fail
      refine (szFs_any bo m d D.fs _ _ (by omega) (by omega) hm (HF.out.below (one_alloc _))).mono ?_
      rintro e w2 ⟨rfl, g2⟩
      have HB := Lib.hid (bseq (one_alloc _) g2)
      clear g2
      rw [HQ2.out]
      go_wp2
      go_ret
      exact ⟨ret_int HR.out.symm, HB.out⟩
    · have HQ2 := Lib.hid (lft_no hr)
      have HR := Lib.hid (show lft l (dSz D) = -1 by refine lft_no ?_; rw [HDS.out]; omega)
      have e3 : decide (l - (n : Int) < 0) = false := by simp; omega
      go_enter Try.func9, Try.ntmps9
      go_wp2_with fail
      refine (szPt_any ao n c _ _ h0 hl hn).mono ?_
      rintro e w1 ⟨rfl, rfl⟩
      rw [HQ.out]
      go_wp2_with fail
      refine (szFs_any bo m d D.fs _ _ (by omega) (by omega) hm (HF.out.below (one_alloc _))).mono ?_
      rintro e w2 ⟨rfl, g2⟩
      have HB := Lib.hid (bseq (one_alloc _) g2)
      clear g2
      rw [HQ2.out]
      go_wp2
      go_ret
      exact ⟨ret_int HR.out.symm, HB.out⟩
  · have HQ := Lib.hid (lft_no hq)
    have HR := Lib.hid (show lft l (dSz D) = -1 by refine lft_no ?_; rw [HDS.out]; omega)
    go_enter Try.func9, Try.ntmps9
    go_wp2_with fail
    refine (szPt_any ao n c _ _ h0 hl hn).mono ?_
    rintro e w1 ⟨rfl, rfl⟩
    rw [HQ.out]
    go_wp2
    go_ret
    exact ⟨ret_int HR.out.symm, one_alloc _⟩
end Go.Proofs.Ytkmmhkhbpfkmcaa
