/- A face by its name: spec and impl. -/
import Derived.Test.YtbidbleghlcegaaDrw13
import Derived.Test.YtbidbleghlcegaaK5
namespace Go.Proofs.Ytbidbleghlcegaa
open Seq2 Go.ChangeShapes Go.WideShapes Go.ChangeAt Go.RowKit
set_option linter.unusedVariables false
set_option linter.unusedSimpArgs false

/-- Has the face this name? -/
def nmF (fs : List Fc) (nm : ByteArray) (j : Nat) : Bool := (fs.getD j fc0).1.toList == nm.toList
set_option maxRecDepth 100000 in
set_option maxHeartbeats 2000000 in
theorem find_spec (q : Nat) (D : Drw) (nm : ByteArray) (w : World) (hd : DP w q D) : Calls Try.prog 81 #[.pointer (some ⟨q, 0, none⟩), .string nm] w fun e w' => e = .returned (.int .i64 (firstIx (nmF D.fs nm) D.fs.length)) ∧ w = w' := by
  obtain ⟨ao, np, cp, bo, m, d, hq, _, _, hs, _, hf⟩ := hd.out
  obtain ⟨_, _, _, _, _, _, c3, _⟩ := cells4_of hq
  have hqw := blk_lt hq
  have hm1 : m ≤ 1048576 := by have := hf.1; unfold dSz fsSz at hs; omega
  have HM := Lib.hid hf.1
  have HF := Lib.hid hf
  rw [← HM.out]
  clear hd hq hf hs
  go_enter Try.func81, Try.ntmps81
  go_wp2
  go_loopw [5] (fun iv wr => ∃ k : Nat, k ≤ m ∧ iv = .int .i64 k ∧ Hid (∀ j, j < k → nmF D.fs nm j = false) ∧ w = wr) (fun i _ => m - (intOf i).toNat)
  case atStart => exact ⟨0, by omega, rfl, Lib.hid (fun j hj => absurd hj (by omega)), rfl⟩
  case round =>
    obtain ⟨k, hk, rfl, hi, rfl⟩ := hrel
    by_cases hlt : k < m
    · obtain ⟨fb, s, r, a, n, c, rfl, hfb, e, _, x0, x1, en, _⟩ := HF.out.at hlt
      have HN := Lib.hid (show nmF D.fs nm k = (s.toList == nm.toList) by unfold nmF; rw [e])
      clear e en x1
      cases hs : (s.toList == nm.toList) with
      | true =>
        go_wp2
        go_ret
        exact ⟨ret_int (firstIx_at hi.out (HN.out.trans hs) m hlt).symm, rfl⟩
      | false =>
        go_wp2
        go_roundw
        case rel => exact ⟨k + 1, by omega, by go_num, Lib.hid (fun j hj => (Nat.lt_succ_iff_lt_or_eq.1 hj).elim (hi.out j) (fun e => e ▸ HN.out.trans hs)), trivial⟩
        case measure => simp [intOf]; omega
    · obtain rfl : k = m := by omega
      go_wp2
      go_ret
      exact ⟨ret_int (firstIx_none hi.out).symm, rfl⟩
def namR (D : Drw) (nm : ByteArray) : Int × Int := if drB D then (if 0 ≤ firstIx (nmF D.fs nm) D.fs.length then (firstIx (nmF D.fs nm) D.fs.length, 0) else (0, 3)) else (0, 1)
theorem ret_2i {a b c d : Int} (h : (a, b) = (c, d)) : Ending.returned (.tuple #[.int .i64 a, .int .i64 b]) = .returned (.tuple #[.int .i64 c, .int .i64 d]) := by cases h; rfl
set_option maxRecDepth 100000 in
set_option maxHeartbeats 2000000 in
theorem named_spec (v : Value) (D : Drw) (nm : ByteArray) (w : World) (hd : DV w v D) : Calls Try.prog 30 #[v, .string nm] w fun e w' => e = .returned (.tuple #[.int .i64 (namR D nm).1, .int .i64 (namR D nm).2]) ∧ Below w.heap.size w w' := by
  obtain ⟨c, rfl, hp⟩ := hd.box
  have HP := Lib.hid hp
  clear hd hp
  cases h : drB D with
  | false =>
    have HR := Lib.hid (show namR D nm = (0, 1) by unfold namR; rw [h]; rfl)
    rw [HR.out]
    go_enter Try.func30, Try.ntmps30
    go_wp2_with fail
    refine (drOk_spec _ D _ HP.out).mono ?_
    rintro e w1 ⟨rfl, g1⟩
    have HG := Lib.hid (bseq (one_alloc _) g1)
    clear g1
    rw [h]
    go_wp2
    go_ret2
    exact ⟨rfl, HG.out⟩
  | true =>
    have HX : ∃ x, firstIx (nmF D.fs nm) D.fs.length = x := ⟨_, rfl⟩
    obtain ⟨x, hx⟩ := HX
    have HXX := Lib.hid hx
    have HR := Lib.hid (show namR D nm = if 0 ≤ x then (x, 0) else (0, 3) by unfold namR; rw [h, hx]; rfl)
    clear hx
    by_cases h0 : 0 ≤ x
    · have hd1 : decide (x < 0) = false := by simp; omega
      have HR2 := Lib.hid (HR.out.trans (if_pos h0))
      rw [HR2.out]
      go_enter Try.func30, Try.ntmps30
      go_wp2_with fail
      refine (drOk_spec _ D _ HP.out).mono ?_
      rintro e w1 ⟨rfl, g1⟩
      have HG := Lib.hid (bseq (one_alloc _) g1)
      have HP1 := Lib.hid (HP.out.below g1)
      clear g1
      rw [h]
      go_wp2_with fail
      refine (find_spec _ D nm _ HP1.out).mono ?_
      rintro e w2 ⟨rfl, rfl⟩
      rw [HXX.out]
      go_wp2
      go_ret2
      exact ⟨rfl, HG.out⟩
    · have hd1 : decide (x < 0) = true := by simp; omega
      have HR2 := Lib.hid (HR.out.trans (if_neg h0))
      rw [HR2.out]
      go_enter Try.func30, Try.ntmps30
      go_wp2_with fail
      refine (drOk_spec _ D _ HP.out).mono ?_
      rintro e w1 ⟨rfl, g1⟩
      have HG := Lib.hid (bseq (one_alloc _) g1)
      have HP1 := Lib.hid (HP.out.below g1)
      clear g1
      rw [h]
      go_wp2_with fail
      refine (find_spec _ D nm _ HP1.out).mono ?_
      rintro e w2 ⟨rfl, rfl⟩
      rw [HXX.out]
      go_wp2
      go_ret2
      exact ⟨rfl, HG.out⟩
/-- What the faces in the own closure of FaceNamed say. -/
theorem clo_named (s nm : ByteArray) (a : Option Addr) (n c nb : Nat) (w : World) (hb : nb < w.heap.size) (hc : w.cell? ⟨nb, 0, none⟩ = some (.string nm)) :
    Calls Try.prog 83 #[.agg #[.string s, .slice a n c], .pointer (some ⟨nb, 0, none⟩)] w fun e w' => e = .returned (.bool (s.toList == nm.toList)) ∧ Below w.heap.size w w' := by
  go_enter Try.func83, Try.ntmps83
  go_wp2
  go_ret
  exact ⟨rfl, one_alloc _⟩
set_option maxRecDepth 100000 in
set_option maxHeartbeats 2000000 in
theorem index_named (bo : Option Addr) (m d nb : Nat) (fs : List Fc) (nm : ByteArray) (w : World) (hs : fsSz fs ≤ 1048576) (hf : FV w bo m fs) (hb : nb < w.heap.size) (hc : w.cell? ⟨nb, 0, none⟩ = some (.string nm)) :
    Calls Try.prog 128 #[.slice bo m d, .func (.func 83) #[] #[.pointer (some ⟨nb, 0, none⟩)]] w fun e w' => e = .returned (.int .i64 (firstIx (nmF fs nm) m)) ∧ Below w.heap.size w w' := by
  have hm1 : m ≤ 1048576 := by have := hf.1; unfold fsSz at hs; omega
  have HF := Lib.hid hf
  have HC := Lib.hid hc
  have HNB := Lib.hid hb
  clear hf hs hc hb
  go_enter Try.func128, Try.ntmps128
  go_wp2
  go_loopw [8] (fun iv wr => ∃ k : Nat, k ≤ m ∧ iv = .int .i64 k ∧ Hid (∀ j, j < k → nmF fs nm j = false) ∧ Hid (Below w.heap.size w wr)) (fun i _ => m - (intOf i).toNat)
  case atStart => exact ⟨0, by omega, rfl, Lib.hid (fun j hj => absurd hj (by omega)), Lib.hid (Below.refl _ _)⟩
  case round =>
    obtain ⟨k, hk, rfl, hi, hw⟩ := hrel
    by_cases hlt : k < m
    · obtain ⟨fb, s, r, a, n, c, rfl, hfb, e, _, x0, x1, en, _⟩ := (HF.out.below hw.out).at hlt
      have HN := Lib.hid (show nmF fs nm k = (s.toList == nm.toList) by unfold nmF; rw [e])
      clear e en
      go_wp2_with fail
      refine (clo_named s nm a n c nb _ (Nat.lt_of_lt_of_le HNB.out hw.out.size) ((hw.out.cell (p := ⟨nb, 0, none⟩) HNB.out).trans HC.out)).mono ?_
      rintro e w1 ⟨rfl, g1⟩
      have HG := Lib.hid (bseq hw.out g1)
      clear g1 x0 x1
      cases hs : (s.toList == nm.toList) with
      | true =>
        go_wp2
        go_ret
        exact ⟨ret_int (firstIx_at hi.out (HN.out.trans hs) m hlt).symm, HG.out⟩
      | false =>
        go_wp2
        go_roundw
        case rel => exact ⟨k + 1, by omega, by go_num, Lib.hid (fun j hj => (Nat.lt_succ_iff_lt_or_eq.1 hj).elim (hi.out j) (fun e => e ▸ HN.out.trans hs)), HG⟩
        case measure => simp [intOf]; omega
    · obtain rfl : k = m := by omega
      go_wp2
      go_ret
      exact ⟨ret_int (firstIx_none hi.out).symm, hw.out⟩
def ixR (x : Int) : Int × Int := if 0 ≤ x then (x, 0) else (0, 3)
theorem firstFace_named (v : Value) (D : Drw) (nm : ByteArray) (nb : Nat) (w : World) (hd : DV w v D) (hb : nb < w.heap.size) (hc : w.cell? ⟨nb, 0, none⟩ = some (.string nm)) :
    Calls Try.prog 82 #[v, .func (.func 83) #[] #[.pointer (some ⟨nb, 0, none⟩)]] w fun e w' => e = .returned (.tuple #[.int .i64 (ixR (firstIx (nmF D.fs nm) D.fs.length)).1, .int .i64 (ixR (firstIx (nmF D.fs nm) D.fs.length)).2]) ∧ Below w.heap.size w w' := by
  obtain ⟨ao, n, c, bo, m, d, rfl, _, _, hs, _, hf⟩ := hd.out
  have HM := Lib.hid hf.1
  have HS := Lib.hid (show fsSz D.fs ≤ 1048576 by unfold dSz at hs; omega)
  have HF := Lib.hid (hf.below (one_alloc (w := w) (.cells #[.int .i64 D.wd, .int .i64 D.hg, .slice ao n c, .slice bo m d] 31)))
  have HC := Lib.hid (((one_alloc (w := w) (.cells #[.int .i64 D.wd, .int .i64 D.hg, .slice ao n c, .slice bo m d] 31)).cell (p := ⟨nb, 0, none⟩) hb).trans hc)
  rw [← HM.out]
  have HX : ∃ x, firstIx (nmF D.fs nm) m = x := ⟨_, rfl⟩
  obtain ⟨x, hx⟩ := HX
  have HXX := Lib.hid hx
  rw [hx]
  clear hd hf hs hx hc
  by_cases h0 : 0 ≤ x
  · have hd1 : decide (x < 0) = false := by simp; omega
    rw [show ixR x = (x, 0) from if_pos h0]
    go_enter Try.func82, Try.ntmps82
    go_wp2_with fail
    refine (index_named bo m d nb D.fs nm _ HS.out HF.out (by simp; omega) HC.out).mono ?_
    rintro e w1 ⟨rfl, g1⟩
    have HG := Lib.hid (bseq (one_alloc _) g1)
    clear g1
    rw [HXX.out]
    go_wp2
    go_ret2
    exact ⟨rfl, HG.out⟩
  · have hd1 : decide (x < 0) = true := by simp; omega
    rw [show ixR x = (0, 3) from if_neg h0]
    go_enter Try.func82, Try.ntmps82
    go_wp2_with fail
    refine (index_named bo m d nb D.fs nm _ HS.out HF.out (by simp; omega) HC.out).mono ?_
    rintro e w1 ⟨rfl, g1⟩
    have HG := Lib.hid (bseq (one_alloc _) g1)
    clear g1
    rw [HXX.out]
    go_wp2
    go_ret2
    exact ⟨rfl, HG.out⟩
set_option maxRecDepth 100000 in
set_option maxHeartbeats 2000000 in
theorem named_impl (v : Value) (D : Drw) (nm : ByteArray) (w : World) (hd : DV w v D) : Calls Try.prog 31 #[v, .string nm] w fun e w' => e = .returned (.tuple #[.int .i64 (namR D nm).1, .int .i64 (namR D nm).2]) ∧ Below w.heap.size w w' := by
  have HD := Lib.hid hd
  obtain ⟨ao, n, c, bo, m, d, rfl, _, _, hs, _, hf⟩ := hd.out
  have HB2 := Lib.hid (two_allocs (w := w) (.cells #[.int .i64 D.wd, .int .i64 D.hg, .slice ao n c, .slice bo m d] 31) (.cells #[.string nm] 9))
  have HBX := Lib.hid (show ((w.alloc (.cells #[.int .i64 D.wd, .int .i64 D.hg, .slice ao n c, .slice bo m d] 31)).alloc (.cells #[.string nm] 9)).heap[w.heap.size]? = some (.cells #[.int .i64 D.wd, .int .i64 D.hg, .slice ao n c, .slice bo m d] 31 (0, 0)) from (Below.heap_alloc _ _ _ (by simp)).trans (World.alloc_heap_new _ _))
  have HNX := Lib.hid (show ((w.alloc (.cells #[.int .i64 D.wd, .int .i64 D.hg, .slice ao n c, .slice bo m d] 31)).alloc (.cells #[.string nm] 9)).heap[w.heap.size + 1]? = some (.cells #[.string nm] 9 (0, 0)) by have := World.alloc_heap_new (w.alloc (.cells #[.int .i64 D.wd, .int .i64 D.hg, .slice ao n c, .slice bo m d] 31)) (.cells #[.string nm] 9); simpa using this)
  clear hd hf hs
  cases h : drB D with
  | false =>
    have HR := Lib.hid (show namR D nm = (0, 1) by unfold namR; rw [h]; rfl)
    rw [HR.out]
    go_enter Try.func31, Try.ntmps31
    go_wp2_with fail
    refine (valid_dimpl _ D _ (HD.out.below HB2.out)).mono ?_
    rintro e w1 ⟨rfl, g1⟩
    have HG := Lib.hid (bseq HB2.out g1)
    clear g1
    rw [h]
    go_wp2
    go_ret2
    exact ⟨rfl, HG.out⟩
  | true =>
    have HR := Lib.hid (show namR D nm = ixR (firstIx (nmF D.fs nm) D.fs.length) by unfold namR ixR; rw [h]; rfl)
    rw [HR.out]
    go_enter Try.func31, Try.ntmps31
    go_wp2_with fail
    refine (valid_dimpl _ D _ (HD.out.below HB2.out)).mono ?_
    rintro e w1 ⟨rfl, g1⟩
    have HG := Lib.hid (bseq HB2.out g1)
    have hb1 := (g1.block _ (by simp; omega)).trans HBX.out
    have hc1 := (g1.block _ (by simp)).trans HNX.out
    have HC1 := Lib.hid hc1
    have hz1 := blk_lt hb1
    obtain ⟨x0, _, x1, _, x2, _, x3, _⟩ := cells4_of hb1
    have HDG := Lib.hid (HD.out.below HG.out)
    clear g1 hb1 hc1
    rw [h]
    go_wp2_with fail
    refine (firstFace_named _ D nm (w.heap.size + 1) _ HDG.out (blk_lt HC1.out) ((cell_of_arr HC1.out (j := 0) rfl).1)).mono ?_
    rintro e w2 ⟨rfl, g2⟩
    have HG2 := Lib.hid (bseq HG.out g2)
    clear g2
    go_wp2
    go_ret2
    exact ⟨rfl, HG2.out⟩
end Go.Proofs.Ytbidbleghlcegaa
