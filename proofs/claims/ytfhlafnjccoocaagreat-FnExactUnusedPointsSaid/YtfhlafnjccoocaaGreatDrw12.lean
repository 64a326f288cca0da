/- Is a drawing valid, in impl: the faces, the whole. -/
import Derived.Test.YtfhlafnjccoocaaGreatDrw11
import Derived.Laws.Cover1
namespace Go.Proofs.YtfhlafnjccoocaaGreat
open Seq2 Go.ChangeShapes Go.WideShapes Go.ChangeAt Go.RowKit
set_option linter.unusedVariables false
set_option linter.unusedSimpArgs false

theorem u8_lt (a b : UInt8) : decide (a < b) = decide (a.toNat < b.toNat) := decide_eq_decide.2 UInt8.lt_iff_toNat_lt
theorem u8_not {a b : UInt8} (h : a ≠ b) : (decide (a < b)) = !decide (b < a) := by
  have h1 : a.toNat ≠ b.toNat := fun e => h (UInt8.toNat_inj.1 e)
  rw [u8_lt, u8_lt]
  by_cases h2 : a.toNat < b.toNat
  · rw [decide_eq_true h2, decide_eq_false (by omega)]; rfl
  · rw [decide_eq_false h2, decide_eq_true (by omega)]; rfl
/-- Of two names one is less, or they are the same. -/
theorem bl_total : ∀ a b : List UInt8, Op.bytesLess a b = !(Op.bytesLess b a || b == a)
  | [], [] => rfl
  | [], _ :: _ => rfl
  | _ :: _, [] => rfl
  | a :: x, b :: y => by
    unfold Op.bytesLess
    by_cases h : a = b
    · subst h
      have h3 : decide (a < a) = false := by rw [u8_lt]; simp
      rw [h3, bl_total x y]
      simp
    · have h1 : (a == b) = false := by simpa using h
      have h2 : (b == a) = false := by simpa using Ne.symm h
      have h4 : (b :: y == a :: x) = false := by simp [Ne.symm h]
      rw [h1, h2, h4, u8_not h]
      simp
def bfAt (fs : List Fc) (k : Nat) : ByteArray := if k = 0 then ⟨#[]⟩ else (fs.getD (k - 1) fc0).1
def notUp (s b : ByteArray) : Bool := Op.bytesLess s.toList b.toList || s.toList == b.toList
theorem up_bad {zs : List P2} {fs : List Fc} {k : Nat} (h : notUp (fs.getD k fc0).1 (bfAt fs k) = true) : faceB zs fs k = false := by
  unfold faceB ordB
  by_cases h0 : k = 0
  · subst h0
    have hz : (fs.getD 0 fc0).1.toList = [] := by
      unfold notUp bfAt at h
      rw [if_pos rfl, show (⟨#[]⟩ : ByteArray).toList = [] from by rw [ByteArray.toList_eq]] at h
      cases e : (fs.getD 0 fc0).1.toList with
      | nil => rfl
      | cons a l => rw [e] at h; simp [Op.bytesLess] at h
    have hs : (fs.getD 0 fc0).1.size = 0 := by
      rcases Nat.eq_zero_or_pos (fs.getD 0 fc0).1.size with h | h
      · exact h
      · exact absurd hz (nonempty_of _ h)
    rw [name_zero _ hs]; rfl
  · unfold notUp bfAt at h
    rw [if_neg h0] at h
    have : lessB (fs.getD (k - 1) fc0).1 (fs.getD k fc0).1 = false := by
      unfold lessB; rw [bl_total, h]; rfl
    rw [this, decide_eq_false h0]; simp
theorem up_good {fs : List Fc} {k : Nat} (h : notUp (fs.getD k fc0).1 (bfAt fs k) = false) : ordB fs k = true := by
  unfold ordB
  by_cases h0 : k = 0
  · rw [decide_eq_true h0]; rfl
  · unfold notUp bfAt at h
    rw [if_neg h0] at h
    unfold lessB
    rw [bl_total, h]; simp
theorem faces_bad' {zs : List P2} {fs : List Fc} {i : Nat} (hi : i < fs.length) (h : faceB zs fs i = false) : facesB zs fs = false := by
  unfold facesB; rw [allTo_bad hi h]; simp
set_option maxRecDepth 100000 in
set_option maxHeartbeats 8000000 in
theorem faces_impl (v : Value) (D : Drw) (w : World) (hd : DV w v D) : Calls Tryz.prog 36 #[v] w fun e w' => e = .returned (.bool (facesB D.ps D.fs)) ∧ Below w.heap.size w w' := by
  have HD := Lib.hid hd
  obtain ⟨ao, n, c, bo, m, d, rfl, _, _, hs, _, hf⟩ := hd.out
  have HF := Lib.hid hf
  have HZ := Lib.hid hf.1
  have HS := Lib.hid (show fsSz D.fs ≤ 1048576 by unfold dSz at hs; omega)
  have hm : m ≤ 1048576 := by have := hf.1; unfold dSz fsSz at hs; omega
  have HBX := Lib.hid (World.alloc_heap_new w (.cells #[.int .i64 D.wd, .int .i64 D.hg, .slice ao n c, .slice bo m d] 33))
  clear hd hf hs
  by_cases h24 : m ≤ 24
  rotate_left
  · have HR := Lib.hid (show facesB D.ps D.fs = false by unfold facesB; rw [decide_eq_false (by have := HZ.out; omega)]; simp)
    have e1 : decide (24 < (m : Int)) = true := by simp; omega
    go_enter Tryz.func36, Tryz.ntmps36
    go_wp2
    go_ret
    exact ⟨ret_bool' HR.out.symm, one_alloc _⟩
  have e1 : decide (24 < (m : Int)) = false := by simp; omega
  go_enter Tryz.func36, Tryz.ntmps36
  go_wp2
  go_loopw [13, 3, 5] (fun iv bv jv wr => ∃ (k : Nat) (bf : ByteArray), k ≤ m ∧ iv = .int .i64 k ∧ bv = .string bf ∧ Hid (bf = bfAt D.fs k) ∧ Hid (allTo (faceB D.ps D.fs) k = true) ∧ Hid (wr.heap[w.heap.size]? = some (.cells #[.int .i64 D.wd, .int .i64 D.hg, .slice ao n c, .slice bo m d] 33 (0, 0))) ∧ Hid (Below w.heap.size w wr)) (fun i _ _ _ => m - (intOf i).toNat)
  case atStart => exact ⟨0, _, by omega, rfl, rfl, Lib.hid rfl, Lib.hid rfl, HBX, Lib.hid (one_alloc _)⟩
  case round =>
    obtain ⟨k, bf, hk, rfl, rfl, hbf, ha, hx, hb⟩ := hrel
    have hxw := blk_lt hx.out
    have hbs := hb.out.size
    obtain ⟨x0, _, x1, _, x2, _, x3, _⟩ := cells4_of hx.out
    by_cases hlt : k < m
    · have hkz : k < D.fs.length := by have := HZ.out; omega
      obtain ⟨fb, s, r, a1, n1, c1', rfl, hfb, ee, hs1, y0, y1, en1, hi1⟩ := (HF.out.below hb.out).at hlt
      have hln := fcs_le HS.out hkz
      rw [ee] at hln
      have HI1 := Lib.hid hi1
      have hn1 : n1 ≤ 1048576 := by omega
      have HFB := Lib.hid (show faceB D.ps D.fs k = (nameB s && ordB D.fs k && ringB D.ps r) by unfold faceB; rw [ee])
      have HUB := Lib.hid (show notUp s bf = true → faceB D.ps D.fs k = false by rw [hbf.out]; intro h; exact up_bad (by rw [ee]; exact h))
      have HUG := Lib.hid (show notUp s bf = false → ordB D.fs k = true by rw [hbf.out]; intro h; exact up_good (by rw [ee]; exact h))
      have HNX := Lib.hid (show s = bfAt D.fs (k + 1) by unfold bfAt; rw [if_neg (by omega), Nat.add_sub_cancel, ee])
      have HBA := Lib.hid (show Below w.heap.size w (wr.alloc (.cells #[.string s, .slice a1 n1 c1'] 46)) from hb.out.alloc hbs _)
      clear en1 hln hi1 ee
      unfold notUp at HUB HUG
      cases hlb : (Op.bytesLess s.toList bf.toList || s.toList == bf.toList) with
      | true =>
        have HR := Lib.hid (faces_bad' hkz (HUB.out hlb))
        go_wp2
        go_ret
        exact ⟨ret_bool' HR.out.symm, HBA.out⟩
      | false =>
        have HO := Lib.hid (HUG.out hlb)
        cases hnm : nameB s with
        | false =>
          have HR := Lib.hid (faces_bad' hkz (HFB.out.trans (by rw [hnm]; simp)))
          go_wp2_with fail
          refine (name_impl s _ (by unfold maxLen; omega)).mono ?_
          rintro e w1 ⟨rfl, rfl⟩
          go_wp2
          go_ret
          exact ⟨ret_bool' HR.out.symm, HBA.out⟩
        | true =>
          cases hrg : ringB D.ps r with
          | false =>
            have HR := Lib.hid (faces_bad' hkz (HFB.out.trans (by rw [hrg]; simp)))
            go_wp2_with fail
            refine (name_impl s _ (by unfold maxLen; omega)).mono ?_
            rintro e w1 ⟨rfl, rfl⟩
            go_wp2_with fail
            refine (ring_impl _ D a1 n1 c1' r _ hn1 (HD.out.below HBA.out) (HI1.out.below (one_alloc _))).mono ?_
            rintro e w2 ⟨rfl, g2⟩
            have HG := Lib.hid (HBA.out.trans (g2.mono HBA.out.size))
            clear g2
            go_wp2
            go_ret
            exact ⟨ret_bool' HR.out.symm, HG.out⟩
          | true =>
            have HT := Lib.hid (allTo_succ ha.out (HFB.out.trans (by rw [hnm, HO.out, hrg]; rfl)))
            have hfx := World.alloc_heap_new wr (.cells #[.string s, .slice a1 n1 c1'] 46)
            have HFX := Lib.hid hfx
            clear hfx
            go_wp2_with fail
            refine (name_impl s _ (by unfold maxLen; omega)).mono ?_
            rintro e w1 ⟨rfl, rfl⟩
            go_wp2_with fail
            refine (ring_impl _ D a1 n1 c1' r _ hn1 (HD.out.below HBA.out) (HI1.out.below (one_alloc _))).mono ?_
            rintro e w2 ⟨rfl, g2⟩
            have HG := Lib.hid (HBA.out.trans (g2.mono HBA.out.size))
            have hf2 := (g2.block _ (blk_lt HFX.out)).trans HFX.out
            have HX2 := Lib.hid ((g2.block _ (by simp; omega)).trans ((Below.heap_alloc _ _ _ hxw).trans hx.out))
            have hz2 := blk_lt hf2
            obtain ⟨z0, _, _, _⟩ := cells2_at hf2 rfl
            clear g2 hf2
            go_wp2
            go_roundw
            case rel => exact ⟨k + 1, s, by omega, by go_num, rfl, HNX, HT, HX2, HG⟩
            case measure => simp [intOf]; omega
    · obtain rfl : k = m := by omega
      have HR := Lib.hid (show facesB D.ps D.fs = true by unfold facesB; rw [← HZ.out, ha.out]; simp; omega)
      go_wp2
      go_ret
      exact ⟨ret_bool' HR.out.symm, hb.out⟩
set_option maxRecDepth 100000 in
set_option maxHeartbeats 1000000 in
theorem valid_dimpl (v : Value) (D : Drw) (w : World) (hd : DV w v D) : Calls Tryz.prog 19 #[v] w fun e w' => e = .returned (.bool (drB D)) ∧ Below w.heap.size w w' := by
  have HD := Lib.hid hd
  obtain ⟨ao, n, c, bo, m, d, rfl, _, _, _, _, _⟩ := hd.out
  have HBX := Lib.hid (World.alloc_heap_new w (.cells #[.int .i64 D.wd, .int .i64 D.hg, .slice ao n c, .slice bo m d] 33))
  clear hd
  have HDB := Lib.hid (show drB D = (panelB D && ptsB D.wd D.hg D.ps && facesB D.ps D.fs) from rfl)
  cases h1 : panelB D with
  | false =>
    have HR := Lib.hid (HDB.out.trans (show _ = false by rw [h1]; simp))
    go_enter Tryz.func19, Tryz.ntmps19
    go_wp2_with fail
    refine (panel_any _ D _ (HD.out.below (one_alloc _))).mono ?_
    rintro e w1 ⟨rfl, g1⟩
    have HG := Lib.hid (bseq (one_alloc _) g1)
    clear g1
    rw [h1]
    go_wp2
    go_ret
    exact ⟨ret_bool' HR.out.symm, HG.out⟩
  | true =>
    cases h2 : ptsB D.wd D.hg D.ps with
    | false =>
      have HR := Lib.hid (HDB.out.trans (show _ = false by rw [h1, h2]; simp))
      go_enter Tryz.func19, Tryz.ntmps19
      go_wp2_with fail
      refine (panel_any _ D _ (HD.out.below (one_alloc _))).mono ?_
      rintro e w1 ⟨rfl, g1⟩
      have HG := Lib.hid (bseq (one_alloc _) g1)
      have hx := (g1.block _ (by simp)).trans HBX.out
      have hxw := blk_lt hx
      obtain ⟨x0, _, x1, _, x2, _, x3, _⟩ := cells4_of hx
      clear g1 hx
      rw [h1]
      go_wp2_with fail
      refine (points_impl _ D _ (HD.out.below HG.out) h1).mono ?_
      rintro e w2 ⟨rfl, g2⟩
      have HG2 := Lib.hid (bseq HG.out g2)
      clear g2
      rw [h2]
      go_wp2
      go_ret
      exact ⟨ret_bool' HR.out.symm, HG2.out⟩
    | true =>
      have HR := Lib.hid (HDB.out.trans (show _ = facesB D.ps D.fs by rw [h1, h2]; simp))
      go_enter Tryz.func19, Tryz.ntmps19
      go_wp2_with fail
      refine (panel_any _ D _ (HD.out.below (one_alloc _))).mono ?_
      rintro e w1 ⟨rfl, g1⟩
      have HG := Lib.hid (bseq (one_alloc _) g1)
      have HX := Lib.hid ((g1.block _ (by simp)).trans HBX.out)
      have hxw := blk_lt HX.out
      obtain ⟨x0, _, x1, _, x2, _, x3, _⟩ := cells4_of HX.out
      clear g1
      rw [h1]
      go_wp2_with fail
      refine (points_impl _ D _ (HD.out.below HG.out) h1).mono ?_
      rintro e w2 ⟨rfl, g2⟩
      have HG2 := Lib.hid (bseq HG.out g2)
      have hx2 := (g2.block _ hxw).trans HX.out
      clear x0 x1 x2 x3 hxw
      have hxw2 := blk_lt hx2
      obtain ⟨x0, _, x1, _, x2, _, x3, _⟩ := cells4_of hx2
      clear g2 hx2
      rw [h2]
      go_wp2_with fail
      refine (faces_impl _ D _ (HD.out.below HG2.out)).mono ?_
      rintro e w3 ⟨rfl, g3⟩
      have HG3 := Lib.hid (bseq HG2.out g3)
      clear g3
      go_wp2
      go_ret
      exact ⟨ret_bool' HR.out.symm, HG3.out⟩
end Go.Proofs.YtfhlafnjccoocaaGreat
