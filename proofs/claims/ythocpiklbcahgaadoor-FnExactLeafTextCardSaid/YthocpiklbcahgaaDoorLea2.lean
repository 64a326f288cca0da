/- Is a leaf valid: spec. -/
import Derived.Test.YthocpiklbcahgaaDoorLea1
import Derived.Test.YthocpiklbcahgaaDoorSlLeaf
import Derived.Test.YthocpiklbcahgaaDoorVen6
import Derived.Test.YthocpiklbcahgaaDoorVen8
import Derived.Test.YthocpiklbcahgaaDoorK16
namespace Go.Proofs.YthocpiklbcahgaaDoor
open Seq2 Go.ChangeShapes Go.WideShapes Go.ChangeAt Go.RowKit
set_option linter.unusedVariables false
set_option linter.unusedSimpArgs false

theorem allG_no {α : Type} {p : α → Bool} {zs : List α} {d : α} {k : Nat} (hk : k < zs.length) (h : p (zs.getD k d) = false) : zs.all p = false := by
  rw [List.all_eq_false]
  refine ⟨zs.getD k d, ?_, by rw [h]; simp⟩
  rw [List.getD_eq_getElem?_getD, List.getElem?_eq_getElem hk]
  exact List.getElem_mem hk
theorem allG_yes {α : Type} {p : α → Bool} {zs : List α} {d : α} (h : ∀ j, j < zs.length → p (zs.getD j d) = true) : zs.all p = true := by
  rw [List.all_eq_true]
  intro x hx
  obtain ⟨j, hj, rfl⟩ := List.getElem_of_mem hx
  have := h j hj
  rwa [List.getD_eq_getElem?_getD, List.getElem?_eq_getElem hj] at this
def dfsB (W L : Int) (ds : List Bx) : Bool := ds.all (fun d => boxW d W L)
def lfB (z : Lf) : Bool := nameB z.id && (nameB z.fl && (inI z.nu 0 999 && (vnB z.ve && (inI z.wd 10 20000 && (inI z.ln 10 20000 && (decide (z.df.length ≤ 6) && dfsB z.wd z.ln z.df))))))
/-- A leaf lies in block b from offset o on. -/
def LfAt (w : World) (b o : Nat) (z : Lf) : Prop := ∃ v, LfV w v z ∧ AtV w b o v
theorem LfAt.below {w w' : World} {b o : Nat} {z : Lf} (h : LfAt w b o z) (hb : Below w.heap.size w w') : LfAt w' b o z := by
  obtain ⟨v, h1, h2⟩ := h
  exact ⟨v, h1.below hb, h2.below hb⟩
theorem LfV.at {w : World} {v : Value} {z : Lf} (h : LfV w v z) (t : TypeId) : LfAt (w.alloc (.cells v.cells t)) w.heap.size 0 z := ⟨v, h.below (one_alloc _), AtV.box w v t⟩
set_option maxRecDepth 100000 in
set_option maxHeartbeats 16000000 in
theorem one_lea (q o : Nat) (z : Lf) (w : World) (hv : LfAt w q o z) : Calls Tryd.prog 51 #[.pointer (some ⟨q, o, none⟩)] w fun e w' => e = .returned (.bool (lfB z)) ∧ Below w.heap.size w w' := by
  obtain ⟨v, hz, hat⟩ := hv
  obtain ⟨ao, n, c, rfl, hs, m0, m1, _, m3, _, _, hn, hd⟩ := hz.out
  have c0 : w.cell? ⟨q, o, none⟩ = some _ := hat.at 0 rfl
  have c1 : w.cell? ⟨q, o + 1, none⟩ = some _ := hat.at 1 rfl
  have c2 : w.cell? ⟨q, o + 2, none⟩ = some _ := hat.at 2 rfl
  have HVC := Lib.hid (show VC w q (o + 3) z.ve.1 z.ve.2.1 z.ve.2.2 from ⟨hat.1, hat.at 3 rfl, hat.at 4 rfl, hat.at 5 rfl⟩)
  have HAT := Lib.hid hat
  have HD := Lib.hid hd
  have HN := Lib.hid hd.1
  have hq := hat.1
  have M0 := Lib.hid (show z.id.size ≤ maxLen by unfold maxLen; omega)
  have M1 := Lib.hid (show z.fl.size ≤ maxLen by unfold maxLen; omega)
  clear hz hat hd hs m0 m1 m3
  by_cases h1 : nameB z.id = true
  rotate_left
  · skip
    try simp only [Bool.not_eq_true] at h1
    have HR := Lib.hid (show lfB z = false by unfold lfB vnB; simp only [*, Bool.false_and, Bool.and_false, Bool.and_true, Bool.true_and])
    go_enter Tryd.func51, Tryd.ntmps51
    go_wp2_with fail
    refine (name_l01 z.id _ M0.out).mono ?_
    rintro e w1 ⟨rfl, rfl⟩
    rw [h1]
    go_wp2
    go_ret
    exact ⟨ret_bool' HR.out.symm, Below.refl _ _⟩
  by_cases h2 : nameB z.fl = true
  rotate_left
  · skip
    try simp only [Bool.not_eq_true] at h2
    have HR := Lib.hid (show lfB z = false by unfold lfB vnB; simp only [*, Bool.false_and, Bool.and_false, Bool.and_true, Bool.true_and])
    go_enter Tryd.func51, Tryd.ntmps51
    go_wp2_with fail
    refine (name_l01 z.id _ M0.out).mono ?_
    rintro e w1 ⟨rfl, rfl⟩
    rw [h1]
    go_wp2_with fail
    refine (name_l01 z.fl _ M1.out).mono ?_
    rintro e w1 ⟨rfl, rfl⟩
    rw [h2]
    go_wp2
    go_ret
    exact ⟨ret_bool' HR.out.symm, Below.refl _ _⟩
  by_cases h3 : inI z.nu 0 999 = true
  rotate_left
  · skip
    try simp only [Bool.not_eq_true] at h3
    have HR := Lib.hid (show lfB z = false by unfold lfB vnB; simp only [*, Bool.false_and, Bool.and_false, Bool.and_true, Bool.true_and])
    go_enter Tryd.func51, Tryd.ntmps51
    go_wp2_with fail
    refine (name_l01 z.id _ M0.out).mono ?_
    rintro e w1 ⟨rfl, rfl⟩
    rw [h1]
    go_wp2_with fail
    refine (name_l01 z.fl _ M1.out).mono ?_
    rintro e w1 ⟨rfl, rfl⟩
    rw [h2]
    go_wp2_with fail
    refine (in_any _ _ _ _).mono ?_
    rintro e w1 ⟨rfl, rfl⟩
    rw [h3]
    go_wp2
    go_ret
    exact ⟨ret_bool' HR.out.symm, Below.refl _ _⟩
  by_cases h4 : venB z.ve.1 z.ve.2.1 z.ve.2.2 = true
  rotate_left
  · skip
    try simp only [Bool.not_eq_true] at h4
    have HR := Lib.hid (show lfB z = false by unfold lfB vnB; simp only [*, Bool.false_and, Bool.and_false, Bool.and_true, Bool.true_and])
    go_enter Tryd.func51, Tryd.ntmps51
    go_wp2_with fail
    refine (name_l01 z.id _ M0.out).mono ?_
    rintro e w1 ⟨rfl, rfl⟩
    rw [h1]
    go_wp2_with fail
    refine (name_l01 z.fl _ M1.out).mono ?_
    rintro e w1 ⟨rfl, rfl⟩
    rw [h2]
    go_wp2_with fail
    refine (in_any _ _ _ _).mono ?_
    rintro e w1 ⟨rfl, rfl⟩
    rw [h3]
    go_wp2_with fail
    refine (ok_ven _ _ _ _ _ _ HVC.out).mono ?_
    rintro e w1 ⟨rfl, g1⟩
    rw [h4]
    have HG := Lib.hid g1
    clear g1
    go_wp2
    go_ret
    exact ⟨ret_bool' HR.out.symm, HG.out⟩
  try simp only [Bool.not_eq_true] at h5
  skip
  go_enter Tryd.func51, Tryd.ntmps51
  go_wp2_with fail
  refine (name_l01 z.id _ M0.out).mono ?_
  rintro e w1 ⟨rfl, rfl⟩
  rw [h1]
  go_wp2_with fail
  refine (name_l01 z.fl _ M1.out).mono ?_
  rintro e w1 ⟨rfl, rfl⟩
  rw [h2]
  go_wp2_with fail
  refine (in_any _ _ _ _).mono ?_
  rintro e w1 ⟨rfl, rfl⟩
  rw [h3]
  go_wp2_with fail
  refine (ok_ven _ _ _ _ _ _ HVC.out).mono ?_
  rintro e w1 ⟨rfl, g1⟩
  rw [h4]
  have HG := Lib.hid g1
  clear g1
  have HAT1 := Lib.hid (HAT.out.below HG.out)
  have hq1 := HAT1.out.1
  have d4 : w1.cell? ⟨q, o + 6, none⟩ = some _ := HAT1.out.at 6 rfl
  have d5 : w1.cell? ⟨q, o + 7, none⟩ = some _ := HAT1.out.at 7 rfl
  have d6 : w1.cell? ⟨q, o + 8, none⟩ = some _ := HAT1.out.at 8 rfl
  clear c0 c1 c2
  have HRR := Lib.hid (show lfB z = (inI z.wd 10 20000 && (inI z.ln 10 20000 && (decide (z.df.length ≤ 6) && dfsB z.wd z.ln z.df))) by unfold lfB vnB; simp only [*, Bool.true_and])
  clear h1 h2 h3 h4
  by_cases h1 : inI z.wd 10 20000 = true
  rotate_left
  · skip
    try simp only [Bool.not_eq_true] at h1
    have HR := Lib.hid (show lfB z = false by rw [HRR.out]; simp only [*, Bool.false_and, Bool.and_false, Bool.and_true, Bool.true_and])
    go_wp2_with fail
    refine (in_any _ _ _ _).mono ?_
    rintro e w2 ⟨rfl, rfl⟩
    rw [h1]
    go_wp2
    go_ret
    exact ⟨ret_bool' HR.out.symm, HG.out⟩
  by_cases h2 : inI z.ln 10 20000 = true
  rotate_left
  · skip
    try simp only [Bool.not_eq_true] at h2
    have HR := Lib.hid (show lfB z = false by rw [HRR.out]; simp only [*, Bool.false_and, Bool.and_false, Bool.and_true, Bool.true_and])
    go_wp2_with fail
    refine (in_any _ _ _ _).mono ?_
    rintro e w2 ⟨rfl, rfl⟩
    rw [h1]
    go_wp2_with fail
    refine (in_any _ _ _ _).mono ?_
    rintro e w2 ⟨rfl, rfl⟩
    rw [h2]
    go_wp2
    go_ret
    exact ⟨ret_bool' HR.out.symm, HG.out⟩
  by_cases h3 : n ≤ 6
  rotate_left
  · skip
    try simp only [Bool.not_eq_true] at h3
    have HR := Lib.hid (show lfB z = false by rw [HRR.out, decide_eq_false (show ¬ z.df.length ≤ 6 by have := HN.out; omega)]; simp only [*, Bool.false_and, Bool.and_false, Bool.and_true, Bool.true_and])
    go_wp2_with fail
    refine (in_any _ _ _ _).mono ?_
    rintro e w2 ⟨rfl, rfl⟩
    rw [h1]
    go_wp2_with fail
    refine (in_any _ _ _ _).mono ?_
    rintro e w2 ⟨rfl, rfl⟩
    rw [h2]
    have h3' : decide ((6 : Int) < (n : Int)) = true := by simp; omega
    go_wp2
    go_ret
    exact ⟨ret_bool' HR.out.symm, HG.out⟩
  try simp only [Bool.not_eq_true] at h4
  have HR := Lib.hid (show lfB z = dfsB z.wd z.ln z.df by rw [HRR.out, decide_eq_true (show z.df.length ≤ 6 by have := HN.out; omega)]; simp only [*, Bool.true_and])
  go_wp2_with fail
  refine (in_any _ _ _ _).mono ?_
  rintro e w2 ⟨rfl, rfl⟩
  rw [h1]
  go_wp2_with fail
  refine (in_any _ _ _ _).mono ?_
  rintro e w2 ⟨rfl, rfl⟩
  rw [h2]
  have h3' : decide ((6 : Int) < (n : Int)) = false := by simp; omega
  go_wp2
  have HW := Lib.hid ((inI_iff _ _ _).1 h1)
  have HL := Lib.hid ((inI_iff _ _ _).1 h2)
  clear h1 h2 h3' d4 d5 d6
  go_loopw [3] (fun iv wr => ∃ k : Nat, k ≤ n ∧ iv = .int .i64 k ∧ Hid (∀ j, j < k → boxW (z.df.getD j bx0) z.wd z.ln = true) ∧ Hid (Below w.heap.size w wr)) (fun i _ => n - (intOf i).toNat)
  case atStart => exact ⟨0, by omega, rfl, Lib.hid (fun j hj => absurd hj (by omega)), HG⟩
  case round =>
    obtain ⟨k, hk, rfl, hi, hb⟩ := hrel
    have HATk := Lib.hid (HAT.out.below hb.out)
    have hqk := HATk.out.1
    have d4 : wr.cell? ⟨q, o + 6, none⟩ = some _ := HATk.out.at 6 rfl
    have d5 : wr.cell? ⟨q, o + 7, none⟩ = some _ := HATk.out.at 7 rfl
    have d6 : wr.cell? ⟨q, o + 8, none⟩ = some _ := HATk.out.at 8 rfl
    by_cases hlt : k < n
    · obtain ⟨b, rfl, hbx⟩ := (HD.out.below hb.out).2.resolve_left (by omega)
      have hbk := hbx k hlt
      have HBK := Lib.hid hbk
      have hbw := hbk.1
      clear hbx hbk
      cases hs : boxW (z.df.getD k bx0) z.wd z.ln with
      | false =>
        have HF := Lib.hid (show dfsB z.wd z.ln z.df = false from allG_no (p := fun d => boxW d z.wd z.ln) (by have := HN.out; omega) hs)
        go_wp2
        refine wp_region_below (by kernel_rfl) (by kernel_rfl) ?_
        repeat (first | (refine wq_skip ?_ ?_; (focus (go_simp; (first | done | (simp [undef]; done)))); (try simp only [Act.put, List.setIfInBounds_toArray, List.set_cons_zero, List.set_cons_succ])) | (refine wq_val ?_ ?_; (focus (go_simp; done)); apply Exists.intro; refine ⟨fun w1 hw1 => ?_, ?_⟩; (obtain ⟨hc, hf⟩ := bcell hw1; clear hw1; go_simp; (first | done | with_reducible rfl | (with_reducible exact eql2 _ _ _) | (with_reducible exact neq2 _ _ _))); (try simp only [Act.put, List.setIfInBounds_toArray, List.set_cons_zero, List.set_cons_succ])) | (refine wq_call 52 ?_ ?_; (focus (go_simp; done)); apply Exists.intro; refine ⟨fun w1 hw1 => ?_, ?_⟩; (focus (clear hw1; go_simp; (first | done | with_reducible rfl))); apply Exists.intro; refine ⟨fun w1 hw1 => ?_, ?_⟩; (focus (exact calls_below hw1 (by have := box_spec b (k * 4) (z.df.getD k bx0) z.wd z.ln w1 (HBK.out.below hw1) ⟨by have := HW.out.1; omega, HW.out.2⟩ ⟨by have := HL.out.1; omega, HL.out.2⟩; rw [hs] at this; exact this); done)); (try simp only [Act.put, List.setIfInBounds_toArray, List.set_cons_zero, List.set_cons_succ])))
        refine wq_nil ?_
        intro wa hba
        have HB := Lib.hid (hb.out.trans (hba.mono hb.out.size))
        clear hba
        go_wp2
        go_ret
        exact ⟨ret_bool' (HR.out.trans HF.out).symm, HB.out⟩
      | true =>
        go_wp2
        refine wp_region_below (by kernel_rfl) (by kernel_rfl) ?_
        repeat (first | (refine wq_skip ?_ ?_; (focus (go_simp; (first | done | (simp [undef]; done)))); (try simp only [Act.put, List.setIfInBounds_toArray, List.set_cons_zero, List.set_cons_succ])) | (refine wq_val ?_ ?_; (focus (go_simp; done)); apply Exists.intro; refine ⟨fun w1 hw1 => ?_, ?_⟩; (obtain ⟨hc, hf⟩ := bcell hw1; clear hw1; go_simp; (first | done | with_reducible rfl | (with_reducible exact eql2 _ _ _) | (with_reducible exact neq2 _ _ _))); (try simp only [Act.put, List.setIfInBounds_toArray, List.set_cons_zero, List.set_cons_succ])) | (refine wq_call 52 ?_ ?_; (focus (go_simp; done)); apply Exists.intro; refine ⟨fun w1 hw1 => ?_, ?_⟩; (focus (clear hw1; go_simp; (first | done | with_reducible rfl))); apply Exists.intro; refine ⟨fun w1 hw1 => ?_, ?_⟩; (focus (exact calls_below hw1 (by have := box_spec b (k * 4) (z.df.getD k bx0) z.wd z.ln w1 (HBK.out.below hw1) ⟨by have := HW.out.1; omega, HW.out.2⟩ ⟨by have := HL.out.1; omega, HL.out.2⟩; rw [hs] at this; exact this); done)); (try simp only [Act.put, List.setIfInBounds_toArray, List.set_cons_zero, List.set_cons_succ])))
        refine wq_nil ?_
        intro wa hba
        have HB := Lib.hid (hb.out.trans (hba.mono hb.out.size))
        clear hba
        go_wp2
        go_roundw
        case rel => exact ⟨k + 1, by omega, by go_num, Lib.hid (fun j hj => (Nat.lt_succ_iff_lt_or_eq.1 hj).elim (hi.out j) (fun e => by subst e; exact hs)), HB⟩
        case measure => simp [intOf]; omega
    · obtain rfl : k = n := by omega
      have HF := Lib.hid (show dfsB z.wd z.ln z.df = true from allG_yes (d := bx0) (by rw [← HN.out]; exact hi.out))
      go_wp2
      go_ret
      exact ⟨ret_bool' (HR.out.trans HF.out).symm, hb.out⟩
end Go.Proofs.YthocpiklbcahgaaDoor
