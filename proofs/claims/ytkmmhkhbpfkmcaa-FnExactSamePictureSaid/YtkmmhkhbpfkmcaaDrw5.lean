/- Drawings that calls read: views of them; are two equal, in the laws. -/
import Derived.Test.YtkmmhkhbpfkmcaaDrw4
namespace Go.Proofs.Ytkmmhkhbpfkmcaa
open Go.ChangeShapes Go.WideShapes Go.ChangeAt Go.RowKit
set_option linter.unusedVariables false
set_option linter.unusedSimpArgs false

/-- A slice of faces at the start of a block, or an empty one. -/
def FV (w : World) (ao : Option Addr) (m : Nat) (fs : List Fc) : Prop := m = fs.length ∧ (m = 0 ∨ ∃ b, ao = some ⟨b, 0, none⟩ ∧ b < w.heap.size ∧ ∀ j, j < m → (fs.getD j fc0).1.size ≤ 9223372036854775807 ∧ w.cell? ⟨b, j * 2, none⟩ = some (.string (fs.getD j fc0).1) ∧
  ∃ a c, w.cell? ⟨b, j * 2 + 1, none⟩ = some (.slice a (ringL fs j) c) ∧ IV w a (ringL fs j) (fs.getD j fc0).2)
theorem FV.below {w w' : World} {ao : Option Addr} {m : Nat} {fs : List Fc} (h : FV w ao m fs) (hb : Below w.heap.size w w') : FV w' ao m fs :=
  ⟨h.1, h.2.imp id fun ⟨b, e, h1, h2⟩ => ⟨b, e, Nat.lt_of_lt_of_le h1 hb.size, fun j hj => by
    obtain ⟨q1, q2, a, c, q3, q5⟩ := h2 j hj
    exact ⟨q1, (hb.cell (p := ⟨b, j * 2, none⟩) h1).trans q2, a, c, (hb.cell (p := ⟨b, j * 2 + 1, none⟩) h1).trans q3, q5.below hb⟩⟩⟩
theorem FV.at {w : World} {ao : Option Addr} {m : Nat} {fs : List Fc} (h : FV w ao m fs) {k : Nat} (hk : k < m) : ∃ b s r a n c, ao = some ⟨b, 0, none⟩ ∧ b < w.heap.size ∧ fs.getD k fc0 = (s, r) ∧ s.size ≤ 9223372036854775807 ∧ w.cell? ⟨b, k * 2, none⟩ = some (.string s) ∧ w.cell? ⟨b, k * 2 + 1, none⟩ = some (.slice a n c) ∧ n = ringL fs k ∧ IV w a n r := by
  obtain ⟨b, e, hb, hc⟩ := h.2.resolve_left (by omega)
  obtain ⟨q1, q2, a, c, q3, q5⟩ := hc k hk
  exact ⟨b, _, _, a, _, c, e, hb, rfl, q1, q2, q3, rfl, q5⟩
/-- A drawing, as a value and in memory. -/
structure DV (w : World) (v : Value) (D : Drw) : Prop where
  out : ∃ ao n c bo m d, v = .agg #[.int .i64 D.wd, .int .i64 D.hg, .slice ao n c, .slice bo m d] ∧ (Lit.int .i64 D.wd).wf = true ∧ (Lit.int .i64 D.hg).wf = true ∧ dSz D ≤ 1048576 ∧ PV w ao n D.ps ∧ FV w bo m D.fs
theorem DV.below {w w' : World} {v : Value} {D : Drw} (h : DV w v D) (hb : Below w.heap.size w w') : DV w' v D := by
  obtain ⟨ao, n, c, bo, m, d, h1, h2, h3, h4, h5, h6⟩ := h.out
  exact ⟨ao, n, c, bo, m, d, h1, h2, h3, h4, h5.below hb, h6.below hb⟩
theorem IV_of {w : World} {lo n r : Nat} {zs : List Int} (hn : n = zs.length) (h : w.ownsRow lo 2 1 (.slice (some ⟨r, 0, none⟩) n n) n (flatI zs)) : IV w (some ⟨r, 0, none⟩) n zs := own_pvI hn h
theorem FO.view {lo : Nat} {w : World} {b : Nat} {fs : List Fc} (h : FO lo w b fs) : FV w (some ⟨b, 0, none⟩) fs.length fs := by
  obtain ⟨h1, cur, h2, h3, h4⟩ := h
  refine ⟨rfl, Or.inr ⟨b, rfl, (Array.getElem?_eq_some_iff.1 h2).1, fun j hj => ?_⟩⟩
  obtain ⟨q1, q2, r, q3, q4, q5⟩ := h4 j hj
  exact ⟨q1, (cell_of_arr h2 q2).1, _, _, (cell_of_arr h2 q3).1, IV_of rfl q5⟩
theorem DO.view {lo : Nat} {w : World} {v : Value} {D : Drw} (h : DO lo w v D) : DV w v D := by
  obtain ⟨p, b, h1, h2, h3, h4, h5, h6⟩ := h.out
  exact ⟨_, _, _, _, _, _, h1, h2, h3, h4, own_pv' h5, h6.view⟩
set_option maxRecDepth 100000 in
set_option maxHeartbeats 1000000 in
theorem eqFc_same (s : ByteArray) (a b : Option Addr) (n c d : Nat) (r : List Int) (w : World) (hn : n ≤ 1048576) (ha : IV w a n r) (hb : IV w b n r) :
    Calls Try.prog 38 #[.agg #[.string s, .slice a n c], .agg #[.string s, .slice b n d]] w fun e w' => e = .returned (.bool true) ∧ Below w.heap.size w w' := by
  have HA := Lib.hid (ha.below (two_allocs (.cells #[.string s, .slice a n c] 65) (.cells #[.string s, .slice b n d] 65)))
  have HB := Lib.hid (hb.below (two_allocs (.cells #[.string s, .slice a n c] 65) (.cells #[.string s, .slice b n d] 65)))
  clear ha hb
  go_enter Try.func38, Try.ntmps38
  go_wp2_with fail
  refine (eqI_same _ _ n _ _ r _ hn HA.out HB.out).mono ?_
  rintro e w1 ⟨rfl, g1⟩
  have HG := Lib.hid (bseq (two_allocs _ _) g1)
  clear g1
  go_wp2
  go_ret
  exact ⟨rfl, HG.out⟩
set_option maxRecDepth 100000 in
set_option maxHeartbeats 1000000 in
theorem eqFcs_same (ao bo : Option Addr) (m c d : Nat) (fs : List Fc) (w : World) (hs : fsSz fs ≤ 1048576) (ha : FV w ao m fs) (hb : FV w bo m fs) :
    Calls Try.prog 29 #[.slice ao m c, .slice bo m d] w fun e w' => e = .returned (.bool true) ∧ Below w.heap.size w w' := by
  have HA := Lib.hid ha
  have HB := Lib.hid hb
  have HZ := Lib.hid ha.1
  have HS := Lib.hid hs
  have hm : m ≤ 1048576 := by have := ha.1; unfold fsSz at hs; omega
  clear ha hb hs
  go_enter Try.func29, Try.ntmps29
  go_wp2
  go_loopw [5] (fun iv wr => ∃ k : Nat, k ≤ m ∧ iv = .int .i64 k ∧ Hid (Below w.heap.size w wr)) (fun i _ => m - (intOf i).toNat)
  case atStart => exact ⟨0, by omega, rfl, Lib.hid (Below.refl _ _)⟩
  case round =>
    obtain ⟨k, hk, rfl, hw⟩ := hrel
    by_cases hlt : k < m
    · have hln := fcs_le HS.out (j := k) (by have := HZ.out; omega)
      obtain ⟨a, s, r, a1, n1, c1, rfl, haw, e1, _, x0, x1, en1, hi1⟩ := (HA.out.below hw.out).at hlt
      obtain ⟨b, s', r', b1, n2, d1, rfl, hbw, e2, _, y0, y1, en2, hi2⟩ := (HB.out.below hw.out).at hlt
      rw [e1] at e2
      cases e2
      obtain rfl : n2 = n1 := by omega
      have hn : n2 ≤ 1048576 := by omega
      have HI1 := Lib.hid hi1
      have HI2 := Lib.hid hi2
      clear e1 en1 en2 hln hi1 hi2
      go_wp2
      refine wp_region_below (by kernel_rfl) (by kernel_rfl) ?_
      repeat (first | (refine wq_skip ?_ ?_; (focus (go_simp; done)); (try simp only [Act.put, List.setIfInBounds_toArray, List.set_cons_zero, List.set_cons_succ])) | (refine wq_val ?_ ?_; (focus (go_simp; done)); apply Exists.intro; refine ⟨fun w1 hw1 => ?_, ?_⟩; (obtain ⟨hc, hf⟩ := bcell hw1; clear hw1; go_simp; (first | done | with_reducible rfl | (with_reducible exact eql2 _ _ _) | (with_reducible exact neq2 _ _ _))); (try simp only [Act.put, List.setIfInBounds_toArray, List.set_cons_zero, List.set_cons_succ])) | (refine wq_call 38 ?_ ?_; (focus (go_simp; done)); apply Exists.intro; refine ⟨fun w1 hw1 => ?_, ?_⟩; (focus (clear hw1; go_simp; (first | done | with_reducible rfl))); apply Exists.intro; refine ⟨fun w1 hw1 => ?_, ?_⟩; (focus (exact calls_below hw1 (eqFc_same _ _ _ _ _ _ r _ hn (HI1.out.below hw1) (HI2.out.below hw1)); done)); (try simp only [Act.put, List.setIfInBounds_toArray, List.set_cons_zero, List.set_cons_succ])))
      refine wq_nil ?_
      intro w1 hb1
      have HB1 := Lib.hid hb1
      clear hb1
      go_wp2
      go_roundw
      case rel => exact ⟨k + 1, by omega, by go_num, Lib.hid (bseq hw.out HB1.out)⟩
      case measure => simp [intOf]; omega
    · go_wp2
      go_ret
      exact ⟨rfl, hw.out⟩
set_option maxRecDepth 100000 in
set_option maxHeartbeats 1000000 in
theorem eqDr_same (u v : Value) (D : Drw) (w : World) (hu : DV w u D) (hv : DV w v D) :
    Calls Try.prog 16 #[u, v] w fun e w' => e = .returned (.bool true) ∧ Below w.heap.size w w' := by
  obtain ⟨ao, n, c, bo, m, d, rfl, _, _, hs, hp, hf⟩ := hu.out
  obtain ⟨ao', n', c', bo', m', d', rfl, _, _, _, hp', hf'⟩ := hv.out
  obtain rfl : n' = n := by have := hp.1; have := hp'.1; omega
  obtain rfl : m' = m := by have := hf.1; have := hf'.1; omega
  have hn : n' ≤ 1048576 := by have := hp.1; unfold dSz at hs; omega
  have HFS := Lib.hid (show fsSz D.fs ≤ 1048576 by unfold dSz at hs; omega)
  have h2 := two_allocs (w := w) (.cells #[.int .i64 D.wd, .int .i64 D.hg, .slice ao n' c, .slice bo m' d] 34) (.cells #[.int .i64 D.wd, .int .i64 D.hg, .slice ao' n' c', .slice bo' m' d'] 34)
  have HP := Lib.hid (hp.below h2)
  have HP' := Lib.hid (hp'.below h2)
  have HF := Lib.hid (hf.below h2)
  have HF' := Lib.hid (hf'.below h2)
  clear hu hv hp hf hp' hf' hs h2
  go_enter Try.func16, Try.ntmps16
  go_wp2_with fail
  refine (eqPts_same _ _ n' _ _ D.ps _ hn HP.out HP'.out).mono ?_
  rintro e w1 ⟨rfl, g1⟩
  have HG := Lib.hid g1
  have c3 : w1.cell? ⟨w.heap.size, 3, none⟩ = some (.slice bo m' d) := by rw [(bcell g1).1 _ _ (by simp <;> omega)]; go_simp
  have d3 : w1.cell? ⟨w.heap.size + 1, 3, none⟩ = some (.slice bo' m' d') := by rw [(bcell g1).1 _ _ (by simp)]; go_simp
  clear g1
  go_wp2_with fail
  refine (eqFcs_same _ _ m' _ _ D.fs _ HFS.out (HF.out.below HG.out) (HF'.out.below HG.out)).mono ?_
  rintro e w2 ⟨rfl, g2⟩
  have HG2 := Lib.hid (bseq (two_allocs _ _) (bseq HG.out g2))
  clear g2
  go_wp2
  go_ret
  exact ⟨rfl, HG2.out⟩
end Go.Proofs.Ytkmmhkhbpfkmcaa
