/- slices.Compact at []int64: a row of the call's own. -/
import Derived.Test.YtmfchcaidfloaaaOwI
import Derived.Lib.LazyBuf
import Derived.Lib.SliceRun
namespace Go.Proofs.Ytmfchcaidfloaaa
open Seq2 Go.ChangeShapes Go.WideShapes Go.ChangeAt Go.RowKit
set_option linter.unusedVariables false
set_option linter.unusedSimpArgs false

def idI (x : Int) : Int := x
theorem own_of_row {w : World} {base g cap k : Nat} {F : Nat → Value} {L : List Int} (hk : k = L.length) (hg : base ≤ g) (hc : k ≤ cap) (hm : cap ≤ 9223372036854775807) (h : w.rowIs g 2 cap F) (hF : ∀ i, i < k → F i = .int .i64 (L.getD i 0)) :
    OwnI w base (.slice (some ⟨g, 0, none⟩) k cap) L := by
  subst hk
  obtain ⟨cur, h1, h2, h3⟩ := h
  refine ⟨by simp [flatI], Or.inr ⟨g, cap, cur, rfl, hg, h1, hc, by unfold maxLen; omega, by omega, ?_⟩⟩
  rw [Nat.mul_one]
  apply List.ext_getElem?
  intro j
  by_cases hj : j < L.length
  · rw [List.getElem?_take_of_lt hj, Array.getElem?_toList, h3 j (by omega), hF j hj, flatI_get L j hj]
  · rw [List.getElem?_take_eq_none (by omega), List.getElem?_eq_none (by simp [flatI]; omega)]
set_option maxRecDepth 100000 in
set_option maxHeartbeats 16000000 in
theorem cpI_own (g cap M : Nat) (O : List Int) (w w0 : World) (hM : O.length = M) (hM1 : 1 ≤ M) (hM2 : M ≤ 1000)
    (hown : OwnI w w0.heap.size (.slice (some ⟨g, 0, none⟩) M cap) O) (hb : Below w0.heap.size w0 w) :
    Calls Try.prog 34 #[.slice (some ⟨g, 0, none⟩) M cap] w
      fun e w' => ∃ (k : Nat) (L : List Int), L = cpK idI O M ∧ k = L.length ∧ e = .returned (.slice (some ⟨g, 0, none⟩) k cap) ∧ OwnI w' w0.heap.size (.slice (some ⟨g, 0, none⟩) k cap) L ∧ Below w0.heap.size w0 w' := by
  rw [← hM] at hown
  obtain ⟨hg0, hMc, hc9, F0, hr0, hF0⟩ := own_row hown
  rw [hM] at hMc hF0
  have HM := Lib.hid hM
  have HR0 := Lib.hid hr0
  have HF0 := Lib.hid hF0
  have HB0 := Lib.hid hb
  have HG0 := Lib.hid hg0
  have HC9 := Lib.hid hc9
  obtain ⟨f, hf⟩ : ∃ f, idI = f := ⟨_, rfl⟩
  have HNU := Lib.hid (fun (j : Int) => show f j = j by rw [← hf]; rfl)
  rw [hf]
  have HTK := Lib.hid (fun k (hk : k ≤ O.length) h => cpK_take (f := f) k hk h)
  have HYS := Lib.hid (fun k h => cpK_yes (f := f) (O := O) (k := k) h)
  have HNO := Lib.hid (fun k h0 h => cpK_no (f := f) (O := O) (k := k) h0 h)
  have HLE := Lib.hid (cpK_len f O)
  clear hown hM hr0 hF0 hb hg0 hf
  by_cases h1 : M = 1
  · subst h1
    have HT := Lib.hid (HTK.out 1 (by rw [HM.out]; exact Nat.le_refl _) (fun j h1 h2 => by omega))
    go_enter Try.func34, Try.ntmps34
    go_wp2
    go_ret
    refine ⟨1, _, rfl, ?_, rfl, own_of_row ?_ HG0.out (by omega) HC9.out HR0.out (fun j hj => ?_), HB0.out⟩
    · rw [HT.out]; simp [HM.out]
    · rw [HT.out]; simp [HM.out]
    · obtain rfl : j = 0 := by omega
      rw [HT.out, HF0.out 0 (by omega), List.getD_eq_getElem?_getD, List.getD_eq_getElem?_getD, List.getElem?_take_of_lt (by omega)]
  · have hm2 : decide ((M : Int) < 2) = false := by simp; omega
    have hm3 : ¬ (M : Int) < 2 := by omega
    go_enter Try.func34, Try.ntmps34
    go_wp2
    clear hm2 hm3
    go_loopw [3, 4, 5] (fun kv u6 u7 wr => ∃ k : Nat, 1 ≤ k ∧ k ≤ M ∧ kv = .int .i64 k ∧ Hid (wr.rowIs g 2 cap F0) ∧ Hid (∀ j, 0 < j → j < k → ¬ f (O.getD j 0) = f (O.getD (j - 1) 0)) ∧ Hid (Below w0.heap.size w0 wr)) (fun i _ _ _ => M - (intOf i).toNat)
    case atStart => exact ⟨1, Nat.le_refl _, hM1, by go_num, HR0, Lib.hid (fun j h1 h2 => by omega), HB0⟩
    case round =>
      obtain ⟨k, hk1, hk, rfl, hr, hi, hb⟩ := hrel
      obtain ⟨wo, hwo⟩ : ∃ x, x = wr := ⟨wr, rfl⟩
      subst hwo
      by_cases hlt : k < M
      · obtain ⟨a, ea⟩ : ∃ a, O.getD k 0 = a := ⟨_, rfl⟩
        obtain ⟨kk, hkk⟩ : ∃ j, j = k - 1 := ⟨_, rfl⟩
        obtain ⟨d, ed⟩ : ∃ d, O.getD kk 0 = d := ⟨_, rfl⟩
        have HKK := Lib.hid hkk
        have ck : wo.cell? ⟨g, k, none⟩ = some (.int .i64 a) := by have := hr.out.cell (i := k) (by omega); rw [HF0.out k hlt, ea] at this; exact this
        have cd : wo.cell? ⟨g, kk, none⟩ = some (.int .i64 d) := by have := hr.out.cell (i := kk) (by omega); rw [HF0.out kk (by omega), ed] at this; exact this
        have hgw := hr.out.lt
        have hkm : IntKind.i64.wrap ((k : Int) - 1) = ((kk : Nat) : Int) := by rw [IntWalk.i64_in _ (by omega)]; omega
        have hkM : kk < M := by omega
        have HEQ := Lib.hid (show (a == d) = decide (f (O.getD k 0) = f (O.getD (k - 1) 0)) by rw [ea, ← HKK.out, ed, HNU.out, HNU.out]; exact Bool.beq_eq_decide_eq _ _)
        have HEA := Lib.hid ea
        clear ea ed hkk
        by_cases hfe : f (O.getD k 0) = f (O.getD (k - 1) 0)
        · have hbe : (a == d) = true := HEQ.out.trans (decide_eq_true hfe)
          have HFE := Lib.hid hfe
          clear hfe
          go_wp2
          refine wp_region_below (by kernel_rfl) (by kernel_rfl) ?_
          repeat (first | (refine wq_val ?_ ?_; (focus (go_simp; done)); apply Exists.intro; refine ⟨fun w1 hw1 => ?_, ?_⟩; (obtain ⟨hc, hf⟩ := bcell hw1; clear hw1; go_simp; (first | done | with_reducible rfl | (with_reducible exact eql2 _ _ _) | (with_reducible exact neq2 _ _ _))); (try simp only [Act.put, List.setIfInBounds_toArray, List.set_cons_zero, List.set_cons_succ])) | (refine wq_skip ?_ ?_; (focus (go_simp; (first | done | (simp [undef]; done)))); (try simp only [Act.put, List.setIfInBounds_toArray, List.set_cons_zero, List.set_cons_succ])))
          refine wq_nil ?_
          intro w3 hb3
          have HB3 := Lib.hid (bseq hb.out hb3)
          have HR3 := Lib.hid (show w3.rowIs g 2 cap F0 from row_below' hr.out hb3)
          clear hb3 ck cd hgw hkm hbe
          have hc1 : ¬ cap = k := by omega
          have hc2 : ¬ k = cap := by omega
          have hc3 : ¬ cap - k = 0 := by omega
          have hc4 : k ≤ M := by omega
          have hc5 : k ≤ cap := by omega
          obtain ⟨M2, hM2⟩ : ∃ x, M - k = x := ⟨_, rfl⟩
          have HK1 := Lib.hid (show cpK f O (k + 1) = O.take k from (HNO.out k (by omega) HFE.out).trans (HTK.out k (by rw [HM.out]; omega) hi.out))
          have HKL := Lib.hid (show (O.take k).length = k by rw [List.length_take, HM.out]; omega)
          have HM2 := Lib.hid hM2
          go_wp2
          clear hc1 hc2 hc3 hM2
          go_loopw [3, 5] (fun kv jv wi => ∃ (j c : Nat), 1 ≤ j ∧ j ≤ M2 ∧ jv = .int .i64 j ∧ kv = .int .i64 c ∧ c + 1 ≤ k + j ∧ Hid (c = (cpK f O (k + j)).length) ∧ Hid (∃ F, wi.rowIs g 2 cap F ∧ (∀ i, i < c → F i = .int .i64 ((cpK f O (k + j)).getD i 0)) ∧ (∀ i, k + j ≤ i + 1 → i < M → F i = .int .i64 (O.getD i 0))) ∧ Hid (Below w0.heap.size w0 wi)) (fun _ v _ => M2 - (intOf v).toNat)
          case atStart =>
            refine ⟨1, k, Nat.le_refl _, by have := HM2.out; omega, by go_num, rfl, by omega, Lib.hid (by rw [HK1.out, HKL.out]), Lib.hid ⟨F0, HR3.out, fun i hi => ?_, fun i h1 h2 => HF0.out i h2⟩, HB3⟩
            rw [HK1.out, HF0.out i (by omega), List.getD_eq_getElem?_getD, List.getD_eq_getElem?_getD, List.getElem?_take_of_lt hi]
          case round =>
            obtain ⟨j, c, hj1, hj, rfl, rfl, hcj, hc, hF, hbi⟩ := hrel
            obtain ⟨F, hrF, hF1, hF2⟩ := hF.out
            have HRF := Lib.hid hrF
            have HF1 := Lib.hid hF1
            have HF2 := Lib.hid hF2
            clear hF hrF hF1 hF2
            have hgw := HRF.out.lt
            by_cases hlt2 : j < M2
            · have hkj : k + j < M := by have := HM2.out; omega
              obtain ⟨jj, hjj⟩ : ∃ x, x = j - 1 := ⟨_, rfl⟩
              obtain ⟨a2, ea2⟩ : ∃ a, O.getD (k + j) 0 = a := ⟨_, rfl⟩
              obtain ⟨d2, ed2⟩ : ∃ d, O.getD (k + jj) 0 = d := ⟨_, rfl⟩
              have ck : wr.cell? ⟨g, k + j, none⟩ = some (.int .i64 a2) := by have := HRF.out.cell (i := k + j) (by omega); rw [HF2.out _ (by omega) hkj, ea2] at this; exact this
              have cd : wr.cell? ⟨g, k + jj, none⟩ = some (.int .i64 d2) := by have := HRF.out.cell (i := k + jj) (by omega); rw [HF2.out _ (by omega) (by omega), ed2] at this; exact this
              have hkm : IntKind.i64.wrap ((j : Int) - 1) = ((jj : Nat) : Int) := by rw [IntWalk.i64_in _ (by omega)]; omega
              have hjM : jj < M2 := by omega
              have HEQ2 := Lib.hid (show (a2 == d2) = decide (f (O.getD (k + j) 0) = f (O.getD (k + j - 1) 0)) by rw [ea2, show k + j - 1 = k + jj by omega, ed2, HNU.out, HNU.out]; exact Bool.beq_eq_decide_eq _ _)
              have HEA2 := Lib.hid ea2
              clear ea2 ed2 hjj
              by_cases hfe : f (O.getD (k + j) 0) = f (O.getD (k + j - 1) 0)
              · have hbe2 : (a2 == d2) = true := HEQ2.out.trans (decide_eq_true hfe)
                have hbn2 : (a2 != d2) = false := by rw [bne, hbe2]; rfl
                have HN2 := Lib.hid (HNO.out (k + j) (by omega) hfe)
                clear hfe
                go_wp2
                refine wp_region_below (by kernel_rfl) (by kernel_rfl) ?_
                repeat (first | (refine wq_val ?_ ?_; (focus (go_simp; done)); apply Exists.intro; refine ⟨fun w1 hw1 => ?_, ?_⟩; (obtain ⟨hc, hf⟩ := bcell hw1; clear hw1; go_simp; (first | done | with_reducible rfl | (with_reducible exact eql2 _ _ _) | (with_reducible exact neq2 _ _ _))); (try simp only [Act.put, List.setIfInBounds_toArray, List.set_cons_zero, List.set_cons_succ])) | (refine wq_skip ?_ ?_; (focus (go_simp; (first | done | (simp [undef]; done)))); (try simp only [Act.put, List.setIfInBounds_toArray, List.set_cons_zero, List.set_cons_succ])))
                refine wq_nil ?_
                intro w4 hb4
                have HB4 := Lib.hid (bseq hbi.out hb4)
                have HR4 := Lib.hid (row_below' HRF.out hb4)
                clear hb4 ck cd hgw hkm hbe2 hbn2
                go_wp2
                go_roundw
                case rel => exact ⟨j + 1, c, by omega, by omega, by go_num, rfl, by omega, Lib.hid (by rw [← Nat.add_assoc, HN2.out]; exact hc.out), Lib.hid ⟨F, HR4.out, fun i hi => by rw [← Nat.add_assoc, HN2.out]; exact HF1.out i hi, fun i h1 h2 => HF2.out i (by omega) h2⟩, HB4⟩
                case measure => simp [intOf]; omega
              · have hbe2 : (a2 == d2) = false := HEQ2.out.trans (decide_eq_false hfe)
                have hbn2 : (a2 != d2) = true := by rw [bne, hbe2]; rfl
                have HN2 := Lib.hid (HYS.out (k + j) (Or.inr hfe))
                clear hfe
                go_wp2
                refine wp_region_below (by kernel_rfl) (by kernel_rfl) ?_
                repeat (first | (refine wq_val ?_ ?_; (focus (go_simp; done)); apply Exists.intro; refine ⟨fun w1 hw1 => ?_, ?_⟩; (obtain ⟨hc, hf⟩ := bcell hw1; clear hw1; go_simp; (first | done | with_reducible rfl | (with_reducible exact eql2 _ _ _) | (with_reducible exact neq2 _ _ _))); (try simp only [Act.put, List.setIfInBounds_toArray, List.set_cons_zero, List.set_cons_succ])) | (refine wq_skip ?_ ?_; (focus (go_simp; (first | done | (simp [undef]; done)))); (try simp only [Act.put, List.setIfInBounds_toArray, List.set_cons_zero, List.set_cons_succ])))
                refine wq_nil ?_
                intro w4 hb4
                have HB4 := Lib.hid (bseq hbi.out hb4)
                have HR4 := Lib.hid (row_below' HRF.out hb4)
                have ck4 : w4.cell? ⟨g, k + j, none⟩ = some (.int .i64 a2) := (hb4.cell (p := ⟨g, k + j, none⟩) hgw).trans ck
                clear hb4 ck cd hgw hkm hbe2 hbn2
                have hgw4 := HR4.out.lt
                have cc := HR4.out.cell (i := c) (by omega)
                have fc := HR4.out.frozen c
                have hcM : c < M := by omega
                have ewc : IntKind.i64.wrap ((c : Int) + 1) = ((c + 1 : Nat) : Int) := by rw [IntWalk.i64_in _ (by omega)]; omega
                obtain ⟨Fc, hFc⟩ : ∃ x, F c = x := ⟨_, rfl⟩
                rw [hFc] at cc
                have HR5 := Lib.hid (HR4.out.set c (.int .i64 a2))
                have HB5 := Lib.hid (HB4.out.setCell (p := ⟨g, c, none⟩) (by show w0.heap.size ≤ g; exact HG0.out) (.int .i64 a2))
                have HCL2 := Lib.hid (show (cpK f O (k + j + 1)).length = c + 1 by rw [HN2.out, List.length_append, ← hc.out]; rfl)
                clear hFc
                go_wp2
                go_roundw
                case rel =>
                  refine ⟨j + 1, c + 1, by omega, by omega, by go_num, by go_num, by omega, Lib.hid (by rw [← Nat.add_assoc, HCL2.out]), Lib.hid ⟨_, HR5.out, fun i hi => ?_, fun i h1 h2 => ?_⟩, HB5⟩
                  · rw [← Nat.add_assoc, HN2.out]
                    by_cases hic : i = c
                    · subst hic
                      rw [if_pos rfl, List.getD_eq_getElem?_getD, List.getElem?_append_right (by rw [← hc.out]; exact Nat.le_refl _), ← hc.out, Nat.sub_self]
                      have h9 := HEA2.out
                      rw [List.getD_eq_getElem?_getD] at h9
                      simp [h9]
                    · rw [if_neg hic, HF1.out i (by omega), List.getD_eq_getElem?_getD, List.getD_eq_getElem?_getD, List.getElem?_append_left (by rw [← hc.out]; omega)]
                  · rw [if_neg (by omega)]
                    exact HF2.out i (by omega) h2
                case measure => simp [intOf]; omega
            · obtain rfl : j = M2 := by omega
              have hkj : k + j = M := by have := HM2.out; omega
              have hcM : c < M := by omega
              have hd1 : ¬ cap = c := by omega
              have hd2 : ¬ c = cap := by omega
              have hd3 : ¬ cap - c = 0 := by omega
              have hd4 : c ≤ M := by omega
              have hd5 : c ≤ cap := by omega
              have hcl : ∀ ty, (Builtin.clear_ #[35] ty #[.slice (some ⟨g, c, none⟩) (M - c) (cap - c)]).run Try.prog wr = .ok (.tuple #[]) (wr.setCells g c (List.replicate (M - c) (.int .i64 0))) := fun ty =>
                Lib.run_clear_slice wr 35 2 ty (.int .i64 0) Try.underlying35 (fun w => by kernel_rfl) rfl rfl g c _ _ (by omega) (fun i hi => by rw [HRF.out.cell (i := c + i) (by omega)]; rfl) (fun i hi => HRF.out.frozen (c + i))
              have HRE := Lib.hid (rowIs_setCells (List.replicate (M - c) (.int .i64 0)) c wr F HRF.out)
              have HBE := Lib.hid (below_setCells (B := w0.heap.size) HG0.out (List.replicate (M - c) (.int .i64 0)) c wr hbi.out)
              go_wp2
              go_ret
              refine ⟨c, _, rfl, by rw [← hkj]; exact hc.out, rfl, own_of_row (by rw [← hkj]; exact hc.out) HG0.out (by omega) HC9.out HRE.out (fun i hi => ?_), HBE.out⟩
              rw [show cpK f O M = cpK f O (k + j) by rw [hkj]]
              rw [if_neg (by omega), HF1.out i hi]
        · have hbe : (a == d) = false := HEQ.out.trans (decide_eq_false hfe)
          have HFE := Lib.hid hfe
          clear hfe
          go_wp2
          refine wp_region_below (by kernel_rfl) (by kernel_rfl) ?_
          repeat (first | (refine wq_val ?_ ?_; (focus (go_simp; done)); apply Exists.intro; refine ⟨fun w1 hw1 => ?_, ?_⟩; (obtain ⟨hc, hf⟩ := bcell hw1; clear hw1; go_simp; (first | done | with_reducible rfl | (with_reducible exact eql2 _ _ _) | (with_reducible exact neq2 _ _ _))); (try simp only [Act.put, List.setIfInBounds_toArray, List.set_cons_zero, List.set_cons_succ])) | (refine wq_skip ?_ ?_; (focus (go_simp; (first | done | (simp [undef]; done)))); (try simp only [Act.put, List.setIfInBounds_toArray, List.set_cons_zero, List.set_cons_succ])))
          refine wq_nil ?_
          intro w3 hb3
          have HB3 := Lib.hid (bseq hb.out hb3)
          have HR3 := Lib.hid (show w3.rowIs g 2 cap F0 from row_below' hr.out hb3)
          clear hb3 ck cd hgw hkm hbe
          go_wp2
          go_roundw
          case rel => exact ⟨k + 1, by omega, by omega, by go_num, HR3, Lib.hid (fun j h1 h2 => (Nat.lt_succ_iff_lt_or_eq.1 h2).elim (hi.out j h1) (fun e => by subst e; exact HFE.out)), HB3⟩
          case measure => simp [intOf]; omega
      · obtain rfl : k = M := by omega
        have HT := Lib.hid (HTK.out k (by rw [HM.out]; exact Nat.le_refl _) hi.out)
        go_wp2
        go_ret
        refine ⟨k, _, rfl, ?_, rfl, own_of_row ?_ HG0.out (by omega) HC9.out hr.out (fun j hj => ?_), hb.out⟩
        · rw [HT.out]; simp [HM.out]
        · rw [HT.out]; simp [HM.out]
        · rw [HT.out, HF0.out j hj, List.getD_eq_getElem?_getD, List.getD_eq_getElem?_getD, List.getElem?_take_of_lt hj]
end Go.Proofs.Ytmfchcaidfloaaa
