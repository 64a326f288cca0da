/- Several texts in one: Cmp1, Cmp2, Run1, Run2, WcLongestRun, Run3, Run4. -/
import Derived.Test.YtcjpplijbdfgbaaDoorSql1
import Derived.Test.YtcjpplijbdfgbaaDoorLea13
import Derived.Test.YtcjpplijbdfgbaaDoorK11
import Derived.Lib.LazyBuf
import Derived.Lib.SliceRun
import Derived.Test.YtcjpplijbdfgbaaDoorK21
import Derived.Test.YtcjpplijbdfgbaaDoorOwnAt
import Derived.Test.YtcjpplijbdfgbaaDoorK18
import Derived.Test.YtcjpplijbdfgbaaDoorSeq3
import Derived.Test.YtcjpplijbdfgbaaDoorK26
namespace Go.Proofs.YtcjpplijbdfgbaaDoor
open Seq2 Go.ChangeShapes Go.WideShapes Go.ChangeAt Go.RowKit
set_option linter.unusedVariables false
set_option linter.unusedSimpArgs false

/-- The first k, of neighbours that are equal only the first one. -/
def cpK (f : Int → Int) (O : List Int) : Nat → List Int
  | 0 => []
  | k + 1 => if k = 0 ∨ ¬ f (O.getD k 0) = f (O.getD (k - 1) 0) then cpK f O k ++ [O.getD k 0] else cpK f O k
theorem cpK_yes {f : Int → Int} {O : List Int} {k : Nat} (h : k = 0 ∨ ¬ f (O.getD k 0) = f (O.getD (k - 1) 0)) : cpK f O (k + 1) = cpK f O k ++ [O.getD k 0] := by rw [cpK, if_pos h]
theorem cpK_no {f : Int → Int} {O : List Int} {k : Nat} (h0 : ¬ k = 0) (h : f (O.getD k 0) = f (O.getD (k - 1) 0)) : cpK f O (k + 1) = cpK f O k := by
  rw [cpK, if_neg (fun h2 => h2.elim h0 (fun h3 => h3 h))]
theorem cpK_len (f : Int → Int) (O : List Int) : ∀ k, (cpK f O k).length ≤ k
  | 0 => by simp [cpK]
  | k + 1 => by
    have := cpK_len f O k
    rw [cpK]; split
    · simp; exact this
    · omega
theorem cpK_take {f : Int → Int} {O : List Int} : ∀ k, k ≤ O.length → (∀ j, 0 < j → j < k → ¬ f (O.getD j 0) = f (O.getD (j - 1) 0)) → cpK f O k = O.take k
  | 0, _, _ => by simp [cpK]
  | k + 1, hk, h => by
    have ih := cpK_take k (by omega) (fun j h1 h2 => h j h1 (by omega))
    have hc : k = 0 ∨ ¬ f (O.getD k 0) = f (O.getD (k - 1) 0) := by
      by_cases h0 : k = 0
      · exact Or.inl h0
      · exact Or.inr (h k (by omega) (by omega))
    rw [cpK_yes hc, ih, List.take_succ_eq_append_getElem (by omega)]
    simp [show k < O.length by omega]
set_option maxRecDepth 100000 in
set_option maxHeartbeats 4000000 in
theorem clo_eqn (q a d : Nat) (ao : Option Addr) (n c : Nat) (zs : List Lf) (w : World) (ha : a < n) (hd : d < n) (hv : LfsV w ao n zs) (hq : w.heap[q]? = some (.cells #[.slice ao n c] 101 (0, 0))) :
    Calls Tryd.prog 108 #[.int .i64 a, .int .i64 d, .pointer (some ⟨q, 0, none⟩)] w fun e w' => e = .returned (.bool ((zs.getD a lf0).nu == (zs.getD d lf0).nu)) ∧ Below w.heap.size w w' := by
  obtain ⟨b, rfl, hbw, a1, a2⟩ := lfs_cells hv ha
  obtain ⟨b', hb', _, d1, d2⟩ := lfs_cells hv hd
  have hbb : b = b' := by simpa using hb'
  subst hbb
  have hqw := blk_lt hq
  have q0 := (cell_of_arr hq (j := 0) rfl).1
  obtain ⟨ua, hua⟩ : ∃ q, (zs.getD a lf0).nu = q := ⟨_, rfl⟩
  obtain ⟨ud, hud⟩ : ∃ q, (zs.getD d lf0).nu = q := ⟨_, rfl⟩
  rw [hua] at a2
  rw [hud] at d2
  rw [hua, hud]
  clear hv hb' hua hud a1 d1 hq
  go_enter Tryd.func108, Tryd.ntmps108
  go_wp2
  refine wp_region_below (by kernel_rfl) (by kernel_rfl) ?_
  repeat (first | (refine wq_val ?_ ?_; (focus (go_simp; done)); apply Exists.intro; refine ⟨fun w1 hw1 => ?_, ?_⟩; (obtain ⟨hc, hf⟩ := bcell hw1; clear hw1; go_simp; (first | done | with_reducible rfl | (with_reducible exact eql2 _ _ _) | (with_reducible exact neq2 _ _ _))); (try simp only [Act.put, List.setIfInBounds_toArray, List.set_cons_zero, List.set_cons_succ])) | (refine wq_skip ?_ ?_; (focus (go_simp; (first | done | (simp [undef]; done)))); (try simp only [Act.put, List.setIfInBounds_toArray, List.set_cons_zero, List.set_cons_succ])))
  refine wq_nil ?_
  intro w1 hb1
  have HB1 := Lib.hid hb1
  clear hb1
  go_wp2
  go_ret
  exact ⟨rfl, HB1.out⟩
theorem row_below' {w w' : World} {g n : Nat} {t : TypeId} {f : Nat → Value} (h : w.rowIs g t n f) (hb : Below w.heap.size w w') : w'.rowIs g t n f := by
  obtain ⟨c, h1, h2, h3⟩ := h
  exact ⟨c, (hb.block _ (blk_lt h1)).trans h1, h2, h3⟩
theorem own_row {w : World} {base g cap : Nat} {O : List Int} (h : OwnI w base (.slice (some ⟨g, 0, none⟩) O.length cap) O) : base ≤ g ∧ O.length ≤ cap ∧ cap ≤ 9223372036854775807 ∧ ∃ F, w.rowIs g 2 cap F ∧ ∀ j, j < O.length → F j = .int .i64 (O.getD j 0) := by
  obtain ⟨_, ⟨h2, h3⟩ | ⟨g', cap', cur, h2, h3, h4, h5, h6, h7, h8⟩⟩ := h
  · cases h2
  · cases h2
    refine ⟨h3, h5, by unfold maxLen at h6; omega, fun j => cur.getD j (.int .i64 0), ⟨cur, h4, by omega, fun j hj => ?_⟩, fun j hj => ?_⟩
    · simp [Array.getD, show j < cur.size by omega]
    · have := congrArg (fun l => l[j]?) h8
      rw [Nat.mul_one] at this
      simp only [List.getElem?_take_of_lt hj, flatI, List.getElem?_map, List.getElem?_eq_getElem hj, Option.map_some, Array.getElem?_toList] at this
      obtain ⟨hlt, e⟩ := Array.getElem?_eq_some_iff.1 this
      simp [Array.getD, hlt, e, List.getD_eq_getElem?_getD, hj]
end Go.Proofs.YtcjpplijbdfgbaaDoor
namespace Go.Proofs.YtcjpplijbdfgbaaDoor
open Seq2 Go.ChangeShapes Go.WideShapes Go.ChangeAt Go.RowKit
set_option linter.unusedVariables false
set_option linter.unusedSimpArgs false

set_option maxRecDepth 100000 in
set_option maxHeartbeats 16000000 in
theorem cmp_own (q g cap M : Nat) (ao : Option Addr) (n c : Nat) (zs : List Lf) (O : List Int) (w w0 : World) (hM : O.length = M) (hM1 : 1 ≤ M) (hM2 : M ≤ 1000) (hin : ∀ y ∈ O, ∃ j : Nat, j < n ∧ y = (j : Int))
    (hown : OwnI w w0.heap.size (.slice (some ⟨g, 0, none⟩) M cap) O) (hv : LfsV w0 ao n zs) (hq : w0.heap[q]? = some (.cells #[.slice ao n c] 101 (0, 0))) (hb : Below w0.heap.size w0 w) :
    Calls Tryd.prog 107 #[.slice (some ⟨g, 0, none⟩) M cap, .func (.func 108) #[] #[.pointer (some ⟨q, 0, none⟩)]] w
      fun e w' => ∃ (k : Nat) (L : List Int), L = cpK (nuL zs) O M ∧ k = L.length ∧ e = .returned (.slice (some ⟨g, 0, none⟩) k cap) ∧ InB w' g L ∧ Below w0.heap.size w0 w' := by
  rw [← hM] at hown
  obtain ⟨hg0, hMc, hc9, F0, hr0, hF0⟩ := own_row hown
  rw [hM] at hMc hF0
  have HM := Lib.hid hM
  have HR0 := Lib.hid hr0
  have HF0 := Lib.hid hF0
  have HB0 := Lib.hid hb
  have HV := Lib.hid hv
  have HQ := Lib.hid hq
  have HIN := Lib.hid hin
  have HG0 := Lib.hid hg0
  have HCL := Lib.hid (fun (i j : Nat) (hi : i < n) (hj : j < n) (w' : World) (h : Below w0.heap.size w0 w') => clo_eqn q i j ao n c zs w' hi hj (hv.below h) ((h.block _ (blk_lt hq)).trans hq))
  obtain ⟨f, hf⟩ : ∃ f, nuL zs = f := ⟨_, rfl⟩
  have HNU := Lib.hid (fun (j : Nat) => show f (j : Int) = (zs.getD j lf0).nu by rw [← hf]; simp [nuL])
  rw [hf]
  have HTK := Lib.hid (fun k (hk : k ≤ O.length) h => cpK_take (f := f) k hk h)
  have HYS := Lib.hid (fun k h => cpK_yes (f := f) (O := O) (k := k) h)
  have HNO := Lib.hid (fun k h0 h => cpK_no (f := f) (O := O) (k := k) h0 h)
  have HLE := Lib.hid (cpK_len f O)
  clear hown hM hr0 hF0 hb hv hq hin hg0 hf
  by_cases h1 : M = 1
  · subst h1
    have HT := Lib.hid (HTK.out 1 (by rw [HM.out]; exact Nat.le_refl _) (fun j h1 h2 => by omega))
    go_enter Tryd.func107, Tryd.ntmps107
    go_wp2
    go_ret
    refine ⟨1, _, rfl, ?_, rfl, ⟨HR0.out.lt, fun j hj => ?_⟩, HB0.out⟩
    · rw [HT.out]; simp [HM.out]
    · rw [HT.out] at hj ⊢
      have hj0 : j = 0 := by simp at hj; omega
      subst hj0
      have := HR0.out.cell (i := 0) (by omega)
      rw [HF0.out 0 (by omega)] at this
      rw [this, List.getD_eq_getElem?_getD, List.getD_eq_getElem?_getD, List.getElem?_take_of_lt (by omega)]
  · have hm2 : decide ((M : Int) < 2) = false := by simp; omega
    have hm3 : ¬ (M : Int) < 2 := by omega
    go_enter Tryd.func107, Tryd.ntmps107
    go_wp2
    clear hm2 hm3
    go_loopw [5, 6, 7] (fun kv u6 u7 wr => ∃ k : Nat, 1 ≤ k ∧ k ≤ M ∧ kv = .int .i64 k ∧ Hid (wr.rowIs g 2 cap F0) ∧ Hid (∀ j, 0 < j → j < k → ¬ f (O.getD j 0) = f (O.getD (j - 1) 0)) ∧ Hid (Below w0.heap.size w0 wr)) (fun i _ _ _ => M - (intOf i).toNat)
    case atStart => exact ⟨1, Nat.le_refl _, hM1, by go_num, HR0, Lib.hid (fun j h1 h2 => by omega), HB0⟩
    case round =>
      obtain ⟨k, hk1, hk, rfl, hr, hi, hb⟩ := hrel
      obtain ⟨wo, hwo⟩ : ∃ x, x = wr := ⟨wr, rfl⟩
      subst hwo
      by_cases hlt : k < M
      · obtain ⟨a, han, ea⟩ := take_in HIN.out k (by rw [HM.out]; exact hlt)
        obtain ⟨kk, hkk⟩ : ∃ j, j = k - 1 := ⟨_, rfl⟩
        obtain ⟨d, hdn, ed⟩ := take_in HIN.out kk (by rw [HM.out]; omega)
        have HKK := Lib.hid hkk
        have ck : wo.cell? ⟨g, k, none⟩ = some (.int .i64 (a : Int)) := by have := hr.out.cell (i := k) (by omega); rw [HF0.out k hlt, ea] at this; exact this
        have cd : wo.cell? ⟨g, kk, none⟩ = some (.int .i64 (d : Int)) := by have := hr.out.cell (i := kk) (by omega); rw [HF0.out kk (by omega), ed] at this; exact this
        have hgw := hr.out.lt
        have hkm : IntKind.i64.wrap ((k : Int) - 1) = ((kk : Nat) : Int) := by rw [IntWalk.i64_in _ (by omega)]; omega
        have hkM : kk < M := by omega
        have HEQ := Lib.hid (show ((zs.getD a lf0).nu == (zs.getD d lf0).nu) = decide (f (O.getD k 0) = f (O.getD (k - 1) 0)) by rw [ea, ← HKK.out, ed, HNU.out, HNU.out]; exact Bool.beq_eq_decide_eq _ _)
        have HC := Lib.hid (fun w1 (h : Below wo.heap.size wo w1) => HCL.out a d han hdn w1 (bseq hb.out h))
        rw [HEQ.out] at HC
        have HEA := Lib.hid ea
        clear ea ed hkk
        by_cases hfe : f (O.getD k 0) = f (O.getD (k - 1) 0)
        · rw [decide_eq_true hfe] at HC
          have HFE := Lib.hid hfe
          clear hfe
          go_wp2
          refine wp_region_below (by kernel_rfl) (by kernel_rfl) ?_
          repeat (first | (refine wq_val ?_ ?_; (focus (go_simp; done)); apply Exists.intro; refine ⟨fun w1 hw1 => ?_, ?_⟩; (obtain ⟨hc, hf⟩ := bcell hw1; clear hw1; go_simp; (first | done | with_reducible rfl | (with_reducible exact eql2 _ _ _) | (with_reducible exact neq2 _ _ _))); (try simp only [Act.put, List.setIfInBounds_toArray, List.set_cons_zero, List.set_cons_succ])) | (refine wq_skip ?_ ?_; (focus (go_simp; (first | done | (simp [undef]; done)))); (try simp only [Act.put, List.setIfInBounds_toArray, List.set_cons_zero, List.set_cons_succ])) | (refine wq_call 108 ?_ ?_; (focus (go_simp; done)); apply Exists.intro; refine ⟨fun w1 hw1 => ?_, ?_⟩; (focus (clear hw1; go_simp; (first | done | with_reducible rfl))); apply Exists.intro; refine ⟨fun w1 hw1 => ?_, ?_⟩; (focus (exact calls_below hw1 (HC.out w1 hw1); done)); (try simp only [Act.put, List.setIfInBounds_toArray, List.set_cons_zero, List.set_cons_succ])))
          refine wq_nil ?_
          intro w3 hb3
          have HB3 := Lib.hid (bseq hb.out hb3)
          have HR3 := Lib.hid (show w3.rowIs g 2 cap F0 from row_below' hr.out hb3)
          clear hb3 ck cd hgw hkm
          have hc1 : ¬ cap = k := by omega
          have hc2 : ¬ k = cap := by omega
          have hc3 : ¬ cap - k = 0 := by omega
          have hc4 : k ≤ M := by omega
          have hc5 : k ≤ cap := by omega
          obtain ⟨M2, hM2⟩ : ∃ x, M - k = x := ⟨_, rfl⟩
          have HK1 := Lib.hid (show cpK f O (k + 1) = O.take k from (HNO.out k (by omega) HFE.out).trans (HTK.out k (by rw [HM.out]; omega) hi.out))
          have HKL := Lib.hid (show (O.take k).length = k by rw [List.length_take, HM.out]; omega)
          have HM2 := Lib.hid hM2
          go_wp2
          clear hc1 hc2 hc3 hM2
          go_loopw [5, 7] (fun kv jv wi => ∃ (j c : Nat), 1 ≤ j ∧ j ≤ M2 ∧ jv = .int .i64 j ∧ kv = .int .i64 c ∧ c + 1 ≤ k + j ∧ Hid (c = (cpK f O (k + j)).length) ∧ Hid (∃ F, wi.rowIs g 2 cap F ∧ (∀ i, i < c → F i = .int .i64 ((cpK f O (k + j)).getD i 0)) ∧ (∀ i, k + j ≤ i + 1 → i < M → F i = .int .i64 (O.getD i 0))) ∧ Hid (Below w0.heap.size w0 wi)) (fun _ v _ => M2 - (intOf v).toNat)
          case atStart =>
            refine ⟨1, k, Nat.le_refl _, by have := HM2.out; omega, by go_num, rfl, by omega, Lib.hid (by rw [HK1.out, HKL.out]), Lib.hid ⟨F0, HR3.out, fun i hi => ?_, fun i h1 h2 => HF0.out i h2⟩, HB3⟩
            rw [HK1.out, HF0.out i (by omega), List.getD_eq_getElem?_getD, List.getD_eq_getElem?_getD, List.getElem?_take_of_lt hi]
          case round =>
            obtain ⟨j, c, hj1, hj, rfl, rfl, hcj, hc, hF, hbi⟩ := hrel
            obtain ⟨F, hrF, hF1, hF2⟩ := hF.out
            have HRF := Lib.hid hrF
            have HF1 := Lib.hid hF1
            have HF2 := Lib.hid hF2
            clear hF hrF hF1 hF2
            have hgw := HRF.out.lt
            by_cases hlt2 : j < M2
            · have hkj : k + j < M := by have := HM2.out; omega
              obtain ⟨jj, hjj⟩ : ∃ x, x = j - 1 := ⟨_, rfl⟩
              obtain ⟨a2, ha2, ea2⟩ := take_in HIN.out (k + j) (by rw [HM.out]; exact hkj)
              obtain ⟨d2, hd2, ed2⟩ := take_in HIN.out (k + jj) (by rw [HM.out]; omega)
              have ck : wr.cell? ⟨g, k + j, none⟩ = some (.int .i64 (a2 : Int)) := by have := HRF.out.cell (i := k + j) (by omega); rw [HF2.out _ (by omega) hkj, ea2] at this; exact this
              have cd : wr.cell? ⟨g, k + jj, none⟩ = some (.int .i64 (d2 : Int)) := by have := HRF.out.cell (i := k + jj) (by omega); rw [HF2.out _ (by omega) (by omega), ed2] at this; exact this
              have hkm : IntKind.i64.wrap ((j : Int) - 1) = ((jj : Nat) : Int) := by rw [IntWalk.i64_in _ (by omega)]; omega
              have hjM : jj < M2 := by omega
              have HEQ2 := Lib.hid (show ((zs.getD a2 lf0).nu == (zs.getD d2 lf0).nu) = decide (f (O.getD (k + j) 0) = f (O.getD (k + j - 1) 0)) by rw [ea2, show k + j - 1 = k + jj by omega, ed2, HNU.out, HNU.out]; exact Bool.beq_eq_decide_eq _ _)
              have HC2 := Lib.hid (fun w1 (h : Below wr.heap.size wr w1) => HCL.out a2 d2 ha2 hd2 w1 (bseq hbi.out h))
              rw [HEQ2.out] at HC2
              have HEA2 := Lib.hid ea2
              clear ea2 ed2 hjj
              by_cases hfe : f (O.getD (k + j) 0) = f (O.getD (k + j - 1) 0)
              · rw [decide_eq_true hfe] at HC2
                have HN2 := Lib.hid (HNO.out (k + j) (by omega) hfe)
                clear hfe
                go_wp2
                refine wp_region_below (by kernel_rfl) (by kernel_rfl) ?_
                repeat (first | (refine wq_val ?_ ?_; (focus (go_simp; done)); apply Exists.intro; refine ⟨fun w1 hw1 => ?_, ?_⟩; (obtain ⟨hc, hf⟩ := bcell hw1; clear hw1; go_simp; (first | done | with_reducible rfl | (with_reducible exact eql2 _ _ _) | (with_reducible exact neq2 _ _ _))); (try simp only [Act.put, List.setIfInBounds_toArray, List.set_cons_zero, List.set_cons_succ])) | (refine wq_skip ?_ ?_; (focus (go_simp; (first | done | (simp [undef]; done)))); (try simp only [Act.put, List.setIfInBounds_toArray, List.set_cons_zero, List.set_cons_succ])) | (refine wq_call 108 ?_ ?_; (focus (go_simp; done)); apply Exists.intro; refine ⟨fun w1 hw1 => ?_, ?_⟩; (focus (clear hw1; go_simp; (first | done | with_reducible rfl))); apply Exists.intro; refine ⟨fun w1 hw1 => ?_, ?_⟩; (focus (exact calls_below hw1 (HC2.out w1 hw1); done)); (try simp only [Act.put, List.setIfInBounds_toArray, List.set_cons_zero, List.set_cons_succ])))
                refine wq_nil ?_
                intro w4 hb4
                have HB4 := Lib.hid (bseq hbi.out hb4)
                have HR4 := Lib.hid (row_below' HRF.out hb4)
                clear hb4 ck cd hgw hkm
                go_wp2
                go_roundw
                case rel => exact ⟨j + 1, c, by omega, by omega, by go_num, rfl, by omega, Lib.hid (by rw [← Nat.add_assoc, HN2.out]; exact hc.out), Lib.hid ⟨F, HR4.out, fun i hi => by rw [← Nat.add_assoc, HN2.out]; exact HF1.out i hi, fun i h1 h2 => HF2.out i (by omega) h2⟩, HB4⟩
                case measure => simp [intOf]; omega
              · rw [decide_eq_false hfe] at HC2
                have HN2 := Lib.hid (HYS.out (k + j) (Or.inr hfe))
                clear hfe
                go_wp2
                refine wp_region_below (by kernel_rfl) (by kernel_rfl) ?_
                repeat (first | (refine wq_val ?_ ?_; (focus (go_simp; done)); apply Exists.intro; refine ⟨fun w1 hw1 => ?_, ?_⟩; (obtain ⟨hc, hf⟩ := bcell hw1; clear hw1; go_simp; (first | done | with_reducible rfl | (with_reducible exact eql2 _ _ _) | (with_reducible exact neq2 _ _ _))); (try simp only [Act.put, List.setIfInBounds_toArray, List.set_cons_zero, List.set_cons_succ])) | (refine wq_skip ?_ ?_; (focus (go_simp; (first | done | (simp [undef]; done)))); (try simp only [Act.put, List.setIfInBounds_toArray, List.set_cons_zero, List.set_cons_succ])) | (refine wq_call 108 ?_ ?_; (focus (go_simp; done)); apply Exists.intro; refine ⟨fun w1 hw1 => ?_, ?_⟩; (focus (clear hw1; go_simp; (first | done | with_reducible rfl))); apply Exists.intro; refine ⟨fun w1 hw1 => ?_, ?_⟩; (focus (exact calls_below hw1 (HC2.out w1 hw1); done)); (try simp only [Act.put, List.setIfInBounds_toArray, List.set_cons_zero, List.set_cons_succ])))
                refine wq_nil ?_
                intro w4 hb4
                have HB4 := Lib.hid (bseq hbi.out hb4)
                have HR4 := Lib.hid (row_below' HRF.out hb4)
                have ck4 : w4.cell? ⟨g, k + j, none⟩ = some (.int .i64 (a2 : Int)) := (hb4.cell (p := ⟨g, k + j, none⟩) hgw).trans ck
                clear hb4 ck cd hgw hkm
                have hgw4 := HR4.out.lt
                have cc := HR4.out.cell (i := c) (by omega)
                have fc := HR4.out.frozen c
                have hcM : c < M := by omega
                have ewc : IntKind.i64.wrap ((c : Int) + 1) = ((c + 1 : Nat) : Int) := by rw [IntWalk.i64_in _ (by omega)]; omega
                obtain ⟨Fc, hFc⟩ : ∃ x, F c = x := ⟨_, rfl⟩
                rw [hFc] at cc
                have HR5 := Lib.hid (HR4.out.set c (.int .i64 (a2 : Int)))
                have HB5 := Lib.hid (HB4.out.setCell (p := ⟨g, c, none⟩) (by show w0.heap.size ≤ g; exact HG0.out) (.int .i64 (a2 : Int)))
                have HCL2 := Lib.hid (show (cpK f O (k + j + 1)).length = c + 1 by rw [HN2.out, List.length_append, ← hc.out]; rfl)
                clear hFc
                go_wp2
                go_roundw
                case rel =>
                  refine ⟨j + 1, c + 1, by omega, by omega, by go_num, by go_num, by omega, Lib.hid (by rw [← Nat.add_assoc, HCL2.out]), Lib.hid ⟨_, HR5.out, fun i hi => ?_, fun i h1 h2 => ?_⟩, HB5⟩
                  · rw [← Nat.add_assoc, HN2.out]
                    by_cases hic : i = c
                    · subst hic
                      rw [if_pos rfl, List.getD_eq_getElem?_getD, List.getElem?_append_right (by rw [← hc.out]; exact Nat.le_refl _), ← hc.out, Nat.sub_self]
                      have h9 := HEA2.out
                      rw [List.getD_eq_getElem?_getD] at h9
                      simp [h9]
                    · rw [if_neg hic, HF1.out i (by omega), List.getD_eq_getElem?_getD, List.getD_eq_getElem?_getD, List.getElem?_append_left (by rw [← hc.out]; omega)]
                  · rw [if_neg (by omega)]
                    exact HF2.out i (by omega) h2
                case measure => simp [intOf]; omega
            · obtain rfl : j = M2 := by omega
              have hkj : k + j = M := by have := HM2.out; omega
              have hcM : c < M := by omega
              have hd1 : ¬ cap = c := by omega
              have hd2 : ¬ c = cap := by omega
              have hd3 : ¬ cap - c = 0 := by omega
              have hd4 : c ≤ M := by omega
              have hd5 : c ≤ cap := by omega
              have hcl : ∀ ty, (Builtin.clear_ #[55] ty #[.slice (some ⟨g, c, none⟩) (M - c) (cap - c)]).run Tryd.prog wr = .ok (.tuple #[]) (wr.setCells g c (List.replicate (M - c) (.int .i64 0))) := fun ty =>
                Lib.run_clear_slice wr 55 2 ty (.int .i64 0) Tryd.underlying55 (fun w => by kernel_rfl) rfl rfl g c _ _ (by omega) (fun i hi => by rw [HRF.out.cell (i := c + i) (by omega)]; rfl) (fun i hi => HRF.out.frozen (c + i))
              have HRE := Lib.hid (rowIs_setCells (List.replicate (M - c) (.int .i64 0)) c wr F HRF.out)
              have HBE := Lib.hid (below_setCells (B := w0.heap.size) HG0.out (List.replicate (M - c) (.int .i64 0)) c wr hbi.out)
              go_wp2
              go_ret
              refine ⟨c, _, rfl, by rw [← hkj]; exact hc.out, rfl, ⟨HRE.out.lt, fun i hi => ?_⟩, HBE.out⟩
              rw [show cpK f O M = cpK f O (k + j) by rw [hkj]] at hi ⊢
              rw [← hc.out] at hi
              rw [HRE.out.cell (i := i) (by omega), if_neg (by omega), HF1.out i hi]
        · rw [decide_eq_false hfe] at HC
          have HFE := Lib.hid hfe
          clear hfe
          go_wp2
          refine wp_region_below (by kernel_rfl) (by kernel_rfl) ?_
          repeat (first | (refine wq_val ?_ ?_; (focus (go_simp; done)); apply Exists.intro; refine ⟨fun w1 hw1 => ?_, ?_⟩; (obtain ⟨hc, hf⟩ := bcell hw1; clear hw1; go_simp; (first | done | with_reducible rfl | (with_reducible exact eql2 _ _ _) | (with_reducible exact neq2 _ _ _))); (try simp only [Act.put, List.setIfInBounds_toArray, List.set_cons_zero, List.set_cons_succ])) | (refine wq_skip ?_ ?_; (focus (go_simp; (first | done | (simp [undef]; done)))); (try simp only [Act.put, List.setIfInBounds_toArray, List.set_cons_zero, List.set_cons_succ])) | (refine wq_call 108 ?_ ?_; (focus (go_simp; done)); apply Exists.intro; refine ⟨fun w1 hw1 => ?_, ?_⟩; (focus (clear hw1; go_simp; (first | done | with_reducible rfl))); apply Exists.intro; refine ⟨fun w1 hw1 => ?_, ?_⟩; (focus (exact calls_below hw1 (HC.out w1 hw1); done)); (try simp only [Act.put, List.setIfInBounds_toArray, List.set_cons_zero, List.set_cons_succ])))
          refine wq_nil ?_
          intro w3 hb3
          have HB3 := Lib.hid (bseq hb.out hb3)
          have HR3 := Lib.hid (show w3.rowIs g 2 cap F0 from row_below' hr.out hb3)
          clear hb3 ck cd hgw hkm
          go_wp2
          go_roundw
          case rel => exact ⟨k + 1, by omega, by omega, by go_num, HR3, Lib.hid (fun j h1 h2 => (Nat.lt_succ_iff_lt_or_eq.1 h2).elim (hi.out j h1) (fun e => by subst e; exact HFE.out)), HB3⟩
          case measure => simp [intOf]; omega
      · obtain rfl : k = M := by omega
        have HT := Lib.hid (HTK.out k (by rw [HM.out]; exact Nat.le_refl _) hi.out)
        go_wp2
        go_ret
        refine ⟨k, _, rfl, ?_, rfl, ⟨hr.out.lt, fun j hj => ?_⟩, hb.out⟩
        · rw [HT.out]; simp [HM.out]
        · rw [HT.out] at hj ⊢
          have hjk : j < k := by simp at hj; omega
          have := hr.out.cell (i := j) (by omega)
          rw [HF0.out j hjk] at this
          rw [this, List.getD_eq_getElem?_getD, List.getD_eq_getElem?_getD, List.getElem?_take_of_lt hjk]
end Go.Proofs.YtcjpplijbdfgbaaDoor
namespace Go.Proofs.YtcjpplijbdfgbaaDoor
open Seq2 Go.ChangeShapes Go.WideShapes Go.ChangeAt Go.RowKit
set_option linter.unusedVariables false
set_option linter.unusedSimpArgs false

/-- One step: the run so far and the longest one so far take in x. -/
def lrN (f : Int → Int) (r : List Int) (x : Int) : List Int := if 0 < r.length ∧ ¬ f (r.getD (r.length - 1) 0) + 1 = f x then [x] else r ++ [x]
def lrB (r b : List Int) : List Int := if b.length < r.length then r else b
def lrS (f : Int → Int) (L : List Int) : Nat → List Int × List Int
  | 0 => ([], [])
  | k + 1 => (lrN f (lrS f L k).1 (L.getD k 0), lrB (lrN f (lrS f L k).1 (L.getD k 0)) (lrS f L k).2)
theorem lrN_no {f : Int → Int} {r : List Int} {x : Int} (h : 0 < r.length) (h2 : ¬ f (r.getD (r.length - 1) 0) + 1 = f x) : lrN f r x = [] ++ [x] := by unfold lrN; rw [if_pos ⟨h, h2⟩]; rfl
theorem lrN_one {f : Int → Int} {r : List Int} {x : Int} (h : r.length = 0) : lrN f r x = r ++ [x] := by unfold lrN; rw [if_neg (by omega)]
theorem lrN_yes {f : Int → Int} {r : List Int} {x : Int} (h2 : f (r.getD (r.length - 1) 0) + 1 = f x) : lrN f r x = r ++ [x] := by unfold lrN; rw [if_neg (fun h => h.2 h2)]
theorem lrN_len (f : Int → Int) (r : List Int) (x : Int) : 1 ≤ (lrN f r x).length ∧ (lrN f r x).length ≤ r.length + 1 := by
  unfold lrN; split <;> simp
theorem lrN_last (f : Int → Int) (r : List Int) (x : Int) : (lrN f r x).getD ((lrN f r x).length - 1) 0 = x := by
  unfold lrN; split
  · rfl
  · simp
theorem lrS_len (f : Int → Int) (L : List Int) : ∀ k, (lrS f L k).1.length ≤ k ∧ (lrS f L k).2.length ≤ k ∧ (0 < k → 0 < (lrS f L k).1.length)
  | 0 => by simp [lrS]
  | k + 1 => by
    obtain ⟨h1, h2, _⟩ := lrS_len f L k
    have h3 := lrN_len f (lrS f L k).1 (L.getD k 0)
    refine ⟨by simp only [lrS]; omega, ?_, fun _ => by simp only [lrS]; omega⟩
    simp only [lrS]
    unfold lrB
    split <;> omega
theorem lrS_last (f : Int → Int) (L : List Int) (k : Nat) (h : 0 < k) : (lrS f L k).1.getD ((lrS f L k).1.length - 1) 0 = L.getD (k - 1) 0 := by
  obtain ⟨j, rfl⟩ : ∃ j, k = j + 1 := ⟨k - 1, by omega⟩
  exact lrN_last f _ _
theorem lrS_in {f : Int → Int} {L : List Int} {P : Int → Prop} (hP : ∀ j, j < L.length → P (L.getD j 0)) : ∀ k, k ≤ L.length → (∀ y ∈ (lrS f L k).1, P y) ∧ (∀ y ∈ (lrS f L k).2, P y)
  | 0, _ => by simp [lrS]
  | k + 1, hk => by
    obtain ⟨h1, h2⟩ := lrS_in (f := f) hP k (by omega)
    have h3 : ∀ y ∈ lrN f (lrS f L k).1 (L.getD k 0), P y := fun y hy => by
      unfold lrN at hy
      split at hy
      · rw [List.mem_singleton] at hy; rw [hy]; exact hP k (by omega)
      · rcases List.mem_append.1 hy with hy | hy
        · exact h1 y hy
        · rw [List.mem_singleton] at hy; rw [hy]; exact hP k (by omega)
    refine ⟨h3, fun y hy => ?_⟩
    simp only [lrS] at hy
    unfold lrB at hy
    split at hy
    · exact h3 y hy
    · exact h2 y hy
/-- The state depends on the first k alone. -/
theorem lrS_app (f : Int → Int) (L : List Int) (x : Int) : ∀ k, k ≤ L.length → lrS f (L ++ [x]) k = lrS f L k
  | 0, _ => rfl
  | k + 1, hk => by
    have e : (L ++ [x]).getD k 0 = L.getD k 0 := by
      rw [List.getD_eq_getElem?_getD, List.getD_eq_getElem?_getD, List.getElem?_append_left (by omega)]
    simp only [lrS, e, lrS_app f L x k (by omega)]
def lrC (f : Int → Int) (O : List Int) (k : Nat) : List Int × List Int := lrS f (cpK f O k) (cpK f O k).length
theorem lrC_no {f : Int → Int} {O : List Int} {k : Nat} (h0 : ¬ k = 0) (h : f (O.getD k 0) = f (O.getD (k - 1) 0)) : lrC f O (k + 1) = lrC f O k := by unfold lrC; rw [cpK_no h0 h]
theorem lrC_yes {f : Int → Int} {O : List Int} {k : Nat} (h : k = 0 ∨ ¬ f (O.getD k 0) = f (O.getD (k - 1) 0)) : lrC f O (k + 1) = (lrN f (lrC f O k).1 (O.getD k 0), lrB (lrN f (lrC f O k).1 (O.getD k 0)) (lrC f O k).2) := by
  unfold lrC
  rw [cpK_yes h, List.length_append]
  show lrS f _ ((cpK f O k).length + 1) = _
  have e : (cpK f O k ++ [O.getD k 0]).getD (cpK f O k).length 0 = O.getD k 0 := by
    rw [List.getD_eq_getElem?_getD, List.getElem?_append_right (Nat.le_refl _), Nat.sub_self]; rfl
  simp only [lrS, e, lrS_app f (cpK f O k) (O.getD k 0) _ (Nat.le_refl _)]
/-- The number of the last one of the run is that of the one before. -/
theorem lrC_last (f : Int → Int) (O : List Int) : ∀ k, 0 < k → f ((lrC f O k).1.getD ((lrC f O k).1.length - 1) 0) = f (O.getD (k - 1) 0)
  | k + 1, _ => by
    by_cases hc : k = 0 ∨ ¬ f (O.getD k 0) = f (O.getD (k - 1) 0)
    · rw [lrC_yes hc]
      show f ((lrN f (lrC f O k).1 (O.getD k 0)).getD _ 0) = _
      rw [lrN_last]
      rfl
    · have h0 : ¬ k = 0 := fun h => hc (Or.inl h)
      have h1 : f (O.getD k 0) = f (O.getD (k - 1) 0) := Classical.not_not.1 (fun h => hc (Or.inr h))
      rw [lrC_no h0 h1, lrC_last f O k (by omega), ← h1]
      rfl
theorem lrC_len (f : Int → Int) (O : List Int) (k : Nat) : (lrC f O k).1.length ≤ k ∧ (lrC f O k).2.length ≤ k ∧ (0 < k → 0 < (lrC f O k).1.length) := by
  have h1 := lrS_len f (cpK f O k) (cpK f O k).length
  have h2 := cpK_len f O k
  refine ⟨by unfold lrC; omega, by unfold lrC; omega, fun h => ?_⟩
  unfold lrC
  refine h1.2.2 ?_
  obtain ⟨j, rfl⟩ : ∃ j, k = j + 1 := ⟨k - 1, by omega⟩
  clear h1 h2 h
  induction j with
  | zero => rw [cpK_yes (Or.inl rfl)]; simp
  | succ j ih =>
    by_cases hc : j + 1 = 0 ∨ ¬ f (O.getD (j + 1) 0) = f (O.getD (j + 1 - 1) 0)
    · rw [cpK_yes hc]; simp
    · rw [cpK_no (by omega) (Classical.not_not.1 (fun h => hc (Or.inr h)))]; exact ih
theorem cpK_in {f : Int → Int} {O : List Int} {P : Int → Prop} (hP : ∀ y ∈ O, P y) : ∀ k, k ≤ O.length → ∀ y ∈ cpK f O k, P y
  | 0, _ => by simp [cpK]
  | k + 1, hk => by
    have ih := cpK_in (f := f) hP k (by omega)
    intro y hy
    rw [cpK] at hy
    split at hy
    · rcases List.mem_append.1 hy with hy | hy
      · exact ih y hy
      · rw [List.mem_singleton] at hy
        rw [hy, List.getD_eq_getElem?_getD, List.getElem?_eq_getElem (show k < O.length by omega)]
        exact hP _ (List.getElem_mem _)
    · exact ih y hy
theorem lrC_in {f : Int → Int} {O : List Int} {P : Int → Prop} (hP : ∀ y ∈ O, P y) (k : Nat) (hk : k ≤ O.length) : (∀ y ∈ (lrC f O k).1, P y) ∧ (∀ y ∈ (lrC f O k).2, P y) :=
  lrS_in (fun j hj => by
    rw [List.getD_eq_getElem?_getD, List.getElem?_eq_getElem hj]
    exact cpK_in hP k hk _ (List.getElem_mem _)) _ (Nat.le_refl _)
def lrR (zs : List Lf) (fl : ByteArray) : List Int × Int := if lfsB zs then (if (flL zs fl zs.length).length = 0 then ([], 3) else ((lrC (nuL zs) (flL zs fl zs.length) (flL zs fl zs.length).length).2, 0)) else ([], 1)
theorem lrR_len (zs : List Lf) (fl : ByteArray) : (lrR zs fl).1.length ≤ 1000 := by
  unfold lrR
  split
  · rename_i hB
    split
    · simp
    · have h1 := (lrC_len (nuL zs) (flL zs fl zs.length) (flL zs fl zs.length).length).2.1
      have h2 := flL_len zs fl zs.length
      have h3 := (lfsB_ok hB).1
      simp only; omega
  · simp
end Go.Proofs.YtcjpplijbdfgbaaDoor
namespace Go.Proofs.YtcjpplijbdfgbaaDoor
open Seq2 Go.ChangeShapes Go.WideShapes Go.ChangeAt Go.RowKit
set_option linter.unusedVariables false
set_option linter.unusedSimpArgs false

theorem own_two {w w' : World} {base g h n cap : Nat} {L : List Int} {o : Obj} (ho : OwnI w base (.slice (some ⟨h, 0, none⟩) n cap) L) (hne : g ≠ h) (hg : (w.alloc o).grownBy w' (some g)) : OwnI w' base (.slice (some ⟨h, 0, none⟩) n cap) L :=
  World.ownsRow.kept (World.ownsRow.alloc ho o) hg (Or.inr (by simp [Value.ownBlock]; exact fun e => hne e.symm))
set_option maxRecDepth 100000 in
set_option maxHeartbeats 16000000 in
theorem lr_spec (ao : Option Addr) (n c : Nat) (zs : List Lf) (fl : ByteArray) (w : World) (hn : n ≤ 1048576) (hv : LfsV w ao n zs) :
    Calls Tryd.prog 32 #[.slice ao n c, .string fl] w (NewCI (lrR zs fl).1 (lrR zs fl).2 w) := by
  unfold NewCI
  have HV := Lib.hid hv
  have HZ := Lib.hid hv.1
  clear hv
  obtain ⟨i0, hi, hz0, hz1, hz2⟩ := info_parts infoI
  cases hB : lfsB zs with
  | false =>
    have HR := Lib.hid (show lrR zs fl = ([], 1) by unfold lrR; rw [hB]; rfl)
    rw [HR.out]
    go_enter Tryd.func32, Tryd.ntmps32
    go_wp2_with fail
    refine (validLs_spec ao n c zs _ hn HV.out).mono ?_
    rintro e w1 ⟨rfl, g1⟩
    have HG := Lib.hid g1
    clear g1
    rw [hB]
    go_wp2
    go_ret2
    exact ⟨_, rfl, World.ownsRow_nil _ _ _ _, HG.out⟩
  | true =>
    have hn16 : n ≤ 16 := by have := (lfsB_ok hB).1; have := HZ.out; omega
    have HLN := Lib.hid (fun j hj => lfN_of ((lfsB_ok hB).2 j hj).1)
    have HFT := Lib.hid (show (flL zs fl n).length = 0 → ftR zs fl = ([], 3) by intro h; unfold ftR; rw [hB, if_pos rfl, ← HZ.out, if_pos h])
    have HFU := Lib.hid (show ¬ (flL zs fl n).length = 0 → ftR zs fl = (flL zs fl n, 0) by intro h; unfold ftR; rw [hB, if_pos rfl, ← HZ.out, if_neg h])
    have HMR := Lib.hid (show lrR zs fl = if (flL zs fl n).length = 0 then ([], 3) else ((lrC (nuL zs) (flL zs fl n) (flL zs fl n).length).2, 0) by unfold lrR; rw [hB, if_pos rfl, ← HZ.out])
    by_cases h0 : (flL zs fl n).length = 0
    · have HR := Lib.hid (HMR.out.trans (if_pos h0))
      have HF := Lib.hid (HFT.out h0)
      rw [HR.out]
      clear h0
      go_enter Tryd.func32, Tryd.ntmps32
      go_wp2_with fail
      refine (validLs_spec ao n c zs _ hn HV.out).mono ?_
      rintro e w1 ⟨rfl, g1⟩
      have HG := Lib.hid g1
      clear g1
      rw [hB]
      go_wp2_with fail
      refine (ft_spec ao n c zs fl _ hn (HV.out.below HG.out)).mono ?_
      rintro e w2 ⟨v, rfl, ho, g2⟩
      have HG2 := Lib.hid (bseq HG.out g2)
      rw [HF.out] at ho ⊢
      clear ho g2
      go_wp2
      go_ret2
      exact ⟨_, rfl, World.ownsRow_nil _ _ _ _, HG2.out⟩
    · have HF := Lib.hid (HFU.out h0)
      have HR0 := Lib.hid (HMR.out.trans (if_neg h0))
      have HIN := Lib.hid (flL_in zs fl n)
      have HOL := Lib.hid (flL_len zs fl n)
      obtain ⟨f, hf⟩ : ∃ f, nuL zs = f := ⟨_, rfl⟩
      have HNU := Lib.hid (fun (j : Nat) => show f (j : Int) = (zs.getD j lf0).nu by rw [← hf]; simp [nuL])
      rw [hf] at HR0
      obtain ⟨O, hO⟩ : ∃ O, flL zs fl n = O := ⟨_, rfl⟩
      rw [hO] at HF HIN HOL HR0 h0
      have HLI := Lib.hid (fun k (hk : k ≤ O.length) => lrC_in (f := f) HIN.out k hk)
      have HLL := Lib.hid (lrC_len f O)
      have HLS := Lib.hid (lrC_last f O)
      have HYS := Lib.hid (fun k h => lrC_yes (f := f) (O := O) (k := k) h)
      have HNO := Lib.hid (fun k h0 h => lrC_no (f := f) (O := O) (k := k) h0 h)
      have HL0 := Lib.hid (show lrC f O 0 = ([], []) from rfl)
      clear hO HMR HFT HFU hf
      obtain ⟨M, hM⟩ : ∃ M, O.length = M := ⟨_, rfl⟩
      have HM := Lib.hid hM
      rw [hM] at h0 HOL HR0
      have hM16 : M ≤ 16 := by have := HOL.out; omega
      have hM1 : 1 ≤ M := by omega
      clear hM
      go_enter Tryd.func32, Tryd.ntmps32
      go_wp2_with fail
      refine (validLs_spec ao n c zs _ hn HV.out).mono ?_
      rintro e w1 ⟨rfl, g1⟩
      have HG := Lib.hid g1
      clear g1
      rw [hB]
      go_wp2_with fail
      refine (ft_spec ao n c zs fl _ hn (HV.out.below HG.out)).mono ?_
      rintro e w2 ⟨v, rfl, ho, g2⟩
      have HG2 := Lib.hid (bseq HG.out g2)
      rw [HF.out] at ho ⊢
      have hoo : OwnI w2 w1.heap.size v O := ho
      obtain ⟨go, cap, rfl⟩ := hoo.some (by rw [HM.out]; omega)
      have HIB := Lib.hid hoo.inB.2.2.2
      rw [HM.out]
      have o1 := World.ownsRow_made w2 (e := 2) (base := w2.heap.size) (size := 1) #[] 0 (Nat.le_refl _) (by unfold maxLen; omega) rfl
      have o2 := World.ownsRow_made (w2.alloc (.cells #[] 2)) (e := 2) (base := w2.heap.size) (size := 1) #[] 0 (by simp) (by unfold maxLen; omega) rfl
      rw [show (w2.alloc (.cells #[] 2)).heap.size = w2.heap.size + 1 by simp] at o2
      have HO1 := Lib.hid (show OwnI ((w2.alloc (.cells #[] 2)).alloc (.cells #[] 2)) w2.heap.size (.slice (some ⟨w2.heap.size, 0, none⟩) 0 0) [] from World.ownsRow.alloc o1 _)
      have HO2 := Lib.hid (show OwnI ((w2.alloc (.cells #[] 2)).alloc (.cells #[] 2)) w2.heap.size (.slice (some ⟨w2.heap.size + 1, 0, none⟩) 0 0) [] from o2)
      have HBW := Lib.hid (two_allocs (w := w2) (.cells #[] 2) (.cells #[] 2))
      clear ho g2 hoo h0 o1 o2
      go_wp2
      go_loopw [8, 9, 10, 11] (fun bv rv iv u11 wr => ∃ (k g bg rc bc : Nat), k ≤ M ∧ iv = .int .i64 k ∧ rv = .slice (some ⟨g, 0, none⟩) (lrC f O k).1.length rc ∧ bv = .slice (some ⟨bg, 0, none⟩) (lrC f O k).2.length bc ∧ g ≠ bg ∧ Hid (OwnI wr w2.heap.size rv (lrC f O k).1) ∧ Hid (OwnI wr w2.heap.size bv (lrC f O k).2) ∧ Hid (Below w2.heap.size w2 wr)) (fun _ _ i _ _ => M - (intOf i).toNat)
      case atStart => exact ⟨0, w2.heap.size + 1, w2.heap.size, 0, 0, by omega, rfl, by rw [HL0.out]; rfl, by rw [HL0.out]; rfl, by omega, Lib.hid (by rw [HL0.out]; exact HO2.out), Lib.hid (by rw [HL0.out]; exact HO1.out), HBW⟩
      case round =>
        obtain ⟨k, g, bg, rc, bc, hk, rfl, rfl, rfl, hgh, hor, hob, hb⟩ := hrel
        by_cases hlt : k < M
        · have HIK := Lib.hid (HIB.out.below hb.out)
          have HVK := Lib.hid (HV.out.below (bseq HG2.out hb.out))
          obtain ⟨a, han, ea⟩ := take_in HIN.out k (by rw [HM.out]; exact hlt)
          have HNA := Lib.hid (show f (O.getD k 0) = (zs.getD a lf0).nu by rw [ea, HNU.out])
          have hua := (HLN.out a (by rw [← HZ.out]; exact han)).nu
          obtain ⟨b, rfl, qb1, qb2, qb3⟩ := lfs_cells HVK.out han
          clear qb1 qb2 qb3
          obtain ⟨ua, hqa⟩ : ∃ q, (zs.getD a lf0).nu = q := ⟨_, rfl⟩
          have HCA := Lib.hid (fun (w' : World) (hh : Below w2.heap.size w2 w') => show b < w'.heap.size ∧ w'.cell? ⟨b, a * 9 + 2, none⟩ = some (.int .i64 ua) by
            obtain ⟨b', hb', hbw', _, a2⟩ := lfs_cells (HV.out.below (bseq HG2.out hh)) han
            have hbb : b = b' := by simpa using hb'
            subst hbb
            rw [hqa] at a2
            exact ⟨hbw', a2⟩)
          have HCO := Lib.hid (fun (w' : World) (hh : Below w2.heap.size w2 w') => show go < w'.heap.size ∧ w'.cell? ⟨go, k, none⟩ = some (.int .i64 (a : Int)) by
            have h2 := HIB.out.below hh
            have h3 := h2.2 k (by rw [HM.out]; exact hlt)
            rw [ea] at h3
            exact ⟨h2.1, h3⟩)
          rw [hqa] at hua HNA
          have HLK := Lib.hid (HLL.out k)
          have HEA := Lib.hid ea
          have HRI := Lib.hid (HLI.out k (by rw [HM.out]; omega)).1
          have HLA := Lib.hid (HLS.out k)
          have HYK := Lib.hid (HYS.out k)
          have HNK := Lib.hid (HNO.out k)
          rw [ea] at HYK
          obtain ⟨R, hR⟩ : ∃ R, (lrC f O k).1 = R := ⟨_, rfl⟩
          obtain ⟨Bs, hBs⟩ : ∃ R, (lrC f O k).2 = R := ⟨_, rfl⟩
          have HRB := Lib.hid (And.intro hR hBs)
          rw [hR] at hor HLK HRI HLA HYK ⊢
          rw [hBs] at hob HLK HYK ⊢
          clear ea hqa hR hBs
          obtain ⟨rl, hrl⟩ : ∃ l, R.length = l := ⟨_, rfl⟩
          obtain ⟨bl, hbl⟩ : ∃ l, Bs.length = l := ⟨_, rfl⟩
          have HRL := Lib.hid hrl
          have HBL := Lib.hid hbl
          rw [hrl] at hor HLK HLA ⊢
          rw [hbl] at hob HLK ⊢
          have hrl16 : rl ≤ 16 := by have := HLK.out.1; omega
          have hbl16 : bl ≤ 16 := by have := HLK.out.2.1; omega
          clear hrl hbl
          obtain ⟨hbw, ca⟩ := HCA.out _ hb.out
          obtain ⟨hgw, co⟩ := HCO.out _ hb.out
          by_cases hk0 : k = 0
          · have hr0 : rl = 0 := by have := HLK.out.1; omega
            have hd0 : decide (0 < rl) = false := by simp; omega
            have hd1 : decide ((0 : Int) < (rl : Int)) = false := by simp; omega
            have hd2 : ¬ 0 < rl := by omega
            have hd3 : (0 < rl) = False := by simp; omega
            have HSTEP := Lib.hid (show lrC f O (k + 1) = (R ++ [(a : Int)], lrB (R ++ [(a : Int)]) Bs) by rw [HYK.out (Or.inl hk0), lrN_one (by rw [HRL.out]; exact hr0)])
            clear hk0 hr0 hd2
            go_wp2
            refine wp_region_below (by kernel_rfl) (by kernel_rfl) ?_
            repeat (first | (refine wq_val ?_ ?_; (focus (go_simp; done)); apply Exists.intro; refine ⟨fun w1 hw1 => ?_, ?_⟩; (obtain ⟨hc, hf⟩ := bcell hw1; clear hw1; go_simp; (first | done | with_reducible rfl | (with_reducible exact eql2 _ _ _) | (with_reducible exact neq2 _ _ _))); (try simp only [Act.put, List.setIfInBounds_toArray, List.set_cons_zero, List.set_cons_succ])) | (refine wq_skip ?_ ?_; (focus (go_simp; (first | done | (simp [undef]; done)))); (try simp only [Act.put, List.setIfInBounds_toArray, List.set_cons_zero, List.set_cons_succ])))
            refine wq_nil ?_
            intro w3 hb3
            have HB3 := Lib.hid (hb.out.trans (hb3.mono hb.out.size))
            have HR3 := Lib.hid (show OwnI w3 w2.heap.size _ R from hor.out.below hb3)
            have HS3 := Lib.hid (show OwnI w3 w2.heap.size _ Bs from hob.out.below hb3)
            clear hb3 hbw ca hgw co
            obtain ⟨hbw, ca⟩ := HCA.out _ HB3.out
            obtain ⟨hgw, co⟩ := HCO.out _ HB3.out
            go_wp2
            refine wp_region_below (by kernel_rfl) (by kernel_rfl) ?_
            repeat (first | (refine wq_val ?_ ?_; (focus (go_simp; done)); apply Exists.intro; refine ⟨fun w1 hw1 => ?_, ?_⟩; (obtain ⟨hc, hf⟩ := bcell hw1; clear hw1; go_simp; (first | done | with_reducible rfl | (with_reducible exact eql2 _ _ _) | (with_reducible exact neq2 _ _ _))); (try simp only [Act.put, List.setIfInBounds_toArray, List.set_cons_zero, List.set_cons_succ])) | (refine wq_skip ?_ ?_; (focus (go_simp; (first | done | (simp [undef]; done)))); (try simp only [Act.put, List.setIfInBounds_toArray, List.set_cons_zero, List.set_cons_succ])))
            refine wq_nil ?_
            intro w3 hb3
            have HB3 := Lib.hid (HB3.out.trans (hb3.mono HB3.out.size))
            have HR3 := Lib.hid (show OwnI w3 w2.heap.size _ R from HR3.out.below hb3)
            have HS3 := Lib.hid (show OwnI w3 w2.heap.size _ Bs from HS3.out.below hb3)
            clear hb3 hbw ca hgw co
            obtain ⟨hbw, ca⟩ := HCA.out _ HB3.out
            obtain ⟨hgw, co⟩ := HCO.out _ HB3.out
            have hown := HR3.out
            unfold OwnI at hown
            rw [HRL.out] at hown
            have hsz : w2.heap.size ≤ w3.heap.size := HB3.out.size
            go_wp2_with (at_builtin; refine wpList_app1_at rfl _ _ 55 rfl w2.heap.size 2 i0 (.int .i64 0) 8 Tryd.underlying55 hi hz0 hz1 hz2 rfl _ _ _ rfl hown _ rfl (by first | rfl | simp) rfl (by omega) (by omega) hsz ?_)
            intro v5 w5 ho5 hg5 hk5
            have HO5 := Lib.hid (show OwnI w5 w2.heap.size v5 (R ++ [(a : Int)]) from OwnI.app (by rw [HRL.out]) ho5)
            have HB5 := Lib.hid (below_app HB3.out (Nat.le_refl _) hsz hown hg5)
            have HS5 := Lib.hid (own_two HS3.out hgh hg5)
            obtain ⟨g5, rc5, hv5⟩ := HO5.out.some (by simp)
            subst hv5
            have hgh5 : g5 ≠ bg := by
              have hl := (World.ownsRow.lt HS3.out bg rfl).2
              rcases hk5 with hk5 | hk5
              · have e : g5 = g := by simpa [Value.ownBlock] using hk5
                rw [e]; exact hgh
              · have e : g5 = w3.heap.size + 1 := by simpa [Value.ownBlock] using hk5
                (try simp only [World.size_alloc] at hl e)
                omega
            have HL5 := Lib.hid (show (R ++ [(a : Int)]).length = rl + 1 by rw [List.length_append, HRL.out]; rfl)
            rw [HL5.out] at HO5 ⊢
            clear ho5 hg5 hk5 hown hbw ca hgw co
            by_cases hcmp : bl < rl + 1
            · have hc1 : decide ((bl : Int) < ((rl + 1 : Nat) : Int)) = true := by simp; omega
              have hc2 : (bl : Int) < (rl : Int) + 1 := by omega
              have HST := Lib.hid (show lrB (R ++ [(a : Int)]) Bs = R ++ [(a : Int)] by unfold lrB; rw [if_pos (by rw [HL5.out, HBL.out]; exact hcmp)])
              have hib := HO5.out
              rw [← HL5.out] at hib
              have HI5 := Lib.hid hib.inB.2.2.2
              clear hib
              go_wp2_with fail
              refine (own_spec g5 rc5 (rl + 1) (R ++ [(a : Int)]) _ (by rw [HL5.out]; exact Nat.le_refl _) (by rw [HL5.out]; omega) HI5.out).mono ?_
              rintro e w6 ⟨v6, rfl, ho6, g6⟩
              have HB6 := Lib.hid (HB5.out.trans (g6.mono HB5.out.size))
              have HR6 := Lib.hid (show OwnI w6 w2.heap.size _ (R ++ [(a : Int)]) from HO5.out.below g6)
              rw [List.take_of_length_le (by rw [HL5.out]; exact Nat.le_refl _)] at ho6
              have HS6 := Lib.hid (show OwnI w6 w5.heap.size v6 (R ++ [(a : Int)]) from ho6)
              obtain ⟨h6, bc6, hv6⟩ := HS6.out.some (by simp)
              subst hv6
              have hgh6 : g5 ≠ h6 := by
                have h7 := (World.ownsRow.lt HO5.out g5 rfl).2
                have h8 := (World.ownsRow.lt HS6.out h6 rfl).1
                omega
              have HS7 := Lib.hid (show OwnI w6 w2.heap.size _ (R ++ [(a : Int)]) from own_lower HS6.out HB5.out.size)
              clear ho6 g6
              go_wp2
              go_roundw
              case rel => exact ⟨k + 1, g5, h6, rc5, bc6, by omega, by go_num, by rw [HSTEP.out, HL5.out], by rw [HSTEP.out, HST.out]; simp, hgh6, Lib.hid (by rw [HSTEP.out]; exact HR6.out), Lib.hid (by rw [HSTEP.out, HST.out]; have h9 := HS7.out; rw [show (R ++ [(a : Int)]).length = R.length + 1 by simp] at h9; exact h9), HB6⟩
              case measure => simp [intOf]; omega
            · have hc1 : decide ((bl : Int) < ((rl + 1 : Nat) : Int)) = false := by simp; omega
              have hc2 : ¬ (bl : Int) < (rl : Int) + 1 := by omega
              have HST := Lib.hid (show lrB (R ++ [(a : Int)]) Bs = Bs by unfold lrB; rw [if_neg (by rw [HL5.out, HBL.out]; exact hcmp)])
              go_wp2
              go_roundw
              case rel => exact ⟨k + 1, g5, bg, rc5, bc, by omega, by go_num, by rw [HSTEP.out, HL5.out], by rw [HSTEP.out, HST.out, HBL.out], hgh5, Lib.hid (by rw [HSTEP.out]; exact HO5.out), Lib.hid (by rw [HSTEP.out, HST.out]; exact HS5.out), HB5⟩
              case measure => simp [intOf]; omega
          · have hr0 : 0 < rl := HLK.out.2.2 (by omega)
            obtain ⟨d, hdn, ed⟩ := take_in HRI.out (rl - 1) (by rw [HRL.out]; omega)
            obtain ⟨rr, hrr⟩ : ∃ x, x = rl - 1 := ⟨_, rfl⟩
            rw [← hrr] at ed
            have HRR := Lib.hid hrr
            have hud := (HLN.out d (by rw [← HZ.out]; exact hdn)).nu
            obtain ⟨ud, hqd⟩ : ∃ q, (zs.getD d lf0).nu = q := ⟨_, rfl⟩
            have HCD := Lib.hid (fun (w' : World) (hh : Below w2.heap.size w2 w') => show w'.cell? ⟨b, d * 9 + 2, none⟩ = some (.int .i64 ud) by
              obtain ⟨b', hb', hbw', _, a2⟩ := lfs_cells (HV.out.below (bseq HG2.out hh)) hdn
              have hbb : b = b' := by simpa using hb'
              subst hbb
              rw [hqd] at a2
              exact a2)
            have HCR := Lib.hid (fun (w' : World) (hh : OwnI w' w2.heap.size (.slice (some ⟨g, 0, none⟩) rl rc) R) => show g < w'.heap.size ∧ w'.cell? ⟨g, rr, none⟩ = some (.int .i64 (d : Int)) by
              have h2 := hh.inB.2.2.2
              have h3 := h2.2 rr (by rw [HRL.out]; have := HRR.out; omega)
              rw [ed] at h3
              exact ⟨h2.1, h3⟩)
            have HLD := Lib.hid (show f (O.getD (k - 1) 0) = ud by
              have h2 := HLA.out (by omega)
              rw [← HRR.out, ed, HNU.out, hqd] at h2
              exact h2.symm)
            have HFD := Lib.hid (show f (R.getD (R.length - 1) 0) = ud by rw [HRL.out, ← HRR.out, ed, HNU.out, hqd])
            rw [hqd] at hud
            clear hqd ed hrr
            have hd0 : decide (0 < rl) = true := by simpa using hr0
            have hd1 : decide ((0 : Int) < (rl : Int)) = true := by simp; omega
            have hrm : IntKind.i64.wrap ((rl : Int) - 1) = ((rr : Nat) : Int) := by rw [IntWalk.i64_in _ (by omega)]; have := HRR.out; omega
            have hrr2 : rr < rl := by have := HRR.out; omega
            have e1 : IntKind.i64.wrap (ud + 1) = ud + 1 := IntWalk.i64_in _ (by omega)
            have cd := HCD.out _ hb.out
            obtain ⟨hgr, cr⟩ := HCR.out _ hor.out
            cases hq : (ud == ua) with
            | true =>
              have hqq : ud = ua := by simpa using hq
              have HSTEP := Lib.hid (show lrC f O (k + 1) = (R, Bs) by rw [HNK.out hk0 (by rw [HNA.out, HLD.out, hqq]), ← HRB.out.1, ← HRB.out.2])
              clear hk0 hqq
              have hq1 : decide (ud = ua) = true := by simpa using hq
              go_wp2
              refine wp_region_below (by kernel_rfl) (by kernel_rfl) ?_
              repeat (first | (refine wq_val ?_ ?_; (focus (go_simp; done)); apply Exists.intro; refine ⟨fun w1 hw1 => ?_, ?_⟩; (obtain ⟨hc, hf⟩ := bcell hw1; clear hw1; go_simp; (first | done | with_reducible rfl | (with_reducible exact eql2 _ _ _) | (with_reducible exact neq2 _ _ _))); (try simp only [Act.put, List.setIfInBounds_toArray, List.set_cons_zero, List.set_cons_succ])) | (refine wq_skip ?_ ?_; (focus (go_simp; (first | done | (simp [undef]; done)))); (try simp only [Act.put, List.setIfInBounds_toArray, List.set_cons_zero, List.set_cons_succ])))
              refine wq_nil ?_
              intro w3 hb3
              have HB3 := Lib.hid (hb.out.trans (hb3.mono hb.out.size))
              have HR3 := Lib.hid (show OwnI w3 w2.heap.size _ R from hor.out.below hb3)
              have HS3 := Lib.hid (show OwnI w3 w2.heap.size _ Bs from hob.out.below hb3)
              clear hb3
              go_wp2
              go_roundw
              case rel => exact ⟨k + 1, g, bg, rc, bc, by omega, by go_num, by rw [HSTEP.out, HRL.out], by rw [HSTEP.out, HBL.out], hgh, Lib.hid (by rw [HSTEP.out]; exact HR3.out), Lib.hid (by rw [HSTEP.out]; exact HS3.out), HB3⟩
              case measure => simp [intOf]; omega
            | false =>
              have hne : ¬ ud = ua := by simpa using hq
              have hq1 : decide (ud = ua) = false := by simpa using hq
              cases hu : (ud + 1 == ua) with
              | true =>
                have hu2 : (ud + 1 != ua) = false := by simp only [bne, hu]; rfl
                have huu : ud + 1 = ua := by simpa using hu
                have hu3 : decide (ud + 1 = ua) = true := by simpa using huu
                have HSTEP := Lib.hid (show lrC f O (k + 1) = (R ++ [(a : Int)], lrB (R ++ [(a : Int)]) Bs) by
                  rw [HYK.out (Or.inr (by rw [← HEA.out, HNA.out, HLD.out]; exact fun e => hne e.symm)), lrN_yes (by rw [HFD.out, ← HEA.out, HNA.out]; exact huu)])
                clear hk0 huu hne
                go_wp2
                refine wp_region_below (by kernel_rfl) (by kernel_rfl) ?_
                repeat (first | (refine wq_val ?_ ?_; (focus (go_simp; done)); apply Exists.intro; refine ⟨fun w1 hw1 => ?_, ?_⟩; (obtain ⟨hc, hf⟩ := bcell hw1; clear hw1; go_simp; (first | done | with_reducible rfl | (with_reducible exact eql2 _ _ _) | (with_reducible exact neq2 _ _ _))); (try simp only [Act.put, List.setIfInBounds_toArray, List.set_cons_zero, List.set_cons_succ])) | (refine wq_skip ?_ ?_; (focus (go_simp; (first | done | (simp [undef]; done)))); (try simp only [Act.put, List.setIfInBounds_toArray, List.set_cons_zero, List.set_cons_succ])))
                refine wq_nil ?_
                intro w3 hb3
                have HB3 := Lib.hid (hb.out.trans (hb3.mono hb.out.size))
                have HR3 := Lib.hid (show OwnI w3 w2.heap.size _ R from hor.out.below hb3)
                have HS3 := Lib.hid (show OwnI w3 w2.heap.size _ Bs from hob.out.below hb3)
                clear hb3 hbw ca hgw co cd hgr cr
                obtain ⟨hbw, ca⟩ := HCA.out _ HB3.out
                obtain ⟨hgw, co⟩ := HCO.out _ HB3.out
                have cd := HCD.out _ HB3.out
                obtain ⟨hgr, cr⟩ := HCR.out _ HR3.out
                go_wp2
                refine wp_region_below (by kernel_rfl) (by kernel_rfl) ?_
                repeat (first | (refine wq_val ?_ ?_; (focus (go_simp; done)); apply Exists.intro; refine ⟨fun w1 hw1 => ?_, ?_⟩; (obtain ⟨hc, hf⟩ := bcell hw1; clear hw1; go_simp; (first | done | with_reducible rfl | (with_reducible exact eql2 _ _ _) | (with_reducible exact neq2 _ _ _))); (try simp only [Act.put, List.setIfInBounds_toArray, List.set_cons_zero, List.set_cons_succ])) | (refine wq_skip ?_ ?_; (focus (go_simp; (first | done | (simp [undef]; done)))); (try simp only [Act.put, List.setIfInBounds_toArray, List.set_cons_zero, List.set_cons_succ])))
                refine wq_nil ?_
                intro w3 hb3
                have HB3 := Lib.hid (HB3.out.trans (hb3.mono HB3.out.size))
                have HR3 := Lib.hid (show OwnI w3 w2.heap.size _ R from HR3.out.below hb3)
                have HS3 := Lib.hid (show OwnI w3 w2.heap.size _ Bs from HS3.out.below hb3)
                clear hb3 hbw ca hgw co cd hgr cr
                obtain ⟨hbw, ca⟩ := HCA.out _ HB3.out
                obtain ⟨hgw, co⟩ := HCO.out _ HB3.out
                have cd := HCD.out _ HB3.out
                obtain ⟨hgr, cr⟩ := HCR.out _ HR3.out
                have hown := HR3.out
                unfold OwnI at hown
                rw [HRL.out] at hown
                have hsz : w2.heap.size ≤ w3.heap.size := HB3.out.size
                go_wp2_with (at_builtin; refine wpList_app1_at rfl _ _ 55 rfl w2.heap.size 2 i0 (.int .i64 0) 8 Tryd.underlying55 hi hz0 hz1 hz2 rfl _ _ _ rfl hown _ rfl (by first | rfl | simp) rfl (by omega) (by omega) hsz ?_)
                intro v5 w5 ho5 hg5 hk5
                have HO5 := Lib.hid (show OwnI w5 w2.heap.size v5 (R ++ [(a : Int)]) from OwnI.app (by rw [HRL.out]) ho5)
                have HB5 := Lib.hid (below_app HB3.out (Nat.le_refl _) hsz hown hg5)
                have HS5 := Lib.hid (own_two HS3.out hgh hg5)
                obtain ⟨g5, rc5, hv5⟩ := HO5.out.some (by simp)
                subst hv5
                have hgh5 : g5 ≠ bg := by
                  have hl := (World.ownsRow.lt HS3.out bg rfl).2
                  rcases hk5 with hk5 | hk5
                  · have e : g5 = g := by simpa [Value.ownBlock] using hk5
                    rw [e]; exact hgh
                  · have e : g5 = w3.heap.size + 1 := by simpa [Value.ownBlock] using hk5
                    (try simp only [World.size_alloc] at hl e)
                    omega
                have HL5 := Lib.hid (show (R ++ [(a : Int)]).length = rl + 1 by rw [List.length_append, HRL.out]; rfl)
                rw [HL5.out] at HO5 ⊢
                clear ho5 hg5 hk5 hown hbw ca hgw co cd hgr cr
                by_cases hcmp : bl < rl + 1
                · have hc1 : decide ((bl : Int) < ((rl + 1 : Nat) : Int)) = true := by simp; omega
                  have hc2 : (bl : Int) < (rl : Int) + 1 := by omega
                  have HST := Lib.hid (show lrB (R ++ [(a : Int)]) Bs = R ++ [(a : Int)] by unfold lrB; rw [if_pos (by rw [HL5.out, HBL.out]; exact hcmp)])
                  have hib := HO5.out
                  rw [← HL5.out] at hib
                  have HI5 := Lib.hid hib.inB.2.2.2
                  clear hib
                  go_wp2_with fail
                  refine (own_spec g5 rc5 (rl + 1) (R ++ [(a : Int)]) _ (by rw [HL5.out]; exact Nat.le_refl _) (by rw [HL5.out]; omega) HI5.out).mono ?_
                  rintro e w6 ⟨v6, rfl, ho6, g6⟩
                  have HB6 := Lib.hid (HB5.out.trans (g6.mono HB5.out.size))
                  have HR6 := Lib.hid (show OwnI w6 w2.heap.size _ (R ++ [(a : Int)]) from HO5.out.below g6)
                  rw [List.take_of_length_le (by rw [HL5.out]; exact Nat.le_refl _)] at ho6
                  have HS6 := Lib.hid (show OwnI w6 w5.heap.size v6 (R ++ [(a : Int)]) from ho6)
                  obtain ⟨h6, bc6, hv6⟩ := HS6.out.some (by simp)
                  subst hv6
                  have hgh6 : g5 ≠ h6 := by
                    have h7 := (World.ownsRow.lt HO5.out g5 rfl).2
                    have h8 := (World.ownsRow.lt HS6.out h6 rfl).1
                    omega
                  have HS7 := Lib.hid (show OwnI w6 w2.heap.size _ (R ++ [(a : Int)]) from own_lower HS6.out HB5.out.size)
                  clear ho6 g6
                  go_wp2
                  go_roundw
                  case rel => exact ⟨k + 1, g5, h6, rc5, bc6, by omega, by go_num, by rw [HSTEP.out, HL5.out], by rw [HSTEP.out, HST.out]; simp, hgh6, Lib.hid (by rw [HSTEP.out]; exact HR6.out), Lib.hid (by rw [HSTEP.out, HST.out]; have h9 := HS7.out; rw [show (R ++ [(a : Int)]).length = R.length + 1 by simp] at h9; exact h9), HB6⟩
                  case measure => simp [intOf]; omega
                · have hc1 : decide ((bl : Int) < ((rl + 1 : Nat) : Int)) = false := by simp; omega
                  have hc2 : ¬ (bl : Int) < (rl : Int) + 1 := by omega
                  have HST := Lib.hid (show lrB (R ++ [(a : Int)]) Bs = Bs by unfold lrB; rw [if_neg (by rw [HL5.out, HBL.out]; exact hcmp)])
                  go_wp2
                  go_roundw
                  case rel => exact ⟨k + 1, g5, bg, rc5, bc, by omega, by go_num, by rw [HSTEP.out, HL5.out], by rw [HSTEP.out, HST.out, HBL.out], hgh5, Lib.hid (by rw [HSTEP.out]; exact HO5.out), Lib.hid (by rw [HSTEP.out, HST.out]; exact HS5.out), HB5⟩
                  case measure => simp [intOf]; omega
              | false =>
                have hu2 : (ud + 1 != ua) = true := by simp only [bne, hu]; rfl
                have huu : ¬ ud + 1 = ua := by simpa using hu
                have hu3 : decide (ud + 1 = ua) = false := by simpa using huu
                have HSTEP := Lib.hid (show lrC f O (k + 1) = ([] ++ [(a : Int)], lrB ([] ++ [(a : Int)]) Bs) by
                  rw [HYK.out (Or.inr (by rw [← HEA.out, HNA.out, HLD.out]; exact fun e => hne e.symm)), lrN_no (by rw [HRL.out]; exact hr0) (by rw [HFD.out, ← HEA.out, HNA.out]; exact huu)])
                clear hk0 huu hne
                go_wp2
                refine wp_region_below (by kernel_rfl) (by kernel_rfl) ?_
                repeat (first | (refine wq_val ?_ ?_; (focus (go_simp; done)); apply Exists.intro; refine ⟨fun w1 hw1 => ?_, ?_⟩; (obtain ⟨hc, hf⟩ := bcell hw1; clear hw1; go_simp; (first | done | with_reducible rfl | (with_reducible exact eql2 _ _ _) | (with_reducible exact neq2 _ _ _))); (try simp only [Act.put, List.setIfInBounds_toArray, List.set_cons_zero, List.set_cons_succ])) | (refine wq_skip ?_ ?_; (focus (go_simp; (first | done | (simp [undef]; done)))); (try simp only [Act.put, List.setIfInBounds_toArray, List.set_cons_zero, List.set_cons_succ])))
                refine wq_nil ?_
                intro w3 hb3
                have HB3 := Lib.hid (hb.out.trans (hb3.mono hb.out.size))
                have HR3 := Lib.hid (show OwnI w3 w2.heap.size _ R from hor.out.below hb3)
                have HS3 := Lib.hid (show OwnI w3 w2.heap.size _ Bs from hob.out.below hb3)
                clear hb3 hbw ca hgw co cd hgr cr
                obtain ⟨hbw, ca⟩ := HCA.out _ HB3.out
                obtain ⟨hgw, co⟩ := HCO.out _ HB3.out
                have cd := HCD.out _ HB3.out
                obtain ⟨hgr, cr⟩ := HCR.out _ HR3.out
                go_wp2
                refine wp_region_below (by kernel_rfl) (by kernel_rfl) ?_
                repeat (first | (refine wq_val ?_ ?_; (focus (go_simp; done)); apply Exists.intro; refine ⟨fun w1 hw1 => ?_, ?_⟩; (obtain ⟨hc, hf⟩ := bcell hw1; clear hw1; go_simp; (first | done | with_reducible rfl | (with_reducible exact eql2 _ _ _) | (with_reducible exact neq2 _ _ _))); (try simp only [Act.put, List.setIfInBounds_toArray, List.set_cons_zero, List.set_cons_succ])) | (refine wq_skip ?_ ?_; (focus (go_simp; (first | done | (simp [undef]; done)))); (try simp only [Act.put, List.setIfInBounds_toArray, List.set_cons_zero, List.set_cons_succ])))
                refine wq_nil ?_
                intro w3 hb3
                have HB3 := Lib.hid (HB3.out.trans (hb3.mono HB3.out.size))
                have HR3 := Lib.hid (show OwnI w3 w2.heap.size _ R from HR3.out.below hb3)
                have HS3 := Lib.hid (show OwnI w3 w2.heap.size _ Bs from HS3.out.below hb3)
                clear hb3 hbw ca hgw co cd hgr cr
                obtain ⟨hbw, ca⟩ := HCA.out _ HB3.out
                obtain ⟨hgw, co⟩ := HCO.out _ HB3.out
                have cd := HCD.out _ HB3.out
                obtain ⟨hgr, cr⟩ := HCR.out _ HR3.out
                have on := World.ownsRow_made w3 (e := 2) (base := w2.heap.size) (size := 1) #[] 0 HB3.out.size (by unfold maxLen; omega) rfl
                have hgh2 : w3.heap.size ≠ bg := by
                  have := (World.ownsRow.lt HS3.out bg rfl).2
                  omega
                have HBX := Lib.hid (HB3.out.alloc HB3.out.size (.cells #[] 2))
                have HRX := Lib.hid (show OwnI (w3.alloc (.cells #[] 2)) w2.heap.size (.slice (some ⟨w3.heap.size, 0, none⟩) 0 0) [] from on)
                have HSX := Lib.hid (show OwnI (w3.alloc (.cells #[] 2)) w2.heap.size _ Bs from World.ownsRow.alloc HS3.out _)
                clear on HR3 HS3 HB3 hgh
                have hgh := hgh2
                clear hgh2
                obtain ⟨hbx, cax⟩ := HCA.out _ HBX.out
                obtain ⟨hgx, cox⟩ := HCO.out _ HBX.out
                have HB3 := HBX
                have HR3 := HRX
                have HS3 := HSX
                clear HBX HRX HSX
                have hown := HR3.out
                unfold OwnI at hown
                rw [List.length_nil] at hown
                have hsz : w2.heap.size ≤ (w3.alloc (.cells #[] 2)).heap.size := HB3.out.size
                go_wp2_with (at_builtin; refine wpList_app1_at rfl _ _ 55 rfl w2.heap.size 2 i0 (.int .i64 0) 8 Tryd.underlying55 hi hz0 hz1 hz2 rfl _ _ _ rfl hown _ rfl (by first | rfl | simp) rfl (by omega) (by omega) hsz ?_)
                intro v5 w5 ho5 hg5 hk5
                have HO5 := Lib.hid (show OwnI w5 w2.heap.size v5 (([] : List Int) ++ [(a : Int)]) from OwnI.app (by rfl) ho5)
                have HB5 := Lib.hid (below_app HB3.out (Nat.le_refl _) hsz hown hg5)
                have HS5 := Lib.hid (own_two HS3.out hgh hg5)
                obtain ⟨g5, rc5, hv5⟩ := HO5.out.some (by simp)
                subst hv5
                have hgh5 : g5 ≠ bg := by
                  have hl := (World.ownsRow.lt HS3.out bg rfl).2
                  rcases hk5 with hk5 | hk5
                  · have e : g5 = w3.heap.size := by simpa [Value.ownBlock] using hk5
                    rw [e]; exact hgh
                  · have e : g5 = (w3.alloc (.cells #[] 2)).heap.size + 1 := by simpa [Value.ownBlock] using hk5
                    (try simp only [World.size_alloc] at hl e)
                    omega
                have HL5 := Lib.hid (show (([] : List Int) ++ [(a : Int)]).length = 0 + 1 by rw [List.length_append, List.length_nil]; rfl)
                rw [HL5.out] at HO5 ⊢
                clear ho5 hg5 hk5 hown hbw ca hgw co cd hgr cr hbx cax hgx cox
                by_cases hcmp : bl < 0 + 1
                · have hc1 : decide ((bl : Int) < ((0 + 1 : Nat) : Int)) = true := by simp; omega
                  have hc2 : (bl : Int) < ((0 : Nat) : Int) + 1 := by omega
                  have HST := Lib.hid (show lrB (([] : List Int) ++ [(a : Int)]) Bs = ([] : List Int) ++ [(a : Int)] by unfold lrB; rw [if_pos (by rw [HL5.out, HBL.out]; exact hcmp)])
                  have hib := HO5.out
                  rw [← HL5.out] at hib
                  have HI5 := Lib.hid hib.inB.2.2.2
                  clear hib
                  go_wp2_with fail
                  refine (own_spec g5 rc5 (0 + 1) (([] : List Int) ++ [(a : Int)]) _ (by rw [HL5.out]; exact Nat.le_refl _) (by rw [HL5.out]; omega) HI5.out).mono ?_
                  rintro e w6 ⟨v6, rfl, ho6, g6⟩
                  have HB6 := Lib.hid (HB5.out.trans (g6.mono HB5.out.size))
                  have HR6 := Lib.hid (show OwnI w6 w2.heap.size _ (([] : List Int) ++ [(a : Int)]) from HO5.out.below g6)
                  rw [List.take_of_length_le (by rw [HL5.out]; exact Nat.le_refl _)] at ho6
                  have HS6 := Lib.hid (show OwnI w6 w5.heap.size v6 (([] : List Int) ++ [(a : Int)]) from ho6)
                  obtain ⟨h6, bc6, hv6⟩ := HS6.out.some (by simp)
                  subst hv6
                  have hgh6 : g5 ≠ h6 := by
                    have h7 := (World.ownsRow.lt HO5.out g5 rfl).2
                    have h8 := (World.ownsRow.lt HS6.out h6 rfl).1
                    omega
                  have HS7 := Lib.hid (show OwnI w6 w2.heap.size _ (([] : List Int) ++ [(a : Int)]) from own_lower HS6.out HB5.out.size)
                  clear ho6 g6
                  go_wp2
                  go_roundw
                  case rel => exact ⟨k + 1, g5, h6, rc5, bc6, by omega, by go_num, by rw [HSTEP.out, HL5.out], by rw [HSTEP.out, HST.out]; simp, hgh6, Lib.hid (by rw [HSTEP.out]; exact HR6.out), Lib.hid (by rw [HSTEP.out, HST.out]; have h9 := HS7.out; rw [show (([] : List Int) ++ [(a : Int)]).length = 1 by simp] at h9; exact h9), HB6⟩
                  case measure => simp [intOf]; omega
                · have hc1 : decide ((bl : Int) < ((0 + 1 : Nat) : Int)) = false := by simp; omega
                  have hc2 : ¬ (bl : Int) < ((0 : Nat) : Int) + 1 := by omega
                  have HST := Lib.hid (show lrB (([] : List Int) ++ [(a : Int)]) Bs = Bs by unfold lrB; rw [if_neg (by rw [HL5.out, HBL.out]; exact hcmp)])
                  go_wp2
                  go_roundw
                  case rel => exact ⟨k + 1, g5, bg, rc5, bc, by omega, by go_num, by rw [HSTEP.out, HL5.out], by rw [HSTEP.out, HST.out, HBL.out], hgh5, Lib.hid (by rw [HSTEP.out]; exact HO5.out), Lib.hid (by rw [HSTEP.out, HST.out]; exact HS5.out), HB5⟩
                  case measure => simp [intOf]; omega
        · obtain rfl : k = M := by omega
          have HBF := Lib.hid (bseq HG2.out hb.out)
          have HOF := Lib.hid (show OwnI wr w.heap.size _ (lrC f O k).2 from own_lower hob.out HG2.out.size)
          go_wp2
          exact bodyPost_ret (v := .tuple #[.slice (some ⟨bg, 0, none⟩) (lrC f O k).2.length bc, .int .i64 0]) (by simp [results, Tryd.results32, go_sem]) rfl ⟨_, by rw [HR0.out], by rw [HR0.out]; exact HOF.out, HBF.out⟩
end Go.Proofs.YtcjpplijbdfgbaaDoor
namespace Go.Proofs.YtcjpplijbdfgbaaDoor
open Seq2 Go.ChangeShapes Go.WideShapes Go.ChangeAt Go.RowKit
set_option linter.unusedVariables false
set_option linter.unusedSimpArgs false

set_option maxRecDepth 100000 in
set_option maxHeartbeats 1000000 in
theorem wc_LongestRun_1_no (fv : Value) (w : World) : Calls Tryd.prog 75 #[.bool false, fv] w fun e w' => e = .returned (.tuple #[.slice none 0 0, .int .i64 1]) ∧ w = w' := by
  go_enter Tryd.func75, Tryd.ntmps75
  go_wp2
  go_ret2
  exact ⟨rfl, rfl⟩
set_option maxRecDepth 100000 in
set_option maxHeartbeats 1000000 in
theorem wc_LongestRun_1_ok (k0 k1 : Value) (Q : Value → World → Prop) (w : World) (h : Calls Tryd.prog 76 #[k0, k1] w fun e w' => ∃ x, e = .returned (.tuple #[x, .nilIface]) ∧ Q x w' ∧ Below w.heap.size w w') :
    Calls Tryd.prog 75 #[.bool true, .func (.func 76) #[] #[k0, k1]] w fun e w' => ∃ x, e = .returned (.tuple #[x, .int .i64 0]) ∧ Q x w' ∧ Below w.heap.size w w' := by
  have H := Lib.hid h
  clear h
  go_enter Tryd.func75, Tryd.ntmps75
  go_wp2_with fail
  refine (H.out).mono ?_
  rintro e w1 ⟨x, rfl, hq, g1⟩
  have HG := Lib.hid g1
  have HQ := Lib.hid hq
  clear g1 hq
  go_wp2
  go_ret2
  exact ⟨x, rfl, HQ.out, HG.out⟩
set_option maxRecDepth 100000 in
set_option maxHeartbeats 1000000 in
theorem wc_LongestRun_1_err (k0 k1 x : Value) (k : Int) (a : Addr) (w : World) (h : Calls Tryd.prog 76 #[k0, k1] w fun e w' => e = .returned (.tuple #[x, esV a]) ∧ Below w.heap.size w w')
    (hc : ∀ w', Below w.heap.size w w' → Calls Tryd.prog 86 #[esV a] w' fun e w'' => e = .returned (.int .i64 k) ∧ w' = w'') :
    Calls Tryd.prog 75 #[.bool true, .func (.func 76) #[] #[k0, k1]] w fun e w' => e = .returned (.tuple #[.slice none 0 0, .int .i64 k]) ∧ Below w.heap.size w w' := by
  have H := Lib.hid h
  have HC := Lib.hid hc
  clear h hc
  unfold esV at H HC
  go_enter Tryd.func75, Tryd.ntmps75
  go_wp2_with fail
  refine (H.out).mono ?_
  rintro e w1 ⟨rfl, g1⟩
  have HG := Lib.hid g1
  clear g1
  go_wp2_with fail
  refine (HC.out _ HG.out).mono ?_
  rintro e w2 ⟨rfl, rfl⟩
  go_wp2
  go_ret2
  exact ⟨rfl, HG.out⟩
end Go.Proofs.YtcjpplijbdfgbaaDoor
namespace Go.Proofs.YtcjpplijbdfgbaaDoor
open Seq2 Go.ChangeShapes Go.WideShapes Go.ChangeAt Go.RowKit
set_option linter.unusedVariables false
set_option linter.unusedSimpArgs false

theorem flL_fl (zs : List Lf) (fl : ByteArray) : ∀ k, ∀ y ∈ flL zs fl k, ∃ j : Nat, j < k ∧ y = (j : Int) ∧ (zs.getD j lf0).fl.toList = fl.toList
  | 0 => fun y hy => by simp [flL, plL, srtF] at hy
  | k + 1 => fun y hy => by
    cases h : flP zs fl k with
    | true =>
      rw [flL_yes h] at hy
      rcases insF_mem hy with e | hy
      · exact ⟨k, by omega, e, eq_of_beq (show ((zs.getD k lf0).fl.toList == fl.toList) = true from h)⟩
      · obtain ⟨j, h1, h2⟩ := flL_fl zs fl k y hy
        exact ⟨j, by omega, h2⟩
    | false =>
      rw [flL_no h] at hy
      obtain ⟨j, h1, h2⟩ := flL_fl zs fl k y hy
      exact ⟨j, by omega, h2⟩
theorem lrS_pos (f : Int → Int) (L : List Int) : ∀ k, 0 < k → 0 < (lrS f L k).2.length
  | k + 1, _ => by
    have h3 := lrN_len f (lrS f L k).1 (L.getD k 0)
    simp only [lrS]
    unfold lrB
    split <;> omega
/-- The two slices of the loop: the same one, or two that lie apart. -/
def LrSt (w : World) (B : Nat) (rv bv : Value) (R Bs : List Int) : Prop :=
  OwnI w B rv R ∧ OwnI w B bv Bs ∧ ((rv = bv ∧ R = Bs) ∨ (∃ g h rn rc bn bc, rv = .slice (some ⟨g, 0, none⟩) rn rc ∧ bv = .slice (some ⟨h, 0, none⟩) bn bc ∧ g ≠ h))
theorem LrSt.below {w w' : World} {B : Nat} {rv bv : Value} {R Bs : List Int} (h : LrSt w B rv bv R Bs) (hb : Below w.heap.size w w') : LrSt w' B rv bv R Bs :=
  ⟨h.1.below hb, h.2.1.below hb, h.2.2⟩
/-- The run grows; the longest one stays if it lies apart. -/
theorem LrSt.stay {w w' : World} {B : Nat} {rv bv : Value} {R Bs : List Int} {o : Obj} (h : LrSt w B rv bv R Bs) (hg : (w.alloc o).grownBy w' rv.ownBlock) (hl : ¬ R.length = Bs.length) : OwnI w' B bv Bs ∧ ∃ g h' rn rc bn bc, rv = .slice (some ⟨g, 0, none⟩) rn rc ∧ bv = .slice (some ⟨h', 0, none⟩) bn bc ∧ g ≠ h' := by
  rcases h.2.2 with ⟨_, e⟩ | ⟨g, h', rn, rc, bn, bc, rfl, rfl, hne⟩
  · exact absurd (by rw [e]) hl
  · exact ⟨World.ownsRow.kept (World.ownsRow.alloc h.2.1 o) hg (Or.inr (by simp [Value.ownBlock]; exact fun e => hne e.symm)), g, h', rn, rc, bn, bc, rfl, rfl, hne⟩
set_option maxRecDepth 100000 in
set_option maxHeartbeats 16000000 in
theorem lrun_impl (E : ErrA) (ao : Option Addr) (n c : Nat) (zs : List Lf) (fl : ByteArray) (w : World) (hB : lfsB zs = true) (hn16 : n ≤ 16) (hv : LfsV w ao n zs) (he : Errs w E) :
    Calls Tryd.prog 77 #[.slice ao n c, .string fl] w fun e w' =>
      ((flL zs fl n).length = 0 → e = .returned (.tuple #[.slice none 0 0, esV E.n])) ∧ (¬ (flL zs fl n).length = 0 → ∃ v, e = .returned (.tuple #[v, .nilIface]) ∧ OwnI w' w.heap.size v (lrC (nuL zs) (flL zs fl n) (flL zs fl n).length).2) ∧ Below w.heap.size w w' := by
  have hA := (Below.refl w.heap.size w).alloc (Nat.le_refl _) (.cells #[.slice ao n c] 101 (0, 0))
  have hx := World.alloc_heap_new w (.cells #[.slice ao n c] 101 (0, 0))
  have HOF := Lib.hid (ofl_impl E ao n c zs fl _ hn16 (hv.below hA) (he.below hA))
  have HZ := Lib.hid hv.1
  have HLN := Lib.hid (fun j hj => lfN_of ((lfsB_ok hB).2 j hj).1)
  have hwz : (w.alloc (.cells #[.slice ao n c] 101 (0, 0))).heap.size = w.heap.size + 1 := by simp
  have HA := Lib.hid hA
  have HX := Lib.hid hx
  have HV0 := Lib.hid (hv.below hA)
  have HW := Lib.hid hwz
  obtain ⟨i0, hi, hz0, hz1, hz2⟩ := info_parts infoI
  clear hv he hB hx hA hwz
  by_cases h0 : (flL zs fl n).length = 0
  · have H0 := Lib.hid h0
    unfold esV at HOF ⊢
    clear h0
    go_enter Tryd.func77, Tryd.ntmps77
    go_wp2_with fail
    refine (HOF.out).mono ?_
    rintro e w1 ⟨h1, _, g1⟩
    obtain rfl := h1 H0.out
    have HG := Lib.hid (bseq HA.out g1)
    clear g1 h1
    go_wp2
    go_ret2
    exact ⟨fun _ => rfl, fun h => absurd H0.out h, HG.out⟩
  · have HNZ := Lib.hid h0
    have HFL := Lib.hid (flL_fl zs fl n)
    have HIN := Lib.hid (flL_in zs fl n)
    have HOL := Lib.hid (flL_len zs fl n)
    obtain ⟨O, hO⟩ : ∃ O, flL zs fl n = O := ⟨_, rfl⟩
    rw [hO] at HIN HOL HNZ HOF HFL h0 ⊢
    clear hO
    obtain ⟨M, hM⟩ : ∃ M, O.length = M := ⟨_, rfl⟩
    have HM := Lib.hid hM
    rw [hM] at h0 HOL HNZ HOF ⊢
    have hM16 : M ≤ 16 := by have := HOL.out; omega
    have hM1 : 1 ≤ M := by omega
    clear hM h0
    obtain ⟨w0, hw0⟩ : ∃ x, w.alloc (.cells #[.slice ao n c] 101 (0, 0)) = x := ⟨_, rfl⟩
    rw [hw0] at HOF HV0 HX HA HW
    have HW0 := Lib.hid hw0
    clear hw0
    go_enter Tryd.func77, Tryd.ntmps77
    go_wp2_with fail
    rw [HW0.out]
    refine (HOF.out).mono ?_
    rintro e w1 ⟨_, h2, g1⟩
    obtain ⟨v, rfl, ho⟩ := h2 HNZ.out
    have HG := Lib.hid g1
    obtain ⟨g, cap, rfl⟩ := ho.some (by rw [HM.out]; omega)
    rw [HM.out] at ho ⊢
    have HO1 := Lib.hid ho
    clear ho g1 h2
    go_wp2_with fail
    refine (cmp_own w.heap.size g cap M ao n c zs O w1 w0 HM.out hM1 (by omega) HIN.out HO1.out HV0.out HX.out HG.out).mono ?_
    rintro e w2 ⟨K, L, hL, hK, rfl, hib, g2⟩
    have HG2 := Lib.hid g2
    have HIB := Lib.hid hib
    have HK := Lib.hid hK
    have HKM := Lib.hid (show K ≤ M by rw [hK, hL]; exact cpK_len _ _ _)
    have HLI := Lib.hid (show ∀ y ∈ L, ∃ j : Nat, j < n ∧ y = (j : Int) by rw [hL]; exact cpK_in HIN.out M (by rw [HM.out]; exact Nat.le_refl _))
    have HLF := Lib.hid (show ∀ y ∈ L, ∃ j : Nat, j < n ∧ y = (j : Int) ∧ (zs.getD j lf0).fl.toList = fl.toList by rw [hL]; exact cpK_in HFL.out M (by rw [HM.out]; exact Nat.le_refl _))
    have HRES := Lib.hid (show (lrC (nuL zs) O M).2 = (lrS (nuL zs) L K).2 by rw [hK, hL]; rfl)
    obtain ⟨f, hf⟩ : ∃ f, nuL zs = f := ⟨_, rfl⟩
    have HNU := Lib.hid (fun (j : Nat) => show f (j : Int) = (zs.getD j lf0).nu by rw [← hf]; simp [nuL])
    rw [hf] at HRES
    have HF := Lib.hid hf
    have hK16 : K ≤ 16 := by have := HKM.out; omega
    have HSI := Lib.hid (fun k (hk : k ≤ L.length) => lrS_in (f := f) (P := fun y => ∃ j : Nat, j < n ∧ y = (j : Int) ∧ (zs.getD j lf0).fl.toList = fl.toList) (fun j hj => by rw [List.getD_eq_getElem?_getD, List.getElem?_eq_getElem hj]; exact HLF.out _ (List.getElem_mem _)) k hk)
    have HSL := Lib.hid (lrS_len f L)
    have HSA := Lib.hid (lrS_last f L)
    have HSP := Lib.hid (lrS_pos f L)
    have HS := Lib.hid (fun k => show lrS f L (k + 1) = (lrN f (lrS f L k).1 (L.getD k 0), lrB (lrN f (lrS f L k).1 (L.getD k 0)) (lrS f L k).2) from rfl)
    have HS0 := Lib.hid (show lrS f L 0 = ([], []) from rfl)
    have HQ := Lib.hid (fun (w' : World) (h : Below w2.heap.size w2 w') => And.intro (blk_lt (((bseq HG2.out h).block _ (blk_lt HX.out)).trans HX.out)) (cell_of_arr (((bseq HG2.out h).block _ (blk_lt HX.out)).trans HX.out) (j := 0) rfl).1)
    clear hL hK hib g2 hf HOF
    go_wp2
    go_loopw [8, 9, 11, 26] (fun rv bv u11 iv wr => ∃ k : Nat, k ≤ K ∧ iv = .int .i64 k ∧ (∃ ag rc, rv = .slice ag (lrS f L k).1.length rc) ∧ (∃ ah bc, bv = .slice ah (lrS f L k).2.length bc) ∧ Hid (LrSt wr w2.heap.size rv bv (lrS f L k).1 (lrS f L k).2) ∧ Hid (Below w2.heap.size w2 wr)) (fun _ _ _ i _ => K - (intOf i).toNat)
    case atStart => exact ⟨0, by omega, rfl, ⟨none, 0, by rw [HS0.out]; rfl⟩, ⟨none, 0, by rw [HS0.out]; rfl⟩, Lib.hid (by rw [HS0.out]; exact ⟨World.ownsRow_nil _ _ _ _, World.ownsRow_nil _ _ _ _, Or.inl ⟨rfl, rfl⟩⟩), Lib.hid (Below.refl _ _)⟩
    case round =>
      obtain ⟨k, hk, rfl, ⟨ag, rc, rfl⟩, ⟨ah, bc, rfl⟩, hst, hb⟩ := hrel
      by_cases hlt : k < K
      · have HIK := Lib.hid (HIB.out.below hb.out)
        obtain ⟨a, han, ea⟩ := take_in HLI.out k (by rw [← HK.out]; exact hlt)
        have ck : wr.cell? ⟨g, k, none⟩ = some (.int .i64 (a : Int)) := by have := HIK.out.2 k (by rw [← HK.out]; omega); rw [ea] at this; exact this
        have hgw := HIK.out.1
        have HNA := Lib.hid (show f (L.getD k 0) = (zs.getD a lf0).nu by rw [ea, HNU.out])
        have HFA := Lib.hid (show (zs.getD a lf0).fl.toList = fl.toList by
          obtain ⟨j, _, ej, h3⟩ := HLF.out _ (show L.getD k 0 ∈ L by rw [List.getD_eq_getElem?_getD, List.getElem?_eq_getElem (by rw [← HK.out]; exact hlt)]; exact List.getElem_mem _)
          rw [ea] at ej
          obtain rfl : a = j := by omega
          exact h3)
        have HLK := Lib.hid (HSL.out k)
        have HRI := Lib.hid (HSI.out k (by rw [← HK.out]; omega)).1
        have HLA := Lib.hid (HSA.out k)
        have HPK := Lib.hid (HSP.out k)
        have HYK := Lib.hid (HS.out k)
        rw [ea] at HYK
        have HEA := Lib.hid ea
        obtain ⟨R, hR⟩ : ∃ R, (lrS f L k).1 = R := ⟨_, rfl⟩
        obtain ⟨Bs, hBs⟩ : ∃ R, (lrS f L k).2 = R := ⟨_, rfl⟩
        rw [hR] at hst HLK HRI HLA HYK ⊢
        rw [hBs] at hst HLK HYK HPK ⊢
        clear ea hR hBs
        obtain ⟨rl, hrl⟩ : ∃ l, R.length = l := ⟨_, rfl⟩
        obtain ⟨bl, hbl⟩ : ∃ l, Bs.length = l := ⟨_, rfl⟩
        have HRL := Lib.hid hrl
        have HBL := Lib.hid hbl
        rw [hrl] at hst HLK HLA ⊢
        rw [hbl] at hst HLK HPK ⊢
        have hrl16 : rl ≤ 16 := by have := HLK.out.1; omega
        have hbl16 : bl ≤ 16 := by have := HLK.out.2.1; omega
        clear hrl hbl
        obtain ⟨hqw, cq⟩ := HQ.out _ hb.out
        by_cases hk0 : k = 0
        · have hr0 : rl = 0 := by have := HLK.out.1; omega
          have hd0 : decide (0 < rl) = false := by simp; omega
          have hd1 : decide ((0 : Int) < (rl : Int)) = false := by simp; omega
          have hd2 : ¬ 0 < rl := by omega
          have HSTEP := Lib.hid (show lrS f L (k + 1) = (R ++ [(a : Int)], lrB (R ++ [(a : Int)]) Bs) by rw [HYK.out, lrN_one (by rw [HRL.out]; exact hr0)])
          clear hk0 hr0 hd2
          go_wp2
          refine wp_region_below (by kernel_rfl) (by kernel_rfl) ?_
          repeat (first | (refine wq_val ?_ ?_; (focus (go_simp; done)); apply Exists.intro; refine ⟨fun w1 hw1 => ?_, ?_⟩; (obtain ⟨hc, hf⟩ := bcell hw1; clear hw1; go_simp; (first | done | with_reducible rfl | (with_reducible exact eql2 _ _ _) | (with_reducible exact neq2 _ _ _))); (try simp only [Act.put, List.setIfInBounds_toArray, List.set_cons_zero, List.set_cons_succ])) | (refine wq_skip ?_ ?_; (focus (go_simp; (first | done | (simp [undef]; done)))); (try simp only [Act.put, List.setIfInBounds_toArray, List.set_cons_zero, List.set_cons_succ])))
          refine wq_nil ?_
          intro w3 hb3
          have HB3 := Lib.hid (hb.out.trans (hb3.mono hb.out.size))
          have HST3 := Lib.hid (hst.out.below hb3)
          clear hb3 hqw cq
          have hown := HST3.out.1
          unfold OwnI at hown
          rw [HRL.out] at hown
          have hsz : w2.heap.size ≤ w3.heap.size := HB3.out.size
          go_wp2_with (at_builtin; refine wpList_app1_at rfl _ _ 55 rfl w2.heap.size 2 i0 (.int .i64 0) 8 Tryd.underlying55 hi hz0 hz1 hz2 rfl _ _ _ rfl hown _ rfl (by first | rfl | simp) rfl (by omega) (by omega) hsz ?_)
          intro v5 w5 ho5 hg5 hk5
          have HO5 := Lib.hid (show OwnI w5 w2.heap.size v5 (R ++ [(a : Int)]) from OwnI.app (by rw [HRL.out]) ho5)
          have HB5 := Lib.hid (below_app HB3.out (Nat.le_refl _) hsz hown hg5)
          obtain ⟨g5, rc5, hv5⟩ := HO5.out.some (by simp)
          subst hv5
          have HL5 := Lib.hid (show (R ++ [(a : Int)]).length = rl + 1 by rw [List.length_append, HRL.out]; rfl)
          rw [HL5.out] at HO5 ⊢
          by_cases hcmp : bl < rl + 1
          · have hc1 : decide ((bl : Int) < ((rl + 1 : Nat) : Int)) = true := by simp; omega
            have hc2 : (bl : Int) < (rl : Int) + 1 := by omega
            have HST := Lib.hid (show lrB (R ++ [(a : Int)]) Bs = R ++ [(a : Int)] by unfold lrB; rw [if_pos (by rw [HL5.out, HBL.out]; exact hcmp)])
            clear ho5 hg5 hk5 hown hgw ck 
            go_wp2
            go_roundw
            case rel => exact ⟨k + 1, by omega, by go_num, ⟨_, rc5, by rw [HSTEP.out, HL5.out]⟩, ⟨_, rc5, by rw [HSTEP.out, HST.out, HL5.out]⟩, Lib.hid (by rw [HSTEP.out, HST.out]; exact ⟨HO5.out, HO5.out, Or.inl ⟨rfl, rfl⟩⟩), HB5⟩
            case measure => simp [intOf]; omega
          · have hc1 : decide ((bl : Int) < ((rl + 1 : Nat) : Int)) = false := by simp; omega
            have hc2 : ¬ (bl : Int) < (rl : Int) + 1 := by omega
            have HST := Lib.hid (show lrB (R ++ [(a : Int)]) Bs = Bs by unfold lrB; rw [if_neg (by rw [HL5.out, HBL.out]; exact hcmp)])
            obtain ⟨hs5, gg, hh, rn, rc', bn, bc', hrv, hbv, hgh⟩ := LrSt.stay HST3.out hg5 (by rw [HRL.out, HBL.out]; omega)
            have HS5 := Lib.hid hs5
            have HGH := Lib.hid (show g5 ≠ hh by
              have hl := (World.ownsRow.lt HST3.out.2.1 hh (by rw [hbv]; rfl)).2
              rcases hk5 with hk5 | hk5
              · rw [hrv] at hk5
                have e : g5 = gg := by simpa [Value.ownBlock] using hk5
                rw [e]; exact hgh
              · have e : g5 = w3.heap.size + 1 := by simpa [Value.ownBlock] using hk5
                omega)
            have HBV := Lib.hid hbv
            clear ho5 hg5 hk5 hown hgw ck hs5 hrv hbv hgh 
            go_wp2
            go_roundw
            case rel => exact ⟨k + 1, by omega, by go_num, ⟨_, rc5, by rw [HSTEP.out, HL5.out]⟩, ⟨ah, bc, by rw [HSTEP.out, HST.out, HBL.out]⟩, Lib.hid (by rw [HSTEP.out, HST.out]; exact ⟨HO5.out, HS5.out, Or.inr ⟨g5, hh, _, rc5, bn, bc', rfl, HBV.out, HGH.out⟩⟩), HB5⟩
            case measure => simp [intOf]; omega
        · have hr0 : 0 < rl := HLK.out.2.2 (by omega)
          obtain ⟨gr, rc2, hrv⟩ := hst.out.1.some (by rw [HRL.out]; exact hr0)
          obtain ⟨rfl, hx1, rfl⟩ : ag = some ⟨gr, 0, none⟩ ∧ rl = R.length ∧ rc = rc2 := by simpa using hrv
          clear hx1 hrv
          obtain ⟨rr, hrr⟩ : ∃ x, x = rl - 1 := ⟨_, rfl⟩
          obtain ⟨d, ed, hdn, hfd⟩ : ∃ d : Nat, R.getD rr 0 = (d : Int) ∧ d < n ∧ (zs.getD d lf0).fl.toList = fl.toList := by
            obtain ⟨j, h1, h2, h3⟩ := HRI.out (R.getD rr 0) (by rw [List.getD_eq_getElem?_getD, List.getElem?_eq_getElem (by rw [HRL.out]; omega)]; exact List.getElem_mem _)
            exact ⟨j, h2, h1, h3⟩
          have cr : wr.cell? ⟨gr, rr, none⟩ = some (.int .i64 (d : Int)) := by have := hst.out.1.inB.2.2.2.2 rr (by rw [HRL.out]; omega); rw [ed] at this; exact this
          have hgr := hst.out.1.inB.2.2.2.1
          have HRR := Lib.hid hrr
          have HED := Lib.hid ed
          have HFX := Lib.hid (show R.getD (R.length - 1) 0 = (d : Int) by rw [HRL.out, ← HRR.out]; exact HED.out)
          have HNX := Lib.hid (show nxN zs d a = decide (f (R.getD (R.length - 1) 0) + 1 = f (a : Int)) by
            unfold nxN
            rw [HFA.out, hfd, HFX.out, HNU.out, HNU.out]
            simp only [beq_self_eq_true, Bool.true_and]
            rw [Bool.beq_eq_decide_eq]
            exact decide_eq_decide.2 ⟨fun h => h.symm, fun h => h.symm⟩)
          have hd0 : decide (0 < rl) = true := by simpa using hr0
          have hd1 : decide ((0 : Int) < (rl : Int)) = true := by simp; omega
          have hrm : IntKind.i64.wrap ((rl : Int) - 1) = ((rr : Nat) : Int) := by rw [IntWalk.i64_in _ (by omega)]; omega
          have hrr2 : rr < rl := by omega
          have HC := Lib.hid (fun w' (hb' : Below wr.heap.size wr w') => next_impl ao n c zs d a w' hdn han (by omega) (HV0.out.below (bseq HG2.out (bseq hb.out hb'))) (HLN.out d (by rw [← HZ.out]; exact hdn)))
          rw [HNX.out] at HC
          have HK0 := Lib.hid hk0
          clear ed hfd hrr hk0
          by_cases hnx : f (R.getD (R.length - 1) 0) + 1 = f (a : Int)
          · rw [decide_eq_true hnx] at HC
            have HSTEP := Lib.hid (show lrS f L (k + 1) = (R ++ [(a : Int)], lrB (R ++ [(a : Int)]) Bs) by rw [HYK.out, lrN_yes hnx])
            clear hnx
            go_wp2
            refine wp_region_below (by kernel_rfl) (by kernel_rfl) ?_
            repeat (first | (refine wq_val ?_ ?_; (focus (go_simp; done)); apply Exists.intro; refine ⟨fun w1 hw1 => ?_, ?_⟩; (obtain ⟨hc, hf⟩ := bcell hw1; clear hw1; go_simp; (first | done | with_reducible rfl | (with_reducible exact eql2 _ _ _) | (with_reducible exact neq2 _ _ _))); (try simp only [Act.put, List.setIfInBounds_toArray, List.set_cons_zero, List.set_cons_succ])) | (refine wq_skip ?_ ?_; (focus (go_simp; (first | done | (simp [undef]; done)))); (try simp only [Act.put, List.setIfInBounds_toArray, List.set_cons_zero, List.set_cons_succ])) | (refine wq_call 104 ?_ ?_; (focus (go_simp; done)); apply Exists.intro; refine ⟨fun w1 hw1 => ?_, ?_⟩; (focus (clear hw1; go_simp; (first | done | with_reducible rfl))); apply Exists.intro; refine ⟨fun w1 hw1 => ?_, ?_⟩; (focus (exact calls_below hw1 (HC.out w1 hw1); done)); (try simp only [Act.put, List.setIfInBounds_toArray, List.set_cons_zero, List.set_cons_succ])))
            refine wq_nil ?_
            intro w3 hb3
            have HB3 := Lib.hid (hb.out.trans (hb3.mono hb.out.size))
            have HST3 := Lib.hid (hst.out.below hb3)
            clear hb3 hqw cq hgr cr
            have hown := HST3.out.1
            unfold OwnI at hown
            rw [HRL.out] at hown
            have hsz : w2.heap.size ≤ w3.heap.size := HB3.out.size
            go_wp2_with (at_builtin; refine wpList_app1_at rfl _ _ 55 rfl w2.heap.size 2 i0 (.int .i64 0) 8 Tryd.underlying55 hi hz0 hz1 hz2 rfl _ _ _ rfl hown _ rfl (by first | rfl | simp) rfl (by omega) (by omega) hsz ?_)
            intro v5 w5 ho5 hg5 hk5
            have HO5 := Lib.hid (show OwnI w5 w2.heap.size v5 (R ++ [(a : Int)]) from OwnI.app (by rw [HRL.out]) ho5)
            have HB5 := Lib.hid (below_app HB3.out (Nat.le_refl _) hsz hown hg5)
            obtain ⟨g5, rc5, hv5⟩ := HO5.out.some (by simp)
            subst hv5
            have HL5 := Lib.hid (show (R ++ [(a : Int)]).length = rl + 1 by rw [List.length_append, HRL.out]; rfl)
            rw [HL5.out] at HO5 ⊢
            by_cases hcmp : bl < rl + 1
            · have hc1 : decide ((bl : Int) < ((rl + 1 : Nat) : Int)) = true := by simp; omega
              have hc2 : (bl : Int) < (rl : Int) + 1 := by omega
              have HST := Lib.hid (show lrB (R ++ [(a : Int)]) Bs = R ++ [(a : Int)] by unfold lrB; rw [if_pos (by rw [HL5.out, HBL.out]; exact hcmp)])
              clear ho5 hg5 hk5 hown hgw ck 
              go_wp2
              go_roundw
              case rel => exact ⟨k + 1, by omega, by go_num, ⟨_, rc5, by rw [HSTEP.out, HL5.out]⟩, ⟨_, rc5, by rw [HSTEP.out, HST.out, HL5.out]⟩, Lib.hid (by rw [HSTEP.out, HST.out]; exact ⟨HO5.out, HO5.out, Or.inl ⟨rfl, rfl⟩⟩), HB5⟩
              case measure => simp [intOf]; omega
            · have hc1 : decide ((bl : Int) < ((rl + 1 : Nat) : Int)) = false := by simp; omega
              have hc2 : ¬ (bl : Int) < (rl : Int) + 1 := by omega
              have HST := Lib.hid (show lrB (R ++ [(a : Int)]) Bs = Bs by unfold lrB; rw [if_neg (by rw [HL5.out, HBL.out]; exact hcmp)])
              obtain ⟨hs5, gg, hh, rn, rc', bn, bc', hrv, hbv, hgh⟩ := LrSt.stay HST3.out hg5 (by rw [HRL.out, HBL.out]; omega)
              have HS5 := Lib.hid hs5
              have HGH := Lib.hid (show g5 ≠ hh by
                have hl := (World.ownsRow.lt HST3.out.2.1 hh (by rw [hbv]; rfl)).2
                rcases hk5 with hk5 | hk5
                · rw [hrv] at hk5
                  have e : g5 = gg := by simpa [Value.ownBlock] using hk5
                  rw [e]; exact hgh
                · have e : g5 = w3.heap.size + 1 := by simpa [Value.ownBlock] using hk5
                  omega)
              have HBV := Lib.hid hbv
              clear ho5 hg5 hk5 hown hgw ck hs5 hrv hbv hgh 
              go_wp2
              go_roundw
              case rel => exact ⟨k + 1, by omega, by go_num, ⟨_, rc5, by rw [HSTEP.out, HL5.out]⟩, ⟨ah, bc, by rw [HSTEP.out, HST.out, HBL.out]⟩, Lib.hid (by rw [HSTEP.out, HST.out]; exact ⟨HO5.out, HS5.out, Or.inr ⟨g5, hh, _, rc5, bn, bc', rfl, HBV.out, HGH.out⟩⟩), HB5⟩
              case measure => simp [intOf]; omega
          · rw [decide_eq_false hnx] at HC
            have HSTEP := Lib.hid (show lrS f L (k + 1) = ([] ++ [(a : Int)], lrB ([] ++ [(a : Int)]) Bs) by rw [HYK.out, lrN_no (by rw [HRL.out]; exact hr0) hnx])
            clear hnx
            go_wp2
            refine wp_region_below (by kernel_rfl) (by kernel_rfl) ?_
            repeat (first | (refine wq_val ?_ ?_; (focus (go_simp; done)); apply Exists.intro; refine ⟨fun w1 hw1 => ?_, ?_⟩; (obtain ⟨hc, hf⟩ := bcell hw1; clear hw1; go_simp; (first | done | with_reducible rfl | (with_reducible exact eql2 _ _ _) | (with_reducible exact neq2 _ _ _))); (try simp only [Act.put, List.setIfInBounds_toArray, List.set_cons_zero, List.set_cons_succ])) | (refine wq_skip ?_ ?_; (focus (go_simp; (first | done | (simp [undef]; done)))); (try simp only [Act.put, List.setIfInBounds_toArray, List.set_cons_zero, List.set_cons_succ])) | (refine wq_call 104 ?_ ?_; (focus (go_simp; done)); apply Exists.intro; refine ⟨fun w1 hw1 => ?_, ?_⟩; (focus (clear hw1; go_simp; (first | done | with_reducible rfl))); apply Exists.intro; refine ⟨fun w1 hw1 => ?_, ?_⟩; (focus (exact calls_below hw1 (HC.out w1 hw1); done)); (try simp only [Act.put, List.setIfInBounds_toArray, List.set_cons_zero, List.set_cons_succ])))
            refine wq_nil ?_
            intro w3 hb3
            have HB3 := Lib.hid (hb.out.trans (hb3.mono hb.out.size))
            have HST3 := Lib.hid (hst.out.below hb3)
            clear hb3 hqw cq hgr cr
            have hk9 : 0 < k := by have := HK0.out; omega
            have hown : w3.ownsRow w2.heap.size 2 1 (.slice none 0 0) 0 [] := World.ownsRow_nil _ _ _ _
            have hsz : w2.heap.size ≤ w3.heap.size := HB3.out.size
            go_wp2_with (at_builtin; refine wpList_app1_at rfl _ _ 55 rfl w2.heap.size 2 i0 (.int .i64 0) 8 Tryd.underlying55 hi hz0 hz1 hz2 rfl _ _ _ rfl hown _ rfl (by first | rfl | simp) rfl (by omega) (by omega) hsz ?_)
            intro v5 w5 ho5 hg5 hk5
            have HO5 := Lib.hid (show OwnI w5 w2.heap.size v5 (([] : List Int) ++ [(a : Int)]) from OwnI.app (by rfl) ho5)
            have HB5 := Lib.hid (below_app HB3.out (Nat.le_refl _) hsz hown hg5)
            obtain ⟨g5, rc5, hv5⟩ := HO5.out.some (by simp)
            subst hv5
            have hbp : 0 < bl := HPK.out (by omega)
            obtain ⟨hh, bc', hbv⟩ := HST3.out.2.1.some (by rw [HBL.out]; exact hbp)
            have HS5 := Lib.hid (show OwnI w5 w2.heap.size _ Bs from World.ownsRow.kept (World.ownsRow.alloc HST3.out.2.1 _) hg5 (Or.inr (by rw [hbv]; simp [Value.ownBlock])))
            have HGH := Lib.hid (show g5 ≠ hh by
              have hl := (World.ownsRow.lt HST3.out.2.1 hh (by rw [hbv]; rfl)).2
              rcases hk5 with hk5 | hk5
              · simp [Value.ownBlock] at hk5
              · have e : g5 = w3.heap.size + 1 := by simpa [Value.ownBlock] using hk5
                omega)
            have HBV := Lib.hid hbv
            have HL5 := Lib.hid (show (([] : List Int) ++ [(a : Int)]).length = 1 by rfl)
            rw [HL5.out] at HO5 ⊢
            have hc1 : decide ((bl : Int) < 1) = false := by simp; omega
            have hc2 : ¬ (bl : Int) < 1 := by omega
            have HST := Lib.hid (show lrB (([] : List Int) ++ [(a : Int)]) Bs = Bs by unfold lrB; rw [if_neg (by rw [HL5.out, HBL.out]; omega)])
            clear ho5 hg5 hk5 hown hgw ck hbv hk9
            go_wp2
            go_roundw
            case rel => exact ⟨k + 1, by omega, by go_num, ⟨_, rc5, by rw [HSTEP.out, HL5.out]⟩, ⟨ah, bc, by rw [HSTEP.out, HST.out, HBL.out]⟩, Lib.hid (by rw [HSTEP.out, HST.out]; exact ⟨HO5.out, HS5.out, Or.inr ⟨g5, hh, _, rc5, _, bc', rfl, HBV.out, HGH.out⟩⟩), HB5⟩
            case measure => simp [intOf]; omega
      · obtain rfl : k = K := by omega
        have HBF := Lib.hid (bseq HA.out (bseq HG2.out hb.out))
        have HOF := Lib.hid (show OwnI wr w.heap.size _ (lrS f L k).2 from own_lower hst.out.2.1 (by have h1 := HG2.out.size; have h2 := HW.out; omega))
        go_wp2
        exact bodyPost_ret (v := .tuple #[.slice ah (lrS f L k).2.length bc, .nilIface]) (by simp [results, Tryd.results77, go_sem]) rfl ⟨fun h => absurd h HNZ.out, fun _ => ⟨_, rfl, by rw [HF.out, HRES.out]; exact HOF.out⟩, HBF.out⟩
end Go.Proofs.YtcjpplijbdfgbaaDoor
namespace Go.Proofs.YtcjpplijbdfgbaaDoor
open Seq2 Go.ChangeShapes Go.WideShapes Go.ChangeAt Go.RowKit
set_option linter.unusedVariables false
set_option linter.unusedSimpArgs false

set_option maxRecDepth 100000 in
set_option maxHeartbeats 4000000 in
theorem clo_lr (q p1 : Nat) (E : ErrA) (ao : Option Addr) (n c : Nat) (zs : List Lf) (fl : ByteArray) (w : World) (hB : lfsB zs = true) (hn : n ≤ 16) (hv : LfsV w ao n zs) (he : Errs w E)
    (hq : w.heap[q]? = some (.cells #[.slice ao n c] 51 (0, 0))) (h1 : w.heap[p1]? = some (.cells #[.string fl] 9 (0, 0))) :
    Calls Tryd.prog 76 #[.pointer (some ⟨q, 0, none⟩), .pointer (some ⟨p1, 0, none⟩)] w fun e w' =>
      ((flL zs fl n).length = 0 → e = .returned (.tuple #[.slice none 0 0, esV E.n])) ∧ (¬ (flL zs fl n).length = 0 → ∃ v, e = .returned (.tuple #[v, .nilIface]) ∧ OwnI w' w.heap.size v (lrC (nuL zs) (flL zs fl n) (flL zs fl n).length).2) ∧ Below w.heap.size w w' := by
  have hz := blk_lt hq
  have a0 := (cell_of_arr hq (j := 0) rfl).1
  have hz1 := blk_lt h1
  have b0 := (cell_of_arr h1 (j := 0) rfl).1
  have HC := Lib.hid (lrun_impl E ao n c zs fl w hB hn hv he)
  clear he hv hq h1 hB
  by_cases h0 : (flL zs fl n).length = 0
  · have H0 := Lib.hid h0
    unfold esV at HC ⊢
    clear h0
    go_enter Tryd.func76, Tryd.ntmps76
    go_wp2_with fail
    refine (HC.out).mono ?_
    rintro e w1 ⟨h1, _, g1⟩
    obtain rfl := h1 H0.out
    have HG := Lib.hid g1
    clear g1 h1
    go_wp2
    go_ret2
    exact ⟨fun _ => rfl, fun h => absurd H0.out h, HG.out⟩
  · have H0 := Lib.hid h0
    clear h0
    go_enter Tryd.func76, Tryd.ntmps76
    go_wp2_with fail
    refine (HC.out).mono ?_
    rintro e w1 ⟨_, h2, g1⟩
    obtain ⟨v, rfl, ho⟩ := h2 H0.out
    have HG := Lib.hid g1
    have HO := Lib.hid ho
    clear g1 ho h2
    go_wp2
    go_ret2
    exact ⟨fun h => absurd h H0.out, fun _ => ⟨v, rfl, HO.out⟩, HG.out⟩
set_option maxRecDepth 100000 in
set_option maxHeartbeats 8000000 in
theorem lr_impl (ao : Option Addr) (n c : Nat) (zs : List Lf) (fl : ByteArray) (w : World) (hn : n ≤ 1048576) (hv : LfsV w ao n zs) (ht : TabAt w) (he : ErrsAt w) :
    Calls Tryd.prog 33 #[.slice ao n c, .string fl] w (NewCI (lrR zs fl).1 (lrR zs fl).2 w) := by
  unfold NewCI
  obtain ⟨E, hE⟩ := he.out
  have hA := two_allocs (w := w) (.cells #[.slice ao n c] 51) (.cells #[.string fl] 9)
  have hx := (Below.heap_alloc (w.alloc (.cells #[.slice ao n c] 51)) (.cells #[.string fl] 9) w.heap.size (by simp)).trans (World.alloc_heap_new w (.cells #[.slice ao n c] 51))
  have hp := World.alloc_heap_new (w.alloc (.cells #[.slice ao n c] 51)) (.cells #[.string fl] 9)
  rw [show (w.alloc (.cells #[.slice ao n c] 51)).heap.size = w.heap.size + 1 by simp] at hp
  have HA := Lib.hid hA
  have HX := Lib.hid hx
  have HP := Lib.hid hp
  have HT := Lib.hid (ht.below hA)
  have HE := Lib.hid (hE.below hA)
  have HV := Lib.hid (hv.below hA)
  have HZ := Lib.hid hv.1
  clear hv ht he hE hA hx hp
  cases hB : lfsB zs with
  | false =>
    have HR := Lib.hid (show lrR zs fl = ([], 1) by unfold lrR; rw [hB]; rfl)
    rw [HR.out]
    go_enter Tryd.func33, Tryd.ntmps33
    go_wp2_with fail
    refine (validLs_impl ao n c zs _ hn HV.out HT.out).mono ?_
    rintro e w1 ⟨rfl, g1⟩
    have HG := Lib.hid (bseq HA.out g1)
    clear g1
    rw [hB]
    go_wp2_with fail
    refine (wc_LongestRun_1_no _ _).mono ?_
    rintro e w2 ⟨rfl, rfl⟩
    go_wp2
    go_ret2
    exact ⟨_, rfl, World.ownsRow_nil _ _ _ _, HG.out⟩
  | true =>
    have hn16 : n ≤ 16 := by have := (lfsB_ok hB).1; have := HZ.out; omega
    have HBB := Lib.hid hB
    have HMR := Lib.hid (show lrR zs fl = if (flL zs fl n).length = 0 then ([], 3) else ((lrC (nuL zs) (flL zs fl n) (flL zs fl n).length).2, 0) by unfold lrR; rw [hB, if_pos rfl, ← HZ.out])
    by_cases h0 : (flL zs fl n).length = 0
    · have HR := Lib.hid (HMR.out.trans (if_pos h0))
      have H0 := Lib.hid h0
      rw [HR.out]
      clear h0
      go_enter Tryd.func33, Tryd.ntmps33
      go_wp2_with fail
      refine (validLs_impl ao n c zs _ hn HV.out HT.out).mono ?_
      rintro e w1 ⟨rfl, g1⟩
      have HG := Lib.hid (bseq HA.out g1)
      have HE1 := Lib.hid (HE.out.below g1)
      have HV1 := Lib.hid (HV.out.below g1)
      have HX1 := Lib.hid ((g1.block _ (blk_lt HX.out)).trans HX.out)
      have HP1 := Lib.hid ((g1.block _ (blk_lt HP.out)).trans HP.out)
      clear g1
      rw [hB]
      go_wp2_with fail
      refine (wc_LongestRun_1_err _ _ _ 3 E.n _ ((clo_lr w.heap.size (w.heap.size + 1) E ao n c zs fl _ HBB.out hn16 HV1.out HE1.out HX1.out HP1.out).mono (fun e w' h => ⟨h.1 H0.out, h.2.2⟩)) (fun w' hb => code_N E w' (HE1.out.below hb))).mono ?_
      rintro e w2 ⟨rfl, g2⟩
      have HG2 := Lib.hid (bseq HG.out g2)
      clear g2
      go_wp2
      go_ret2
      exact ⟨_, rfl, World.ownsRow_nil _ _ _ _, HG2.out⟩
    · have HR := Lib.hid (HMR.out.trans (if_neg h0))
      have H0 := Lib.hid h0
      rw [HR.out]
      clear h0
      go_enter Tryd.func33, Tryd.ntmps33
      go_wp2_with fail
      refine (validLs_impl ao n c zs _ hn HV.out HT.out).mono ?_
      rintro e w1 ⟨rfl, g1⟩
      have HG := Lib.hid (bseq HA.out g1)
      have HE1 := Lib.hid (HE.out.below g1)
      have HV1 := Lib.hid (HV.out.below g1)
      have HX1 := Lib.hid ((g1.block _ (blk_lt HX.out)).trans HX.out)
      have HP1 := Lib.hid ((g1.block _ (blk_lt HP.out)).trans HP.out)
      clear g1
      rw [hB]
      go_wp2_with fail
      refine (wc_LongestRun_1_ok _ _ (fun x w' => OwnI w' w1.heap.size x (lrC (nuL zs) (flL zs fl n) (flL zs fl n).length).2) _ ((clo_lr w.heap.size (w.heap.size + 1) E ao n c zs fl _ HBB.out hn16 HV1.out HE1.out HX1.out HP1.out).mono (fun e w' h => by obtain ⟨v, hv, ho⟩ := h.2.1 H0.out; exact ⟨v, hv, ho, h.2.2⟩))).mono ?_
      rintro e w2 ⟨v, rfl, ho, g2⟩
      have HG2 := Lib.hid (bseq HG.out g2)
      have HO := Lib.hid (own_lower ho HG.out.size)
      clear g2 ho
      go_wp2
      go_ret2
      exact ⟨_, rfl, HO.out, HG2.out⟩
end Go.Proofs.YtcjpplijbdfgbaaDoor
