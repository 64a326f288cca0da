/- Is a list of placements valid: spec and impl. -/
import Derived.Test.YtmfchcaidfloaaaNst1
namespace Go.Proofs.Ytmfchcaidfloaaa
open Seq2 Go.ChangeShapes Go.WideShapes Go.ChangeAt Go.RowKit
set_option linter.unusedVariables false
set_option linter.unusedSimpArgs false

/-- The face before. -/
def befP (zs : List Pm) (k : Nat) : Int := if k = 0 then -1 else (zs.getD (k - 1) pm0).1
def ordP (zs : List Pm) (j : Nat) : Bool := decide (j = 0) || decide ((zs.getD (j - 1) pm0).1 < (zs.getD j pm0).1)
def okPm (zs : List Pm) (j : Nat) : Bool := pmB (zs.getD j pm0) && ordP zs j
def pmsB (zs : List Pm) : Bool := decide (zs.length ≤ 24) && (List.range zs.length).all (okPm zs)
theorem pmsB_no {zs : List Pm} {k : Nat} (hk : k < zs.length) (h : okPm zs k = false) : pmsB zs = false := by
  have : (List.range zs.length).all (okPm zs) = false := List.all_eq_false.2 ⟨k, List.mem_range.2 hk, by rw [h]; simp⟩
  rw [pmsB, this, Bool.and_false]
theorem pmsB_yes {zs : List Pm} (h : ∀ j, j < zs.length → okPm zs j = true) : pmsB zs = decide (zs.length ≤ 24) := by
  have : (List.range zs.length).all (okPm zs) = true := List.all_eq_true.2 (fun j hj => h j (List.mem_range.1 hj))
  rw [pmsB, this, Bool.and_true]
theorem pmsB_ok {zs : List Pm} (h : pmsB zs = true) : zs.length ≤ 24 ∧ ∀ j, j < zs.length → pmB (zs.getD j pm0) = true ∧ (0 < j → (zs.getD (j - 1) pm0).1 < (zs.getD j pm0).1) := by
  simp only [pmsB, Bool.and_eq_true, decide_eq_true_eq, List.all_eq_true, List.mem_range] at h
  refine ⟨h.1, fun j hj => ?_⟩
  have h2 := h.2 j hj
  simp only [okPm, ordP, Bool.and_eq_true, Bool.or_eq_true, decide_eq_true_eq] at h2
  exact ⟨h2.1, fun h0 => h2.2.resolve_left (by omega)⟩
theorem okPm_bef (zs : List Pm) (k : Nat) : okPm zs k = (pmB (zs.getD k pm0) && decide (befP zs k < (zs.getD k pm0).1)) := by
  unfold okPm ordP befP
  by_cases h : k = 0
  · subst h
    rw [if_pos rfl]
    cases hb : pmB (zs.getD 0 pm0) with
    | false => rfl
    | true =>
      have := pmB_iff.1 hb
      have e : decide ((-1 : Int) < (zs.getD 0 pm0).1) = true := decide_eq_true (by omega)
      rw [e]; rfl
  · rw [if_neg h, decide_eq_false h, Bool.false_or]
set_option maxRecDepth 100000 in
set_option maxHeartbeats 16000000 in
theorem pms_spec (ao : Option Addr) (n c : Nat) (zs : List Pm) (w : World) (hn : n ≤ 1048576) (hv : PmV w ao n zs) : Calls Try.prog 23 #[.slice ao n c] w fun e w' => e = .returned (.bool (pmsB zs)) ∧ Below w.heap.size w w' := by
  have HV := Lib.hid hv
  have HZ := Lib.hid hv.1
  clear hv
  go_enter Try.func23, Try.ntmps23
  go_wp2
  go_loopw [3] (fun iv wr => ∃ k : Nat, k ≤ n ∧ iv = .int .i64 k ∧ Hid (∀ j, j < k → okPm zs j = true) ∧ Hid (Below w.heap.size w wr)) (fun i _ => n - (intOf i).toNat)
  case atStart => exact ⟨0, by omega, rfl, Lib.hid (fun j hj => absurd hj (by omega)), Lib.hid (Below.refl _ _)⟩
  case round =>
    obtain ⟨k, hk, rfl, hi, hb⟩ := hrel
    by_cases hlt : k < n
    · obtain ⟨b, rfl, hcs⟩ := (HV.out.below hb.out).2.resolve_left (by omega)
      have hat := hcs k hlt
      have HCS := Lib.hid hcs
      have HAT := Lib.hid hat
      have HOK := Lib.hid (show okPm zs k = (pmB (zs.getD k pm0) && ordP zs k) from rfl)
      have HKZ := Lib.hid (show k < zs.length by have := HZ.out; omega)
      obtain ⟨hbw, c0, _, _, _, _⟩ := hat
      clear hcs
      cases hs : pmB (zs.getD k pm0) with
      | false =>
        have HF := Lib.hid (pmsB_no HKZ.out (by rw [HOK.out, hs]; rfl))
        go_wp2
        refine wp_region_below (by kernel_rfl) (by kernel_rfl) ?_
        repeat (first | (refine wq_val ?_ ?_; (focus (go_simp; done)); apply Exists.intro; refine ⟨fun w1 hw1 => ?_, ?_⟩; (obtain ⟨hc, hf⟩ := bcell hw1; clear hw1; go_simp; (first | done | with_reducible rfl | (with_reducible exact eql2 _ _ _) | (with_reducible exact neq2 _ _ _))); (try simp only [Act.put, List.setIfInBounds_toArray, List.set_cons_zero, List.set_cons_succ])) | (refine wq_skip ?_ ?_; (focus (go_simp; (first | done | (simp [undef]; done)))); (try simp only [Act.put, List.setIfInBounds_toArray, List.set_cons_zero, List.set_cons_succ])) | (refine wq_call 30 ?_ ?_; (focus (go_simp; done)); apply Exists.intro; refine ⟨fun w1 hw1 => ?_, ?_⟩; (focus (clear hw1; go_simp; (first | done | with_reducible rfl))); apply Exists.intro; refine ⟨fun w1 hw1 => ?_, ?_⟩; (focus (exact calls_below hw1 ((one_pm b (k * 5) (zs.getD k pm0) w1 (HAT.out.below hw1)).mono (fun e w' ⟨he, hw'⟩ => ⟨by rw [he, hs], by rw [← hw']; exact Below.refl _ _⟩)); done)); (try simp only [Act.put, List.setIfInBounds_toArray, List.set_cons_zero, List.set_cons_succ])))
        refine wq_nil ?_
        intro wa hba
        have HB := Lib.hid (hb.out.trans (hba.mono hb.out.size))
        clear hba
        go_wp2
        go_ret
        exact ⟨ret_bool' HF.out.symm, HB.out⟩
      | true =>
      by_cases h0 : k = 0
      · have HO := Lib.hid (show okPm zs k = true by rw [HOK.out, hs, ordP, decide_eq_true h0]; rfl)
        have hd0 : ¬ 0 < k := by omega
        have hd1 : decide (0 < k) = false := by simpa using hd0
        have hd2 : ¬ ((0 : Int) < (k : Int)) := by omega
        clear h0
        go_wp2
        refine wp_region_below (by kernel_rfl) (by kernel_rfl) ?_
        repeat (first | (refine wq_val ?_ ?_; (focus (go_simp; done)); apply Exists.intro; refine ⟨fun w1 hw1 => ?_, ?_⟩; (obtain ⟨hc, hf⟩ := bcell hw1; clear hw1; go_simp; (first | done | with_reducible rfl | (with_reducible exact eql2 _ _ _) | (with_reducible exact neq2 _ _ _))); (try simp only [Act.put, List.setIfInBounds_toArray, List.set_cons_zero, List.set_cons_succ])) | (refine wq_skip ?_ ?_; (focus (go_simp; (first | done | (simp [undef]; done)))); (try simp only [Act.put, List.setIfInBounds_toArray, List.set_cons_zero, List.set_cons_succ])) | (refine wq_call 30 ?_ ?_; (focus (go_simp; done)); apply Exists.intro; refine ⟨fun w1 hw1 => ?_, ?_⟩; (focus (clear hw1; go_simp; (first | done | with_reducible rfl))); apply Exists.intro; refine ⟨fun w1 hw1 => ?_, ?_⟩; (focus (exact calls_below hw1 ((one_pm b (k * 5) (zs.getD k pm0) w1 (HAT.out.below hw1)).mono (fun e w' ⟨he, hw'⟩ => ⟨by rw [he, hs], by rw [← hw']; exact Below.refl _ _⟩)); done)); (try simp only [Act.put, List.setIfInBounds_toArray, List.set_cons_zero, List.set_cons_succ])))
        refine wq_nil ?_
        intro wa hba
        have HB := Lib.hid (hb.out.trans (hba.mono hb.out.size))
        clear hba
        go_wp2
        go_roundw
        case rel => exact ⟨k + 1, by omega, by go_num, Lib.hid (fun j hj => (Nat.lt_succ_iff_lt_or_eq.1 hj).elim (hi.out j) (fun e => by subst e; exact HO.out)), HB⟩
        case measure => simp [intOf]; omega
      · obtain ⟨_, d0, _, _, _, _⟩ := HCS.out (k - 1) (by omega)
        have q1 : IntKind.i64.wrap ((k : Int) - 1) = ((k - 1 : Nat) : Int) := by rw [IntWalk.i64_in _ (by omega)]; omega
        have hk1 : k - 1 < n := by omega
        have hd0 : 0 < k := by omega
        have hd1 : decide (0 < k) = true := by simpa using hd0
        have hd2 : (0 : Int) < (k : Int) := by omega
        have HO := Lib.hid (show okPm zs k = decide ((zs.getD (k - 1) pm0).1 < (zs.getD k pm0).1) by rw [HOK.out, hs, ordP, decide_eq_false h0]; rfl)
        obtain ⟨s1, hs1⟩ : ∃ q, (zs.getD k pm0).1 = q := ⟨_, rfl⟩
        obtain ⟨s2, hs2⟩ : ∃ q, (zs.getD (k - 1) pm0).1 = q := ⟨_, rfl⟩
        rw [hs1] at c0 HO
        rw [hs2] at d0 HO
        clear h0 hs1 hs2
        by_cases hlt2 : s2 < s1
        rotate_left
        · have HF := Lib.hid (pmsB_no HKZ.out (by rw [HO.out]; exact decide_eq_false hlt2))
          have hd3 : decide (s1 ≤ s2) = true := by simp; omega
          go_wp2
          refine wp_region_below (by kernel_rfl) (by kernel_rfl) ?_
          repeat (first | (refine wq_val ?_ ?_; (focus (go_simp; done)); apply Exists.intro; refine ⟨fun w1 hw1 => ?_, ?_⟩; (obtain ⟨hc, hf⟩ := bcell hw1; clear hw1; go_simp; (first | done | with_reducible rfl | (with_reducible exact eql2 _ _ _) | (with_reducible exact neq2 _ _ _))); (try simp only [Act.put, List.setIfInBounds_toArray, List.set_cons_zero, List.set_cons_succ])) | (refine wq_skip ?_ ?_; (focus (go_simp; (first | done | (simp [undef]; done)))); (try simp only [Act.put, List.setIfInBounds_toArray, List.set_cons_zero, List.set_cons_succ])) | (refine wq_call 30 ?_ ?_; (focus (go_simp; done)); apply Exists.intro; refine ⟨fun w1 hw1 => ?_, ?_⟩; (focus (clear hw1; go_simp; (first | done | with_reducible rfl))); apply Exists.intro; refine ⟨fun w1 hw1 => ?_, ?_⟩; (focus (exact calls_below hw1 ((one_pm b (k * 5) (zs.getD k pm0) w1 (HAT.out.below hw1)).mono (fun e w' ⟨he, hw'⟩ => ⟨by rw [he, hs], by rw [← hw']; exact Below.refl _ _⟩)); done)); (try simp only [Act.put, List.setIfInBounds_toArray, List.set_cons_zero, List.set_cons_succ])))
          refine wq_nil ?_
          intro wa hba
          have HB := Lib.hid (hb.out.trans (hba.mono hb.out.size))
          clear hba
          go_wp2
          go_ret
          exact ⟨ret_bool' HF.out.symm, HB.out⟩
        · have HO1 := Lib.hid (HO.out.trans (decide_eq_true hlt2))
          have hd3 : decide (s1 ≤ s2) = false := by simp; omega
          go_wp2
          refine wp_region_below (by kernel_rfl) (by kernel_rfl) ?_
          repeat (first | (refine wq_val ?_ ?_; (focus (go_simp; done)); apply Exists.intro; refine ⟨fun w1 hw1 => ?_, ?_⟩; (obtain ⟨hc, hf⟩ := bcell hw1; clear hw1; go_simp; (first | done | with_reducible rfl | (with_reducible exact eql2 _ _ _) | (with_reducible exact neq2 _ _ _))); (try simp only [Act.put, List.setIfInBounds_toArray, List.set_cons_zero, List.set_cons_succ])) | (refine wq_skip ?_ ?_; (focus (go_simp; (first | done | (simp [undef]; done)))); (try simp only [Act.put, List.setIfInBounds_toArray, List.set_cons_zero, List.set_cons_succ])) | (refine wq_call 30 ?_ ?_; (focus (go_simp; done)); apply Exists.intro; refine ⟨fun w1 hw1 => ?_, ?_⟩; (focus (clear hw1; go_simp; (first | done | with_reducible rfl))); apply Exists.intro; refine ⟨fun w1 hw1 => ?_, ?_⟩; (focus (exact calls_below hw1 ((one_pm b (k * 5) (zs.getD k pm0) w1 (HAT.out.below hw1)).mono (fun e w' ⟨he, hw'⟩ => ⟨by rw [he, hs], by rw [← hw']; exact Below.refl _ _⟩)); done)); (try simp only [Act.put, List.setIfInBounds_toArray, List.set_cons_zero, List.set_cons_succ])))
          refine wq_nil ?_
          intro wa hba
          have HB := Lib.hid (hb.out.trans (hba.mono hb.out.size))
          clear hba
          go_wp2
          go_roundw
          case rel => exact ⟨k + 1, by omega, by go_num, Lib.hid (fun j hj => (Nat.lt_succ_iff_lt_or_eq.1 hj).elim (hi.out j) (fun e => by subst e; exact HO1.out)), HB⟩
          case measure => simp [intOf]; omega
    · obtain rfl : k = n := by omega
      have HF := Lib.hid (show pmsB zs = decide ((k : Int) ≤ 24) by rw [pmsB_yes (by rw [← HZ.out]; exact hi.out), ← HZ.out]; exact decide_eq_decide.2 (by omega))
      go_wp2
      go_ret
      exact ⟨ret_bool' HF.out.symm, hb.out⟩
set_option maxRecDepth 100000 in
set_option maxHeartbeats 16000000 in
theorem pms_impl (ao : Option Addr) (n c : Nat) (zs : List Pm) (w : World) (hn : n ≤ 1048576) (hv : PmV w ao n zs) : Calls Try.prog 12 #[.slice ao n c] w fun e w' => e = .returned (.bool (pmsB zs)) ∧ Below w.heap.size w w' := by
  have HV := Lib.hid hv
  have HZ := Lib.hid hv.1
  clear hv
  by_cases h16 : n ≤ 24
  rotate_left
  · have HR := Lib.hid (show pmsB zs = false by unfold pmsB; rw [decide_eq_false (show ¬ zs.length ≤ 24 by have := HZ.out; omega)]; rfl)
    have h3' : decide ((24 : Int) < (n : Int)) = true := by simp; omega
    clear h16
    go_enter Try.func12, Try.ntmps12
    go_wp2
    go_ret
    exact ⟨ret_bool' HR.out.symm, Below.refl _ _⟩
  have h3' : decide ((24 : Int) < (n : Int)) = false := by simp; omega
  go_enter Try.func12, Try.ntmps12
  go_wp2
  clear h3'
  go_loopw [11, 3] (fun iv sv wr => ∃ k : Nat, k ≤ n ∧ iv = .int .i64 k ∧ sv = .int .i64 (befP zs k) ∧ Hid (∀ j, j < k → okPm zs j = true) ∧ Hid (Below w.heap.size w wr)) (fun i _ _ => n - (intOf i).toNat)
  case atStart => exact ⟨0, by omega, rfl, rfl, Lib.hid (fun j hj => absurd hj (by omega)), Lib.hid (Below.refl _ _)⟩
  case round =>
    obtain ⟨k, hk, rfl, rfl, hi, hb⟩ := hrel
    by_cases hlt : k < n
    · obtain ⟨b, rfl, hcs⟩ := (HV.out.below hb.out).2.resolve_left (by omega)
      obtain ⟨hbw, c0, c1, c2, c3, c4⟩ := hcs k hlt
      have HOK := Lib.hid (okPm_bef zs k)
      have HBN := Lib.hid (show befP zs (k + 1) = (zs.getD k pm0).1 by simp [befP])
      have HKZ := Lib.hid (show k < zs.length by have := HZ.out; omega)
      obtain ⟨bs, hbs⟩ : ∃ bs, befP zs k = bs := ⟨_, rfl⟩
      rw [hbs] at HOK ⊢
      clear hcs hbs
      obtain ⟨z, hz⟩ : ∃ z, zs.getD k pm0 = z := ⟨_, rfl⟩
      rw [hz] at c0 c1 c2 c3 c4 HOK HBN
      clear hz
      obtain ⟨f, l, x, y, t⟩ := z
      simp only at c0 c1 c2 c3 c4 HOK HBN
      have HX := Lib.hid (World.alloc_heap_new wr (.cells #[.int .i64 f, .int .i64 l, .int .i64 x, .int .i64 y, .int .i64 t] 45))
      have HA := Lib.hid (one_alloc (w := wr) (.cells #[.int .i64 f, .int .i64 l, .int .i64 x, .int .i64 y, .int .i64 t] 45))
      by_cases hp : f ≤ bs
      · have HF := Lib.hid (pmsB_no HKZ.out (by rw [HOK.out, decide_eq_false (by omega), Bool.and_false]))
        have hpd : decide (f ≤ bs) = true := decide_eq_true hp
        go_wp2
        go_ret
        exact ⟨ret_bool' HF.out.symm, hb.out.trans (HA.out.mono hb.out.size)⟩
      · have hpd : decide (f ≤ bs) = false := decide_eq_false hp
        have HOB := Lib.hid (show decide (bs < f) = true by simp; omega)
        go_wp2_with fail
        refine (valid_pm f l x y t _).mono ?_
        rintro e w1 ⟨rfl, g1⟩
        have HG := Lib.hid (hb.out.trans ((bseq HA.out g1).mono hb.out.size))
        have HX1 := Lib.hid ((g1.block _ (blk_lt HX.out)).trans HX.out)
        clear g1
        cases hs : pmB (f, l, x, y, t) with
        | false =>
          have HF := Lib.hid (pmsB_no HKZ.out (by rw [HOK.out, hs]; rfl))
          go_wp2
          go_ret
          exact ⟨ret_bool' HF.out.symm, HG.out⟩
        | true =>
          have HO := Lib.hid (show okPm zs k = true by rw [HOK.out, hs, HOB.out]; rfl)
          have hz := blk_lt HX1.out
          have a0 := (cell_of_arr HX1.out (j := 0) rfl).1
          go_wp2
          go_roundw
          case rel => exact ⟨k + 1, by omega, by go_num, by rw [HBN.out], Lib.hid (fun j hj => (Nat.lt_succ_iff_lt_or_eq.1 hj).elim (hi.out j) (fun e => by subst e; exact HO.out)), HG⟩
          case measure => simp [intOf]; omega
    · obtain rfl : k = n := by omega
      have HF := Lib.hid (show pmsB zs = true by rw [pmsB_yes (by rw [← HZ.out]; exact hi.out), ← HZ.out]; simpa using h16)
      go_wp2
      go_ret
      exact ⟨ret_bool' HF.out.symm, hb.out⟩
set_option maxRecDepth 100000 in
set_option maxHeartbeats 1000000 in
theorem validPms_spec (ao : Option Addr) (n c : Nat) (zs : List Pm) (w : World) (hn : n ≤ 1048576) (hv : PmV w ao n zs) : Calls Try.prog 10 #[.slice ao n c] w fun e w' => e = .returned (.bool (pmsB zs)) ∧ Below w.heap.size w w' := by
  go_enter Try.func10, Try.ntmps10
  go_wp2_with fail
  refine (pms_spec ao n c zs _ hn hv).mono ?_
  rintro e w1 ⟨rfl, g1⟩
  have HG := Lib.hid g1
  clear g1
  go_wp2
  go_ret
  exact ⟨rfl, HG.out⟩
end Go.Proofs.Ytmfchcaidfloaaa
