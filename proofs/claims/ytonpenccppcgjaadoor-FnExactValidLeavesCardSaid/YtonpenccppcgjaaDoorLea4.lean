/- Is a list of leaves valid: spec and impl. -/
import Derived.Test.YtonpenccppcgjaaDoorLea3
import Derived.Test.YtonpenccppcgjaaDoorBl
namespace Go.Proofs.YtonpenccppcgjaaDoor
open Seq2 Go.ChangeShapes Go.WideShapes Go.ChangeAt Go.RowKit
set_option linter.unusedVariables false
set_option linter.unusedSimpArgs false

/-- The name before. -/
def befL (zs : List Lf) (k : Nat) : ByteArray := if k = 0 then ⟨#[]⟩ else (zs.getD (k - 1) lf0).id
def ordL (zs : List Lf) (j : Nat) : Bool := decide (j = 0) || Op.bytesLess (zs.getD (j - 1) lf0).id.toList (zs.getD j lf0).id.toList
def okL (zs : List Lf) (j : Nat) : Bool := lfB (zs.getD j lf0) && ordL zs j
def lfsB (zs : List Lf) : Bool := decide (zs.length ≤ 16) && (List.range zs.length).all (okL zs)
theorem lfsB_no {zs : List Lf} {k : Nat} (hk : k < zs.length) (h : okL zs k = false) : lfsB zs = false := by
  have : (List.range zs.length).all (okL zs) = false := List.all_eq_false.2 ⟨k, List.mem_range.2 hk, by rw [h]; simp⟩
  rw [lfsB, this, Bool.and_false]
theorem lfsB_yes {zs : List Lf} (h : ∀ j, j < zs.length → okL zs j = true) : lfsB zs = decide (zs.length ≤ 16) := by
  have : (List.range zs.length).all (okL zs) = true := List.all_eq_true.2 (fun j hj => h j (List.mem_range.1 hj))
  rw [lfsB, this, Bool.and_true]
theorem lfsB_ok {zs : List Lf} (h : lfsB zs = true) : zs.length ≤ 16 ∧ ∀ j, j < zs.length → lfB (zs.getD j lf0) = true ∧ (0 < j → Op.bytesLess (zs.getD (j - 1) lf0).id.toList (zs.getD j lf0).id.toList = true) := by
  simp only [lfsB, Bool.and_eq_true, decide_eq_true_eq, List.all_eq_true, List.mem_range] at h
  refine ⟨h.1, fun j hj => ?_⟩
  have h2 := h.2 j hj
  simp only [okL, ordL, Bool.and_eq_true, Bool.or_eq_true, decide_eq_true_eq] at h2
  exact ⟨h2.1, fun h0 => h2.2.resolve_left (by omega)⟩
theorem bytesLess_nil (l : List UInt8) : Op.bytesLess [] l = !l.isEmpty := by cases l <;> rfl
theorem lfB_name {z : Lf} (h : nameB z.id = false) : lfB z = false := by unfold lfB; rw [h]; rfl
theorem okL_bef (zs : List Lf) (k : Nat) : okL zs k = (lfB (zs.getD k lf0) && Op.bytesLess (befL zs k).toList (zs.getD k lf0).id.toList) := by
  unfold okL ordL befL
  by_cases h : k = 0
  · subst h
    rw [if_pos rfl, show (ByteArray.mk #[]).toList = [] by unfold ByteArray.toList; unfold ByteArray.toList.loop; rfl, bytesLess_nil]
    by_cases h0 : (zs.getD 0 lf0).id.size = 0
    · rw [lfB_name (name_zero _ h0)]; rfl
    · rw [isEmpty_of _ (by omega)]; rfl
  · rw [if_neg h, decide_eq_false h, Bool.false_or]
set_option maxRecDepth 100000 in
set_option maxHeartbeats 16000000 in
theorem lfs_spec (ao : Option Addr) (n c : Nat) (zs : List Lf) (w : World) (hn : n ≤ 1048576) (hv : LfsV w ao n zs) : Calls Tryd.prog 57 #[.slice ao n c] w fun e w' => e = .returned (.bool (lfsB zs)) ∧ Below w.heap.size w w' := by
  have HV := Lib.hid hv
  have HZ := Lib.hid hv.1
  clear hv
  go_enter Tryd.func57, Tryd.ntmps57
  go_wp2
  go_loopw [3] (fun iv wr => ∃ k : Nat, k ≤ n ∧ iv = .int .i64 k ∧ Hid (∀ j, j < k → okL zs j = true) ∧ Hid (Below w.heap.size w wr)) (fun i _ => n - (intOf i).toNat)
  case atStart => exact ⟨0, by omega, rfl, Lib.hid (fun j hj => absurd hj (by omega)), Lib.hid (Below.refl _ _)⟩
  case round =>
    obtain ⟨k, hk, rfl, hi, hb⟩ := hrel
    by_cases hlt : k < n
    · obtain ⟨b, rfl, hcs⟩ := (HV.out.below hb.out).2.resolve_left (by omega)
      obtain ⟨v, hva, ha⟩ := hcs k hlt
      have HCS := Lib.hid hcs
      have HAT := Lib.hid (show LfAt wr b (k * 9) (zs.getD k lf0) from ⟨v, hva, ha⟩)
      obtain ⟨ao6, n6, c6, rfl, _, _, _, _, _, _, _, _, _⟩ := hva.out
      have c0 : wr.cell? ⟨b, k * 9, none⟩ = some (.string (zs.getD k lf0).id) := ha.at 0 rfl
      have hbw := ha.1
      have HOK := Lib.hid (show okL zs k = (lfB (zs.getD k lf0) && ordL zs k) from rfl)
      have HKZ := Lib.hid (show k < zs.length by have := HZ.out; omega)
      clear hcs hva ha
      cases hs : lfB (zs.getD k lf0) with
      | false =>
        have HF := Lib.hid (lfsB_no HKZ.out (by rw [HOK.out, hs]; rfl))
        go_wp2
        refine wp_region_below (by kernel_rfl) (by kernel_rfl) ?_
        repeat (first | (refine wq_skip ?_ ?_; (focus (go_simp; (first | done | (simp [undef]; done)))); (try simp only [Act.put, List.setIfInBounds_toArray, List.set_cons_zero, List.set_cons_succ])) | (refine wq_val ?_ ?_; (focus (go_simp; done)); apply Exists.intro; refine ⟨fun w1 hw1 => ?_, ?_⟩; (obtain ⟨hc, hf⟩ := bcell hw1; clear hw1; go_simp; (first | done | with_reducible rfl | (with_reducible exact eql2 _ _ _) | (with_reducible exact neq2 _ _ _))); (try simp only [Act.put, List.setIfInBounds_toArray, List.set_cons_zero, List.set_cons_succ])) | (refine wq_call 49 ?_ ?_; (focus (go_simp; done)); apply Exists.intro; refine ⟨fun w1 hw1 => ?_, ?_⟩; (focus (clear hw1; go_simp; (first | done | with_reducible rfl))); apply Exists.intro; refine ⟨fun w1 hw1 => ?_, ?_⟩; (focus (exact calls_below hw1 (by have := one_lea b (k * 9) (zs.getD k lf0) w1 (HAT.out.below hw1); rw [hs] at this; exact this); done)); (try simp only [Act.put, List.setIfInBounds_toArray, List.set_cons_zero, List.set_cons_succ])))
        refine wq_nil ?_
        intro wa hba
        have HB := Lib.hid (hb.out.trans (hba.mono hb.out.size))
        clear hba
        go_wp2
        go_ret
        exact ⟨ret_bool' HF.out.symm, HB.out⟩
      | true =>
      by_cases h0 : k = 0
      · have HO := Lib.hid (show okL zs k = true by rw [HOK.out, hs, ordL, decide_eq_true h0]; rfl)
        have hd0 : ¬ 0 < k := by omega
        have hd1 : decide (0 < k) = false := by simpa using hd0
        have hd2 : ¬ ((0 : Int) < (k : Int)) := by omega
        clear h0
        go_wp2
        refine wp_region_below (by kernel_rfl) (by kernel_rfl) ?_
        repeat (first | (refine wq_skip ?_ ?_; (focus (go_simp; (first | done | (simp [undef]; done)))); (try simp only [Act.put, List.setIfInBounds_toArray, List.set_cons_zero, List.set_cons_succ])) | (refine wq_val ?_ ?_; (focus (go_simp; done)); apply Exists.intro; refine ⟨fun w1 hw1 => ?_, ?_⟩; (obtain ⟨hc, hf⟩ := bcell hw1; clear hw1; go_simp; (first | done | with_reducible rfl | (with_reducible exact eql2 _ _ _) | (with_reducible exact neq2 _ _ _))); (try simp only [Act.put, List.setIfInBounds_toArray, List.set_cons_zero, List.set_cons_succ])) | (refine wq_call 49 ?_ ?_; (focus (go_simp; done)); apply Exists.intro; refine ⟨fun w1 hw1 => ?_, ?_⟩; (focus (clear hw1; go_simp; (first | done | with_reducible rfl))); apply Exists.intro; refine ⟨fun w1 hw1 => ?_, ?_⟩; (focus (exact calls_below hw1 (by have := one_lea b (k * 9) (zs.getD k lf0) w1 (HAT.out.below hw1); rw [hs] at this; exact this); done)); (try simp only [Act.put, List.setIfInBounds_toArray, List.set_cons_zero, List.set_cons_succ])))
        refine wq_nil ?_
        intro wa hba
        have HB := Lib.hid (hb.out.trans (hba.mono hb.out.size))
        clear hba
        go_wp2
        go_roundw
        case rel => exact ⟨k + 1, by omega, by go_num, Lib.hid (fun j hj => (Nat.lt_succ_iff_lt_or_eq.1 hj).elim (hi.out j) (fun e => by subst e; exact HO.out)), HB⟩
        case measure => simp [intOf]; omega
      · obtain ⟨v', hva', ha'⟩ := HCS.out (k - 1) (by omega)
        obtain ⟨ao7, n7, c7, rfl, _, _, _, _, _, _, _, _, _⟩ := hva'.out
        have d0 : wr.cell? ⟨b, (k - 1) * 9, none⟩ = some (.string (zs.getD (k - 1) lf0).id) := ha'.at 0 rfl
        have q1 : IntKind.i64.wrap ((k : Int) - 1) = ((k - 1 : Nat) : Int) := by rw [IntWalk.i64_in _ (by omega)]; omega
        have hk1 : k - 1 < n := by omega
        have hd0 : 0 < k := by omega
        have hd1 : decide (0 < k) = true := by simpa using hd0
        have hd2 : (0 : Int) < (k : Int) := by omega
        obtain ⟨ob, hob⟩ : ∃ ob, Op.bytesLess (zs.getD (k - 1) lf0).id.toList (zs.getD k lf0).id.toList = ob := ⟨_, rfl⟩
        have HO := Lib.hid (show okL zs k = ob by rw [HOK.out, hs, ordL, decide_eq_false h0, hob]; rfl)
        obtain ⟨s1, hs1⟩ : ∃ q, (zs.getD k lf0).id = q := ⟨_, rfl⟩
        obtain ⟨s2, hs2⟩ : ∃ q, (zs.getD (k - 1) lf0).id = q := ⟨_, rfl⟩
        rw [hs1] at c0 hob
        rw [hs2] at d0 hob
        clear hva' ha' h0 hs1 hs2
        cases ob with
        | false =>
          have HF := Lib.hid (lfsB_no HKZ.out HO.out)
          go_wp2
          refine wp_region_below (by kernel_rfl) (by kernel_rfl) ?_
          repeat (first | (refine wq_skip ?_ ?_; (focus (go_simp; (first | done | (simp [undef]; done)))); (try simp only [Act.put, List.setIfInBounds_toArray, List.set_cons_zero, List.set_cons_succ])) | (refine wq_val ?_ ?_; (focus (go_simp; done)); apply Exists.intro; refine ⟨fun w1 hw1 => ?_, ?_⟩; (obtain ⟨hc, hf⟩ := bcell hw1; clear hw1; go_simp; (first | done | with_reducible rfl | (with_reducible exact eql2 _ _ _) | (with_reducible exact neq2 _ _ _))); (try simp only [Act.put, List.setIfInBounds_toArray, List.set_cons_zero, List.set_cons_succ])) | (refine wq_call 49 ?_ ?_; (focus (go_simp; done)); apply Exists.intro; refine ⟨fun w1 hw1 => ?_, ?_⟩; (focus (clear hw1; go_simp; (first | done | with_reducible rfl))); apply Exists.intro; refine ⟨fun w1 hw1 => ?_, ?_⟩; (focus (exact calls_below hw1 (by have := one_lea b (k * 9) (zs.getD k lf0) w1 (HAT.out.below hw1); rw [hs] at this; exact this); done)); (try simp only [Act.put, List.setIfInBounds_toArray, List.set_cons_zero, List.set_cons_succ])))
          refine wq_nil ?_
          intro wa hba
          have HB := Lib.hid (hb.out.trans (hba.mono hb.out.size))
          clear hba
          go_wp2
          go_ret
          exact ⟨ret_bool' HF.out.symm, HB.out⟩
        | true =>
          go_wp2
          refine wp_region_below (by kernel_rfl) (by kernel_rfl) ?_
          repeat (first | (refine wq_skip ?_ ?_; (focus (go_simp; (first | done | (simp [undef]; done)))); (try simp only [Act.put, List.setIfInBounds_toArray, List.set_cons_zero, List.set_cons_succ])) | (refine wq_val ?_ ?_; (focus (go_simp; done)); apply Exists.intro; refine ⟨fun w1 hw1 => ?_, ?_⟩; (obtain ⟨hc, hf⟩ := bcell hw1; clear hw1; go_simp; (first | done | with_reducible rfl | (with_reducible exact eql2 _ _ _) | (with_reducible exact neq2 _ _ _))); (try simp only [Act.put, List.setIfInBounds_toArray, List.set_cons_zero, List.set_cons_succ])) | (refine wq_call 49 ?_ ?_; (focus (go_simp; done)); apply Exists.intro; refine ⟨fun w1 hw1 => ?_, ?_⟩; (focus (clear hw1; go_simp; (first | done | with_reducible rfl))); apply Exists.intro; refine ⟨fun w1 hw1 => ?_, ?_⟩; (focus (exact calls_below hw1 (by have := one_lea b (k * 9) (zs.getD k lf0) w1 (HAT.out.below hw1); rw [hs] at this; exact this); done)); (try simp only [Act.put, List.setIfInBounds_toArray, List.set_cons_zero, List.set_cons_succ])))
          refine wq_nil ?_
          intro wa hba
          have HB := Lib.hid (hb.out.trans (hba.mono hb.out.size))
          clear hba
          go_wp2
          go_roundw
          case rel => exact ⟨k + 1, by omega, by go_num, Lib.hid (fun j hj => (Nat.lt_succ_iff_lt_or_eq.1 hj).elim (hi.out j) (fun e => by subst e; exact HO.out)), HB⟩
          case measure => simp [intOf]; omega
    · obtain rfl : k = n := by omega
      have HF := Lib.hid (show lfsB zs = decide ((k : Int) ≤ 16) by rw [lfsB_yes (by rw [← HZ.out]; exact hi.out), ← HZ.out]; exact decide_eq_decide.2 (by omega))
      go_wp2
      go_ret
      exact ⟨ret_bool' HF.out.symm, hb.out⟩
set_option maxRecDepth 100000 in
set_option maxHeartbeats 16000000 in
theorem lfs_impl (ao : Option Addr) (n c : Nat) (zs : List Lf) (w : World) (hn : n ≤ 1048576) (hv : LfsV w ao n zs) (ht : TabAt w) : Calls Tryd.prog 58 #[.slice ao n c] w fun e w' => e = .returned (.bool (lfsB zs)) ∧ Below w.heap.size w w' := by
  have HV := Lib.hid hv
  have HZ := Lib.hid hv.1
  have HT := Lib.hid ht
  clear hv ht
  by_cases h16 : n ≤ 16
  rotate_left
  · have HR := Lib.hid (show lfsB zs = false by unfold lfsB; rw [decide_eq_false (show ¬ zs.length ≤ 16 by have := HZ.out; omega)]; rfl)
    have h3' : decide ((16 : Int) < (n : Int)) = true := by simp; omega
    clear h16
    go_enter Tryd.func58, Tryd.ntmps58
    go_wp2
    go_ret
    exact ⟨ret_bool' HR.out.symm, Below.refl _ _⟩
  have h3' : decide ((16 : Int) < (n : Int)) = false := by simp; omega
  go_enter Tryd.func58, Tryd.ntmps58
  go_wp2
  clear h3'
  go_loopw [11, 3] (fun iv sv wr => ∃ k : Nat, k ≤ n ∧ iv = .int .i64 k ∧ sv = .string (befL zs k) ∧ Hid (∀ j, j < k → okL zs j = true) ∧ Hid (Below w.heap.size w wr)) (fun i _ _ => n - (intOf i).toNat)
  case atStart => exact ⟨0, by omega, rfl, rfl, Lib.hid (fun j hj => absurd hj (by omega)), Lib.hid (Below.refl _ _)⟩
  case round =>
    obtain ⟨k, hk, rfl, rfl, hi, hb⟩ := hrel
    by_cases hlt : k < n
    · obtain ⟨b, rfl, hcs⟩ := (HV.out.below hb.out).2.resolve_left (by omega)
      obtain ⟨v, hva, ha⟩ := hcs k hlt
      have HOK := Lib.hid (okL_bef zs k)
      have HBN := Lib.hid (show befL zs (k + 1) = (zs.getD k lf0).id by simp [befL])
      have HKZ := Lib.hid (show k < zs.length by have := HZ.out; omega)
      obtain ⟨bs, hbs⟩ : ∃ bs, befL zs k = bs := ⟨_, rfl⟩
      rw [hbs] at HOK ⊢
      clear hcs hbs
      obtain ⟨z, hz⟩ : ∃ z, zs.getD k lf0 = z := ⟨_, rfl⟩
      rw [hz] at hva HOK HBN
      clear hz
      have HVA := Lib.hid hva
      obtain ⟨ao6, n6, c6, rfl, _, _, _, _, _, _, _, _, _⟩ := hva.out
      have c0 : wr.cell? ⟨b, k * 9, none⟩ = some (.string z.id) := ha.at 0 rfl
      have c1 : wr.cell? ⟨b, k * 9 + 1, none⟩ = some (.string z.fl) := ha.at 1 rfl
      have c2 : wr.cell? ⟨b, k * 9 + 2, none⟩ = some (.int .i64 z.nu) := ha.at 2 rfl
      have c3 : wr.cell? ⟨b, k * 9 + 3, none⟩ = some (.string z.ve.1) := ha.at 3 rfl
      have c4 : wr.cell? ⟨b, k * 9 + 4, none⟩ = some (.int .i64 z.ve.2.1) := ha.at 4 rfl
      have c5 : wr.cell? ⟨b, k * 9 + 5, none⟩ = some (.int .i64 z.ve.2.2) := ha.at 5 rfl
      have c6' : wr.cell? ⟨b, k * 9 + 6, none⟩ = some (.int .i64 z.wd) := ha.at 6 rfl
      have c7 : wr.cell? ⟨b, k * 9 + 7, none⟩ = some (.int .i64 z.ln) := ha.at 7 rfl
      have c8 : wr.cell? ⟨b, k * 9 + 8, none⟩ = some (.slice ao6 n6 c6) := ha.at 8 rfl
      have hbw := ha.1
      clear hva ha
      have HA := Lib.hid (one_alloc (w := wr) (.cells #[.string z.id, .string z.fl, .int .i64 z.nu, .string z.ve.1, .int .i64 z.ve.2.1, .int .i64 z.ve.2.2, .int .i64 z.wd, .int .i64 z.ln, .slice ao6 n6 c6] 32))
      have HX := Lib.hid (World.alloc_heap_new wr (.cells #[.string z.id, .string z.fl, .int .i64 z.nu, .string z.ve.1, .int .i64 z.ve.2.1, .int .i64 z.ve.2.2, .int .i64 z.wd, .int .i64 z.ln, .slice ao6 n6 c6] 32))
      have HVB := Lib.hid (HVA.out.below HA.out)
      have HTB := Lib.hid ((HT.out.below hb.out).below HA.out)
      have HT2 := Lib.hid (bl_total bs.toList z.id.toList)
      cases hp : (Op.bytesLess z.id.toList bs.toList || z.id.toList == bs.toList) with
      | true =>
        have HF := Lib.hid (lfsB_no HKZ.out (by rw [HOK.out, HT2.out, hp]; simp))
        go_wp2
        go_ret
        exact ⟨ret_bool' HF.out.symm, hb.out.trans (HA.out.mono hb.out.size)⟩
      | false =>
        have HOB := Lib.hid (show Op.bytesLess bs.toList z.id.toList = true by rw [HT2.out, hp]; rfl)
        go_wp2_with fail
        refine (validL_impl _ z _ HVB.out HTB.out).mono ?_
        rintro e w1 ⟨rfl, g1⟩
        have HG := Lib.hid (hb.out.trans ((bseq HA.out g1).mono hb.out.size))
        have HX1 := Lib.hid ((g1.block _ (blk_lt HX.out)).trans HX.out)
        clear g1
        cases hs : lfB z with
        | false =>
          have HF := Lib.hid (lfsB_no HKZ.out (by rw [HOK.out, hs]; simp))
          go_wp2
          go_ret
          exact ⟨ret_bool' HF.out.symm, HG.out⟩
        | true =>
          have HO := Lib.hid (show okL zs k = true by rw [HOK.out, hs, HOB.out]; rfl)
          have hz := blk_lt HX1.out
          have a0 := (cell_of_arr HX1.out (j := 0) rfl).1
          go_wp2
          go_roundw
          case rel => exact ⟨k + 1, by omega, by go_num, by rw [HBN.out], Lib.hid (fun j hj => (Nat.lt_succ_iff_lt_or_eq.1 hj).elim (hi.out j) (fun e => by subst e; exact HO.out)), HG⟩
          case measure => simp [intOf]; omega
    · obtain rfl : k = n := by omega
      have HF := Lib.hid (show lfsB zs = true by rw [lfsB_yes (by rw [← HZ.out]; exact hi.out), ← HZ.out]; simpa using h16)
      go_wp2
      go_ret
      exact ⟨ret_bool' HF.out.symm, hb.out⟩
set_option maxRecDepth 100000 in
set_option maxHeartbeats 1000000 in
theorem validLs_spec (ao : Option Addr) (n c : Nat) (zs : List Lf) (w : World) (hn : n ≤ 1048576) (hv : LfsV w ao n zs) : Calls Tryd.prog 19 #[.slice ao n c] w fun e w' => e = .returned (.bool (lfsB zs)) ∧ Below w.heap.size w w' := by
  go_enter Tryd.func19, Tryd.ntmps19
  go_wp2_with fail
  refine (lfs_spec ao n c zs _ hn hv).mono ?_
  rintro e w1 ⟨rfl, g1⟩
  have HG := Lib.hid g1
  clear g1
  go_wp2
  go_ret
  exact ⟨rfl, HG.out⟩
set_option maxRecDepth 100000 in
set_option maxHeartbeats 1000000 in
theorem validLs_impl (ao : Option Addr) (n c : Nat) (zs : List Lf) (w : World) (hn : n ≤ 1048576) (hv : LfsV w ao n zs) (ht : TabAt w) : Calls Tryd.prog 21 #[.slice ao n c] w fun e w' => e = .returned (.bool (lfsB zs)) ∧ Below w.heap.size w w' := by
  go_enter Tryd.func21, Tryd.ntmps21
  go_wp2_with fail
  refine (lfs_impl ao n c zs _ hn hv ht).mono ?_
  rintro e w1 ⟨rfl, g1⟩
  have HG := Lib.hid g1
  clear g1
  go_wp2
  go_ret
  exact ⟨rfl, HG.out⟩
end Go.Proofs.YtonpenccppcgjaaDoor
