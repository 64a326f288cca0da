/- Points that no face uses: impl. -/
import Derived.Test.YtfhlafnjccoocaaGreatUnu1
import Derived.Test.YtfhlafnjccoocaaGreatDrw12
import Derived.Test.YtfhlafnjccoocaaGreatShelfSorted
import Derived.Maps.OwnSet
import Derived.DeepKeys4
import Derived.Lib.SlKeysI
namespace Go.Proofs.YtfhlafnjccoocaaGreat
open Seq2 Go.ChangeShapes Go.WideShapes Go.ChangeAt Go.RowKit Go.Maps Go.Joins
set_option linter.unusedVariables false
set_option linter.unusedSimpArgs false

theorem keyedInt : Keyed Tryz.prog 2 := int_keyed Tryz.underlying2
theorem key_int {x : Int} (h : (Lit.int .i64 x).wf = true) : keyOf Tryz.prog 2 (.int .i64 x) = some (.int .i64 x) := by
  simp [keyOf, Tryz.underlying2, mapKey, h]
theorem wf_small {x : Int} (h0 : 0 ≤ x) (h1 : x ≤ 1000000) : (Lit.int .i64 x).wf = true := by
  simp only [Lit.wf, Bool.and_eq_true, decide_eq_true_eq]
  show -9223372036854775808 ≤ x ∧ x ≤ 9223372036854775807
  omega
theorem keyLit_int {x : Int} (h0 : 0 ≤ x) (h1 : x ≤ 1000000) : WideAt.IsKeyLit (.int .i64 x) := keyedInt.key (key_int (wf_small h0 h1))
/-- The keys of a map are told by a property. -/
def Tells (D : DataW Unit) (P : Int → Prop) : Prop := IsMap D ∧ ∀ x : Int, Maps.has D (.int .i64 x) = true ↔ P x
theorem Tells.put {D : DataW Unit} {P Q : Int → Prop} {y : Int} {u : DataW Unit} (h : Tells D P) (h0 : 0 ≤ y) (h1 : y ≤ 1000000) (hq : ∀ x, Q x ↔ (P x ∨ x = y)) : Tells (D.put (.int .i64 y) u) Q := by
  refine ⟨?_, fun x => ?_⟩
  · obtain ⟨es, rfl⟩ := h.1
    exact ⟨_, rfl⟩
  · rw [hq x]
    by_cases e : x = y
    · subst e
      rw [has_put_same h.1 (keyLit_int h0 h1)]
      simp
    · rw [has_put_other (by intro e'; injection e' with _ e''; exact e e''), h.2 x]
      simp [e]
theorem Tells.del {D : DataW Unit} {P Q : Int → Prop} {y : Int} (h : Tells D P) (hq : ∀ x, Q x ↔ (P x ∧ x ≠ y)) : Tells (D.del (.int .i64 y)) Q := by
  refine ⟨?_, fun x => ?_⟩
  · obtain ⟨es, rfl⟩ := h.1
    exact ⟨_, rfl⟩
  · rw [hq x]
    by_cases e : x = y
    · subst e
      rw [has_del_same]
      simp
    · rw [has_del_other (by intro e'; injection e' with _ e''; exact e e''), h.2 x]
      simp [e]
theorem filU_up (f : Nat → Bool) (n : Nat) : (filU f n).Pairwise (fun x y => leI x y = true) :=
  List.pairwise_map.2 ((List.pairwise_lt_range.filter f).imp (fun h => by simp only [leI, decide_eq_true_eq]; omega))
theorem filU_nodup (f : Nat → Bool) (n : Nat) : (filU f n).Nodup :=
  List.pairwise_map.2 ((List.pairwise_lt_range.filter f).imp (fun h => by omega))
theorem mem_filU (f : Nat → Bool) (n : Nat) (x : Int) : x ∈ filU f n ↔ ∃ i : Nat, i < n ∧ f i = true ∧ (i : Int) = x := by
  unfold filU
  rw [List.mem_map]
  constructor
  · rintro ⟨i, hi, rfl⟩
    rw [List.mem_filter, List.mem_range] at hi
    exact ⟨i, hi.1, hi.2, rfl⟩
  · rintro ⟨i, h1, h2, rfl⟩
    exact ⟨i, List.mem_filter.2 ⟨List.mem_range.2 h1, h2⟩, rfl⟩
theorem sorted_told {w : World} {b n N : Nat} {D : DataW Unit} {f : Nat → Bool} (hown : w.ownsMap Tryz.prog 2 (plainElem (H := Unit) Tryz.prog 4) b n D) (ht : Tells D (fun x => ∃ i : Nat, i < N ∧ f i = true ∧ (i : Int) = x)) {ss : List Int} (h : ss.Perm (intKeys D)) :
    ss.mergeSort (fun x y => decide (x ≤ y)) = filU f N := by
  have hR : (filU f N).Perm (intKeys D) := by
    obtain ⟨es, hD, hp⟩ := hown.tidy keyedInt
    obtain ⟨es', hD', hk⟩ : ∃ es, D = .map es ∧ ∀ p ∈ es, KeysOf Tryz.prog 2 p.1 := by
      obtain ⟨es, clock, _, F, _, rfl⟩ := hown
      exact ⟨_, rfl, fun p hp => fit_keys F p (mem_sorted.1 hp)⟩
    have he : es = es' := by rw [hD] at hD'; injection hD'
    subst he
    rw [hD]
    refine perm_intKeys hp (fun p hp' => ?_) (filU_nodup _ _) (fun x => ?_)
    · obtain ⟨v, hv'⟩ := hk p hp'
      obtain ⟨x, _, hx, _⟩ := Maps.keyOf_i64 Tryz.underlying2 hv'
      exact ⟨x, hx⟩
    · rw [← hD, mem_filU, ht.2 x]
  have h1 := mergeSort_of_perm_i (h.trans hR.symm)
  rw [show (fun x y : Int => decide (x ≤ y)) = leI from rfl, h1]
  exact List.mergeSort_of_pairwise (filU_up _ _)
/-- Is the point used by none of the first faces? -/
theorem usF_iff (fs : List Fc) (i k : Nat) : usF fs i k = false ↔ ∀ j, j < k → hasI (fs.getD j fc0).2 (i : Int) = false := by
  induction k with
  | zero => exact ⟨fun _ j hj => by omega, fun _ => rfl⟩
  | succ k ih =>
    unfold usF
    rw [Bool.or_eq_false_iff, ih]
    constructor
    · rintro ⟨h1, h2⟩ j hj
      by_cases e : j = k
      · subst e; exact h2
      · exact h1 j (by omega)
    · intro h
      exact ⟨fun j hj => h j (by omega), h k (by omega)⟩
/-- What is left behind the first k faces and i numbers of the next one. -/
def Left (D : Drw) (k i : Nat) (x : Int) : Prop := (0 ≤ x ∧ x < D.ps.length) ∧ (∀ j, j < k → hasI (D.fs.getD j fc0).2 x = false) ∧ ∀ q, q < i → (D.fs.getD k fc0).2.getD q 0 ≠ x
theorem left_step (D : Drw) (k i : Nat) (x : Int) : Left D k (i + 1) x ↔ (Left D k i x ∧ x ≠ (D.fs.getD k fc0).2.getD i 0) := by
  unfold Left
  constructor
  · rintro ⟨h1, h2, h3⟩
    exact ⟨⟨h1, h2, fun q hq => h3 q (by omega)⟩, fun e => h3 i (by omega) e.symm⟩
  · rintro ⟨⟨h1, h2, h3⟩, h4⟩
    refine ⟨h1, h2, fun q hq => ?_⟩
    by_cases e : q = i
    · subst e; exact fun e' => h4 e'.symm
    · exact h3 q (by omega)
theorem left_next (D : Drw) (k : Nat) (x : Int) : Left D (k + 1) 0 x ↔ Left D k (D.fs.getD k fc0).2.length x := by
  unfold Left
  have h : hasI (D.fs.getD k fc0).2 x = false ↔ ∀ q, q < (D.fs.getD k fc0).2.length → (D.fs.getD k fc0).2.getD q 0 ≠ x := by
    rw [← Bool.not_eq_true, hasI_iff]
    exact ⟨fun h q hq e => h ⟨q, hq, e⟩, fun h ⟨q, hq, e⟩ => h q hq e⟩
  constructor
  · rintro ⟨h1, h2, _⟩
    exact ⟨h1, fun j hj => h2 j (by omega), h.1 (h2 k (by omega))⟩
  · rintro ⟨h1, h2, h3⟩
    refine ⟨h1, fun j hj => ?_, fun q hq => by omega⟩
    by_cases e : j = k
    · subst e; exact h.2 h3
    · exact h2 j (by omega)
theorem left_end (D : Drw) (x : Int) : Left D D.fs.length 0 x ↔ ∃ i : Nat, i < D.ps.length ∧ freeB D i = true ∧ (i : Int) = x := by
  unfold Left freeB
  constructor
  · rintro ⟨⟨h0, h1⟩, h2, _⟩
    obtain ⟨i, rfl⟩ := Int.eq_ofNat_of_zero_le h0
    refine ⟨i, by omega, ?_, rfl⟩
    rw [Bool.not_eq_true', usF_iff]
    exact h2
  · rintro ⟨i, h1, h2, rfl⟩
    rw [Bool.not_eq_true', usF_iff] at h2
    exact ⟨⟨by omega, by omega⟩, h2, fun q hq => by omega⟩
theorem Tells.same {D : DataW Unit} {P Q : Int → Prop} (h : Tells D P) (hq : ∀ x, Q x ↔ P x) : Tells D Q := ⟨h.1, fun x => (h.2 x).trans (hq x).symm⟩
set_option maxRecDepth 100000 in
set_option maxHeartbeats 8000000 in
theorem unu_impl (v : Value) (D : Drw) (w : World) (hd : DV w v D) : Calls Tryz.prog 7 #[v] w (NewCI (unuR D).1 (unuR D).2 w) := by
  have HD := Lib.hid hd
  obtain ⟨ao, np, cp, bo, m, d, rfl, _, _, hs, hpv, hf⟩ := hd.out
  have HA := Lib.hid (one_alloc (w := w) (.cells #[.int .i64 D.wd, .int .i64 D.hg, .slice ao np cp, .slice bo m d] 33))
  have HX := Lib.hid (World.alloc_heap_new w (.cells #[.int .i64 D.wd, .int .i64 D.hg, .slice ao np cp, .slice bo m d] 33))
  have HF := Lib.hid hf
  have HS := Lib.hid (show fsSz D.fs ≤ 1048576 by unfold dSz at hs; omega)
  have HM := Lib.hid hf.1
  have HNP := Lib.hid hpv.1
  clear hd hs hpv hf
  cases hv : drB D with
  | false =>
    simp only [unuR, hv]
    go_enter Tryz.func7, Tryz.ntmps7
    go_wp2_with fail
    refine (valid_dimpl _ D _ (HD.out.below HA.out)).mono ?_
    rintro e w1 ⟨rfl, g1⟩
    have HG := Lib.hid (bseq HA.out g1)
    clear g1
    rw [hv]
    go_wp2
    exact bodyPost_ret (v := .tuple #[.slice none 0 0, .int .i64 1]) (by simp [results, Tryz.results7, go_sem]) rfl (newCI_nil HG.out)
  | true =>
    simp only [unuR, hv]
    have HV := Lib.hid hv
    have hfew := dr_few hv
    have hm24 : m ≤ 24 := by have := HM.out; omega
    have hn48 : np ≤ 48 := by have := HNP.out; omega
    have hmm := @run_makeMap Tryz.prog
    go_enter Tryz.func7, Tryz.ntmps7
    go_wp2_with fail
    refine (valid_dimpl _ D _ (HD.out.below HA.out)).mono ?_
    rintro e w1 ⟨rfl, g1⟩
    have HG := Lib.hid (bseq HA.out g1)
    have HX1 := Lib.hid ((g1.block _ (blk_lt HX.out)).trans HX.out)
    have HMM := Lib.hid (World.ownsMap_made w1 Tryz.prog 2 (plainElem (H := Unit) Tryz.prog 4))
    clear g1 hfew
    rw [hv]
    have hz := blk_lt HX1.out
    obtain ⟨_, _, _, _, a2, _, a3, _⟩ := cells4_of HX1.out
    go_wp2
    clear a2 a3 hz
    have hgs := HG.out.size
    have HT0 := Lib.hid (show Tells (.map []) (fun x : Int => 0 ≤ x ∧ x < ((0 : Nat) : Int)) from ⟨⟨_, rfl⟩, fun x => ⟨fun h => by simp [Maps.has] at h, fun h => by omega⟩⟩)
    go_loopw [17, 5] (fun iv u1 wr => ∃ k : Nat, k ≤ np ∧ iv = .int .i64 k ∧ Hid (∃ Dt, wr.ownsMap Tryz.prog 2 (plainElem (H := Unit) Tryz.prog 4) w1.heap.size k Dt ∧ Tells Dt (fun x => 0 ≤ x ∧ x < (k : Int))) ∧ Hid (Below w1.heap.size w1 wr)) (fun i _ _ => np - (intOf i).toNat)
    case atStart => exact ⟨0, by omega, rfl, Lib.hid ⟨_, HMM.out, HT0.out⟩, Lib.hid ((Below.refl _ _).alloc (Nat.le_refl _) _)⟩
    case round =>
      obtain ⟨k, hk, rfl, hm, hb⟩ := hrel
      have hbs := hb.out.size
      by_cases hlt : k < np
      · obtain ⟨Dt, how, hte⟩ := hm.out
        have HOW := Lib.hid how
        have HTE := Lib.hid (hte.put (u := .lit (.bool true)) (Q := fun x => 0 ≤ x ∧ x < ((k + 1 : Nat) : Int)) (show 0 ≤ (k : Int) by omega) (by omega) (fun x => by omega))
        have HKY := Lib.hid (key_int (wf_small (x := (k : Int)) (by omega) (by omega)))
        clear how hte
        go_wp2_with (first
          | (at_mapUpdate; refine wpList_mapUpdate_own _ rfl _ _ _ 50 rfl 2 4 keyedInt Tryz.underlying50 (plainElem (H := Unit) Tryz.prog 4) w1.heap.size k _ rfl HOW.out (by unfold maxLen; omega) _ _ _ rfl rfl HKY.out _ [] (plainElem_bool Tryz.underlying4 true) ?_; intro w3 hown3 hgrow3)
          | go_in)
        refine ⟨⟨k + 1, by omega, by go_num, Lib.hid ⟨_, hown3, HTE.out⟩, Lib.hid (hb.out.grown hgrow3 (by omega) (fun j hj => by cases hj; exact Nat.le_refl _))⟩, by simp [intOf]; omega⟩
      · obtain rfl : k = np := by omega
        have HT1 := Lib.hid (show ∃ Dt, wr.ownsMap Tryz.prog 2 (plainElem (H := Unit) Tryz.prog 4) w1.heap.size k Dt ∧ Tells Dt (Left D 0 0) from by
          obtain ⟨Dt, h1, h2⟩ := hm.out
          exact ⟨Dt, h1, h2.same (fun x => ⟨fun h => by have := h.1; have := HNP.out; omega, fun h => ⟨by have := HNP.out; omega, fun j hj => by omega, fun q hq => by omega⟩⟩)⟩)
        have HXr := (hb.out.block _ (blk_lt HX1.out)).trans HX1.out
        have hzr := blk_lt HXr
        obtain ⟨_, _, _, _, a2, _, a3, _⟩ := cells4_of HXr
        clear HXr
        go_wp2
        clear a2 a3 hzr
        go_loopw [26, 9] (fun iv u1 w2 => ∃ j : Nat, j ≤ m ∧ iv = .int .i64 j ∧ Hid (∃ Dt, w2.ownsMap Tryz.prog 2 (plainElem (H := Unit) Tryz.prog 4) w1.heap.size k Dt ∧ Tells Dt (Left D j 0)) ∧ Hid (Below w1.heap.size w1 w2)) (fun i _ _ => m - (intOf i).toNat)
        case atStart => exact ⟨0, by omega, rfl, HT1, hb⟩
        case round =>
          obtain ⟨j, hj, rfl, hm2, hb2⟩ := hrel
          have hbs2 := hb2.out.size
          by_cases hlj : j < m
          · have hln := fcs_le HS.out (j := j) (by have := HM.out; omega)
            have HBW := Lib.hid (HG.out.trans (hb2.out.mono hgs))
            obtain ⟨fb, s, r, a1, n1, c1', rfl, hfb0, e1, _, x0w, x1w, en1, hi1⟩ := HF.out.at hlj
            have x0 := (HBW.out.cell (p := ⟨fb, j * 2, none⟩) hfb0).trans x0w
            have x1 := (HBW.out.cell (p := ⟨fb, j * 2 + 1, none⟩) hfb0).trans x1w
            have hfb : fb < wr.heap.size := Nat.lt_of_lt_of_le hfb0 HBW.out.size
            have hn1 : n1 ≤ 1048576 := by omega
            have HI := Lib.hid hi1
            have HLN := Lib.hid (show n1 = r.length from hi1.1)
            have HE := Lib.hid (show (D.fs.getD j fc0).2 = r by rw [e1])
            have hrin := (dr_face HV.out (j := j) (by have := HM.out; omega)).2.1
            rw [HE.out] at hrin
            have HRIN := Lib.hid hrin
            clear e1 en1 hln hi1 hrin x0w x1w hfb0
            go_wp2
            have HM3 := Lib.hid (show ∃ Dt, (wr.alloc (.cells #[.string s, .slice a1 n1 c1'] 46)).ownsMap Tryz.prog 2 (plainElem (H := Unit) Tryz.prog 4) w1.heap.size k Dt ∧ Tells Dt (Left D j 0) from by
              obtain ⟨Dt, h1, h2⟩ := hm2.out
              exact ⟨Dt, h1.alloc _, h2⟩)
            have HB3 := Lib.hid (hb2.out.alloc hbs2 (.cells #[.string s, .slice a1 n1 c1'] 46))
            clear x0 x1
            go_loopw [33, 9] (fun iv u1 w3 => ∃ i : Nat, i ≤ n1 ∧ iv = .int .i64 i ∧ Hid (∃ Dt, w3.ownsMap Tryz.prog 2 (plainElem (H := Unit) Tryz.prog 4) w1.heap.size k Dt ∧ Tells Dt (Left D j i)) ∧ Hid (Below w1.heap.size w1 w3)) (fun i _ _ => n1 - (intOf i).toNat)
            case atStart => exact ⟨0, by omega, rfl, HM3, HB3⟩
            case round =>
              obtain ⟨i, hi, rfl, hm4, hb4⟩ := hrel
              have hbs4 := hb4.out.size
              by_cases hli : i < n1
              · obtain ⟨rb, rfl, hrb, hcs⟩ := (HI.out.below (HG.out.trans (hb4.out.mono hgs))).2.resolve_left (by omega)
                have c0 := hcs i hli
                have hir : i < r.length := by have := HLN.out; omega
                have hy := (allTo_iff _ _).1 HRIN.out i hir
                unfold inAt inI at hy
                simp only [Bool.and_eq_true, decide_eq_true_eq] at hy
                have hnp := HNP.out
                obtain ⟨Dt, how, hte⟩ := hm4.out
                have HOW := Lib.hid how
                have HTE := Lib.hid (hte.del (Q := Left D j (i + 1)) (y := r.getD i 0) (fun x => by rw [left_step, HE.out]))
                have HKY := Lib.hid (key_int (wf_small (x := r.getD i 0) (by omega) (by omega)))
                clear how hte hcs hy hnp hir
                generalize r.getD i 0 = y at *
                go_wp2_with (first
                  | (at_delete; refine wpList_delete_own _ rfl _ _ 50 2 rfl 4 keyedInt Tryz.underlying50 (plainElem (H := Unit) Tryz.prog 4) w1.heap.size k _ rfl HOW.out _ _ rfl HKY.out ?_; intro w3 hown3 hturn3)
                  | go_in)
                have HW3 := Lib.hid hown3
                have HB5 := Lib.hid (hb4.out.grown hturn3.grown (by omega) (fun j hj => by cases hj; exact Nat.le_refl _))
                clear hown3 hturn3
                go_roundw
                case rel => exact ⟨i + 1, by omega, by go_num, Lib.hid ⟨_, HW3.out, HTE.out⟩, HB5⟩
                case measure => simp [intOf]; omega
              · obtain rfl : i = n1 := by omega
                have HN := Lib.hid (show ∃ Dt, wr.ownsMap Tryz.prog 2 (plainElem (H := Unit) Tryz.prog 4) w1.heap.size k Dt ∧ Tells Dt (Left D (j + 1) 0) from by
                  obtain ⟨Dt, h1, h2⟩ := hm4.out
                  exact ⟨Dt, h1, h2.same (fun x => by rw [left_next, HE.out, ← HLN.out])⟩)
                go_wp2
                go_roundw
                case rel => exact ⟨j + 1, by omega, by go_num, HN, hb4⟩
                case measure => simp [intOf]; omega
          · obtain rfl : j = m := by omega
            have HE := Lib.hid (show ∃ Dt, wr.ownsMap Tryz.prog 2 (plainElem (H := Unit) Tryz.prog 4) w1.heap.size k Dt ∧ Tells Dt (fun x => ∃ i : Nat, i < D.ps.length ∧ freeB D i = true ∧ (i : Int) = x) from by
              obtain ⟨Dt, h1, h2⟩ := hm2.out
              exact ⟨Dt, h1, h2.same (fun x => by rw [HM.out, left_end])⟩)
            obtain ⟨Dt, how, hte⟩ := HE.out
            have HOW := Lib.hid how
            have HTE := Lib.hid hte
            have HSZ := Lib.hid how.size_le
            clear how hte
            go_wp2_with fail
            refine (callsIn_wide.1 (Tryz.maps_Keys_21 (some w1.heap.size) wr)).mono ?_
            rintro e1 w4 ⟨rfl, rfl⟩
            go_wp2_with fail
            refine (callsIn_wide.1 (Tryz.slices_Sorted_keys_20_21 w1.heap.size k _ _ wr HOW.out (by have := HSZ.out; unfold maxLen; omega) (by have := HSZ.out; omega))).mono ?_
            rintro e2 w5 ⟨v5, ss, rfl, hS, hrow, hnil, hb5⟩
            have HEQ := Lib.hid (sorted_told HOW.out HTE.out hS)
            have hlen : (filU (freeB D) D.ps.length).length = ss.length := by rw [← HEQ.out, List.length_mergeSort]
            have HO := Lib.hid (show w5.ownsRow w.heap.size 2 1 v5 (filU (freeB D) D.ps.length).length (flatI (filU (freeB D) D.ps.length)) by
              rw [hlen, ← HEQ.out]
              exact own_lower hrow (by have := hb2.out.size; simp; omega))
            have HB5 := Lib.hid ((bseq HG.out hb2.out).trans (((Below.refl _ wr).alloc (Nat.le_refl _) _).trans (hb5.mono (by simp)) |>.mono (by have := hb2.out.size; omega)))
            clear hrow hb5 hnil hS hlen
            go_wp2
            exact bodyPost_ret (v := .tuple #[_, .int .i64 0]) (by simp [results, Tryz.results7, go_sem]) rfl ⟨_, rfl, HO.out, HB5.out⟩
end Go.Proofs.YtfhlafnjccoocaaGreat
