/- Leaves of a species: impl. -/
import Derived.Test.YthocpiklbcahgaaDoorLea11
import Derived.Test.YthocpiklbcahgaaDoorWhSpecies
import Derived.Test.YthocpiklbcahgaaDoorWcLeavesOf
import Derived.Test.YthocpiklbcahgaaDoorK18
import Derived.Test.YthocpiklbcahgaaDoorVen2
namespace Go.Proofs.YthocpiklbcahgaaDoor
open Seq2 Go.ChangeShapes Go.WideShapes Go.ChangeAt Go.RowKit
set_option linter.unusedVariables false
set_option linter.unusedSimpArgs false

set_option maxRecDepth 100000 in
set_option maxHeartbeats 1000000 in
theorem clo_sp (v : Value) (z : Lf) (q : Nat) (sp : ByteArray) (w : World) (hv : LfV w v z) (hq : q < w.heap.size) (hc : w.cell? ⟨q, 0, none⟩ = some (.string sp)) :
    Calls Tryd.prog 87 #[v, .pointer (some ⟨q, 0, none⟩)] w fun e w' => e = .returned (.bool (eqS z.ve.1 sp)) ∧ Below w.heap.size w w' := by
  obtain ⟨ao, n, c, rfl, _, _, _, _, _, _, _, hn, hd⟩ := hv.out
  clear hv hd
  unfold eqS
  go_enter Tryd.func87, Tryd.ntmps87
  go_wp2
  go_ret
  exact ⟨rfl, one_alloc _⟩
set_option maxRecDepth 100000 in
set_option maxHeartbeats 8000000 in
theorem osp_err (E : ErrA) (ao : Option Addr) (n c : Nat) (sp : ByteArray) (w : World) (hx : ¬ ixN sp < 10) (ht : TabAt w) (he : Errs w E) :
    Calls Tryd.prog 43 #[.slice ao n c, .string sp] w fun e w' => e = .returned (.tuple #[.slice none 0 0, esV E.n]) ∧ Below w.heap.size w w' := by
  have HA := Lib.hid (one_alloc (w := w) (.cells #[.string sp] 9))
  have HT := Lib.hid (ht.below HA.out)
  have HE := Lib.hid (he.below HA.out)
  have HSB := Lib.hid (show spB sp = false by unfold spB; simpa using hx)
  clear ht he hx
  unfold esV
  go_enter Tryd.func43, Tryd.ntmps43
  go_wp2_with fail
  refine (named_ven sp _ HT.out).mono ?_
  rintro e w1 ⟨rfl, g1⟩
  have HG := Lib.hid (bseq HA.out g1)
  have HE1 := Lib.hid (HE.out.below g1)
  clear g1
  rw [HSB.out]
  unfold spV
  go_wp2
  have hA2 := one_alloc (w := w1) (.cells #[.string (spN (ixN sp)), .int .i64 (spS (ixN sp)), .int .i64 (spH (ixN sp)), .int .i64 (spW (ixN sp))] 115)
  have c0 := (HE1.out.below hA2).N.cell
  have l0 := (HE1.out.below hA2).N.lt
  have HG2 := Lib.hid (bseq HG.out hA2)
  clear hA2
  refine wp_region_below (by kernel_rfl) (by kernel_rfl) ?_
  repeat (first | (refine wq_val ?_ ?_; (focus (go_simp; done)); apply Exists.intro; refine ⟨fun w1 hw1 => ?_, ?_⟩; (obtain ⟨hc, hf⟩ := bcell hw1; clear hw1; go_simp; (first | done | with_reducible rfl | (with_reducible exact eql2 _ _ _) | (with_reducible exact neq2 _ _ _))); (try simp only [Act.put, List.setIfInBounds_toArray, List.set_cons_zero, List.set_cons_succ])) | (refine wq_skip ?_ ?_; (focus (go_simp; (first | done | (simp [undef]; done)))); (try simp only [Act.put, List.setIfInBounds_toArray, List.set_cons_zero, List.set_cons_succ])))
  refine wq_nil ?_
  intro w2 hb2
  have HB2 := Lib.hid (bseq HG2.out hb2)
  clear hb2
  go_wp2
  go_ret2
  exact ⟨rfl, HB2.out⟩
set_option maxRecDepth 100000 in
set_option maxHeartbeats 8000000 in
theorem osp_ok (ao : Option Addr) (n c : Nat) (zs : List Lf) (sp : ByteArray) (w : World) (hn : n ≤ 16) (hv : LfsV w ao n zs) (hx : ixN sp < 10) (ht : TabAt w) :
    Calls Tryd.prog 43 #[.slice ao n c, .string sp] w fun e w' => ∃ v, e = .returned (.tuple #[v, .nilIface]) ∧ OwnI w' w.heap.size v (plL (speP zs sp) n) ∧ Below w.heap.size w w' := by
  have HA := Lib.hid (one_alloc (w := w) (.cells #[.string sp] 9))
  have HX := Lib.hid (World.alloc_heap_new w (.cells #[.string sp] 9))
  have HT := Lib.hid (ht.below HA.out)
  have HV := Lib.hid (hv.below HA.out)
  have HSB := Lib.hid (show spB sp = true by unfold spB; simpa using hx)
  clear ht hv hx
  go_enter Tryd.func43, Tryd.ntmps43
  go_wp2_with fail
  refine (named_ven sp _ HT.out).mono ?_
  rintro e w1 ⟨rfl, g1⟩
  have HG := Lib.hid (bseq HA.out g1)
  have HV1 := Lib.hid (HV.out.below g1)
  have HX1 := Lib.hid ((g1.block _ (blk_lt HX.out)).trans HX.out)
  clear g1
  rw [HSB.out]
  unfold spV
  have hA2 := one_alloc (w := w1) (.cells #[.string (spN (ixN sp)), .int .i64 (spS (ixN sp)), .int .i64 (spH (ixN sp)), .int .i64 (spW (ixN sp))] 115)
  have HV2 := Lib.hid (HV1.out.below hA2)
  have HX2 := Lib.hid ((hA2.block _ (blk_lt HX1.out)).trans HX1.out)
  have HG2 := Lib.hid (bseq HG.out hA2)
  clear hA2
  go_wp2_with fail
  refine (where_ofSpecies_1 _ (speP zs sp) ao n c zs _ hn HV2.out (fun j v w' hj hb hl => by
    have hx3 := (hb.block _ (blk_lt HX2.out)).trans HX2.out
    exact clo_sp v _ w.heap.size sp w' hl (blk_lt hx3) (cell_of_arr hx3 (j := 0) rfl).1)).mono ?_
  rintro e w2 ⟨v, rfl, ho, g2⟩
  have HO := Lib.hid (own_lower ho HG2.out.size)
  have HG3 := Lib.hid (bseq HG2.out g2)
  clear g2 ho
  go_wp2
  go_ret2
  exact ⟨v, rfl, HO.out, HG3.out⟩
set_option maxRecDepth 100000 in
set_option maxHeartbeats 4000000 in
theorem clo_lv_err (q p1 : Nat) (E : ErrA) (ao : Option Addr) (n c : Nat) (sp : ByteArray) (w : World) (hx : ¬ ixN sp < 10) (ht : TabAt w) (he : Errs w E)
    (hq : w.heap[q]? = some (.cells #[.slice ao n c] 27 (0, 0))) (h1 : w.heap[p1]? = some (.cells #[.string sp] 9 (0, 0))) :
    Calls Tryd.prog 42 #[.pointer (some ⟨q, 0, none⟩), .pointer (some ⟨p1, 0, none⟩)] w fun e w' => e = .returned (.tuple #[.slice none 0 0, esV E.n]) ∧ Below w.heap.size w w' := by
  have hz := blk_lt hq
  have a0 := (cell_of_arr hq (j := 0) rfl).1
  have hz1 := blk_lt h1
  have b0 := (cell_of_arr h1 (j := 0) rfl).1
  have HC := Lib.hid (osp_err E ao n c sp w hx ht he)
  unfold esV at HC ⊢
  clear hx ht he hq h1
  go_enter Tryd.func42, Tryd.ntmps42
  go_wp2_with fail
  refine (HC.out).mono ?_
  rintro e w1 ⟨rfl, g1⟩
  have HG := Lib.hid g1
  clear g1
  go_wp2
  go_ret2
  exact ⟨rfl, HG.out⟩
set_option maxRecDepth 100000 in
set_option maxHeartbeats 4000000 in
theorem clo_lv_ok (q p1 : Nat) (ao : Option Addr) (n c : Nat) (zs : List Lf) (sp : ByteArray) (w : World) (hn : n ≤ 16) (hv : LfsV w ao n zs) (hx : ixN sp < 10) (ht : TabAt w)
    (hq : w.heap[q]? = some (.cells #[.slice ao n c] 27 (0, 0))) (h1 : w.heap[p1]? = some (.cells #[.string sp] 9 (0, 0))) :
    Calls Tryd.prog 42 #[.pointer (some ⟨q, 0, none⟩), .pointer (some ⟨p1, 0, none⟩)] w fun e w' => ∃ v, e = .returned (.tuple #[v, .nilIface]) ∧ OwnI w' w.heap.size v (plL (speP zs sp) n) ∧ Below w.heap.size w w' := by
  have hz := blk_lt hq
  have a0 := (cell_of_arr hq (j := 0) rfl).1
  have hz1 := blk_lt h1
  have b0 := (cell_of_arr h1 (j := 0) rfl).1
  have HC := Lib.hid (osp_ok ao n c zs sp w hn hv hx ht)
  clear hx ht hv hq h1
  go_enter Tryd.func42, Tryd.ntmps42
  go_wp2_with fail
  refine (HC.out).mono ?_
  rintro e w1 ⟨v, rfl, ho, g1⟩
  have HG := Lib.hid g1
  have HO := Lib.hid ho
  clear g1 ho
  go_wp2
  go_ret2
  exact ⟨v, rfl, HO.out, HG.out⟩
set_option maxRecDepth 100000 in
set_option maxHeartbeats 8000000 in
theorem lv_impl (ao : Option Addr) (n c : Nat) (zs : List Lf) (sp : ByteArray) (w : World) (hn : n ≤ 1048576) (hv : LfsV w ao n zs) (ht : TabAt w) (he : ErrsAt w) :
    Calls Tryd.prog 13 #[.slice ao n c, .string sp] w (NewCI (lvR zs sp).1 (lvR zs sp).2 w) := by
  unfold NewCI
  obtain ⟨E, hE⟩ := he.out
  have hA := two_allocs (w := w) (.cells #[.slice ao n c] 27) (.cells #[.string sp] 9)
  have hx := (Below.heap_alloc (w.alloc (.cells #[.slice ao n c] 27)) (.cells #[.string sp] 9) w.heap.size (by simp)).trans (World.alloc_heap_new w (.cells #[.slice ao n c] 27))
  have hp := World.alloc_heap_new (w.alloc (.cells #[.slice ao n c] 27)) (.cells #[.string sp] 9)
  rw [show (w.alloc (.cells #[.slice ao n c] 27)).heap.size = w.heap.size + 1 by simp] at hp
  have HA := Lib.hid hA
  have HX := Lib.hid hx
  have HP := Lib.hid hp
  have HT := Lib.hid (ht.below hA)
  have HE := Lib.hid (hE.below hA)
  have HV := Lib.hid (hv.below hA)
  have HZ := Lib.hid hv.1
  clear hv ht he hE hA hx hp
  cases hB : lfsB zs with
  | false =>
    have HR := Lib.hid (show lvR zs sp = ([], 1) by unfold lvR; rw [hB]; rfl)
    rw [HR.out]
    go_enter Tryd.func13, Tryd.ntmps13
    go_wp2_with fail
    refine (validLs_impl ao n c zs _ hn HV.out HT.out).mono ?_
    rintro e w1 ⟨rfl, g1⟩
    have HG := Lib.hid (bseq HA.out g1)
    clear g1
    rw [hB]
    go_wp2_with fail
    refine (wc_LeavesOf_1_no _ _).mono ?_
    rintro e w2 ⟨rfl, rfl⟩
    go_wp2
    go_ret2
    exact ⟨_, rfl, World.ownsRow_nil _ _ _ _, HG.out⟩
  | true =>
    have hn16 : n ≤ 16 := by have := (lfsB_ok hB).1; have := HZ.out; omega
    by_cases hx : ixN sp < 10
    rotate_left
    · have HR := Lib.hid (show lvR zs sp = ([], 3) by unfold lvR; rw [hB, if_pos rfl, if_neg hx])
      rw [HR.out]
      go_enter Tryd.func13, Tryd.ntmps13
      go_wp2_with fail
      refine (validLs_impl ao n c zs _ hn HV.out HT.out).mono ?_
      rintro e w1 ⟨rfl, g1⟩
      have HG := Lib.hid (bseq HA.out g1)
      have HT1 := Lib.hid (HT.out.below g1)
      have HE1 := Lib.hid (HE.out.below g1)
      have HX1 := Lib.hid ((g1.block _ (blk_lt HX.out)).trans HX.out)
      have HP1 := Lib.hid ((g1.block _ (blk_lt HP.out)).trans HP.out)
      clear g1
      rw [hB]
      go_wp2_with fail
      refine (wc_LeavesOf_1_err _ _ _ 3 E.n _ (clo_lv_err w.heap.size (w.heap.size + 1) E ao n c sp _ hx HT1.out HE1.out HX1.out HP1.out) (fun w' hb => code_N E w' (HE1.out.below hb))).mono ?_
      rintro e w2 ⟨rfl, g2⟩
      have HG2 := Lib.hid (bseq HG.out g2)
      clear g2
      go_wp2
      go_ret2
      exact ⟨_, rfl, World.ownsRow_nil _ _ _ _, HG2.out⟩
    have HR := Lib.hid (show lvR zs sp = (plL (speP zs sp) n, 0) by unfold lvR; rw [hB, if_pos rfl, if_pos hx, HZ.out])
    rw [HR.out]
    go_enter Tryd.func13, Tryd.ntmps13
    go_wp2_with fail
    refine (validLs_impl ao n c zs _ hn HV.out HT.out).mono ?_
    rintro e w1 ⟨rfl, g1⟩
    have HG := Lib.hid (bseq HA.out g1)
    have HT1 := Lib.hid (HT.out.below g1)
    have HV1 := Lib.hid (HV.out.below g1)
    have HX1 := Lib.hid ((g1.block _ (blk_lt HX.out)).trans HX.out)
    have HP1 := Lib.hid ((g1.block _ (blk_lt HP.out)).trans HP.out)
    clear g1
    rw [hB]
    go_wp2_with fail
    refine (wc_LeavesOf_1_ok _ _ (fun v w' => OwnI w' w1.heap.size v (plL (speP zs sp) n)) _ (clo_lv_ok w.heap.size (w.heap.size + 1) ao n c zs sp _ hn16 HV1.out hx HT1.out HX1.out HP1.out)).mono ?_
    rintro e w2 ⟨v, rfl, ho, g2⟩
    have HO := Lib.hid (own_lower ho HG.out.size)
    have HG2 := Lib.hid (bseq HG.out g2)
    clear g2 ho
    go_wp2
    go_ret2
    exact ⟨v, rfl, HO.out, HG2.out⟩
end Go.Proofs.YthocpiklbcahgaaDoor
