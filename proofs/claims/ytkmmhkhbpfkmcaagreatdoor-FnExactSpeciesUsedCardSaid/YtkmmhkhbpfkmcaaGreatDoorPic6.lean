/- The species of a picture: what they are; spec. -/
import Derived.Test.YtkmmhkhbpfkmcaaGreatDoorPic2
import Derived.Test.YtkmmhkhbpfkmcaaGreatDoorVen15
import Derived.Test.YtkmmhkhbpfkmcaaGreatDoorOwnAt
namespace Go.Proofs.YtkmmhkhbpfkmcaaGreatDoor
open Seq2 Go.ChangeShapes Go.WideShapes Go.ChangeAt Go.RowKit
set_option linter.unusedVariables false
set_option linter.unusedSimpArgs false

/-- Has one of the first veneers the species of row j? -/
def usK (zs : List Vn) (j : Nat) : Nat → Bool
  | 0 => false
  | k + 1 => usK zs j k || ((zs.getD k vn0).1.toList == (spN j).toList)
def usP (zs : List Vn) (j : Nat) : Bool := usK zs j zs.length
def suR (z : Pc) : List (List UInt8) × Int := if picB z then (rowsL (usP z.vs) 10, 0) else ([], 1)
theorem suR_len (z : Pc) : (suR z).1.length ≤ 1000 := by
  unfold suR; split
  · exact Nat.le_trans (rowsL_len _ _) (by omega)
  · simp
set_option maxRecDepth 100000 in
set_option maxHeartbeats 8000000 in
theorem used_spec (v : Value) (z : Pc) (w : World) (hd : PcV w v z) : Calls Tryz.prog 13 #[v] w (NewSC (suR z) w) := by
  unfold NewSC
  obtain ⟨c, rfl, hp⟩ := hd.box
  have HP := Lib.hid hp
  have HA := Lib.hid (one_alloc (w := w) (.cells c 37))
  clear hd hp
  cases hv : picB z with
  | false =>
    have HR := Lib.hid (show suR z = ([], 1) by unfold suR; rw [hv]; rfl)
    rw [HR.out]
    go_enter Tryz.func13, Tryz.ntmps13
    go_wp2_with fail
    refine (picOk_spec _ z _ HP.out).mono ?_
    rintro e w1 ⟨rfl, g1⟩
    have HG := Lib.hid (bseq HA.out g1)
    clear g1
    rw [hv]
    go_wp2
    go_ret2
    exact ⟨_, rfl, World.ownsRow_nil _ _ _ _, HG.out⟩
  | true =>
    have HR := Lib.hid (show suR z = (rowsL (usP z.vs) 10, 0) by unfold suR; rw [hv]; rfl)
    rw [HR.out]
    obtain ⟨i0, hi, hz0, hz1, hz2⟩ := info_parts Tryz.infoStr
    go_enter Tryz.func13, Tryz.ntmps13
    go_wp2_with fail
    refine (picOk_spec _ z _ HP.out).mono ?_
    rintro e w1 ⟨rfl, g1⟩
    have HG := Lib.hid (bseq HA.out g1)
    have HP1 := Lib.hid (HP.out.below g1)
    clear g1
    rw [hv]
    obtain ⟨ao, bo, n, c', m, d, eo, N, e, h1, hs, h2, h3, h4⟩ := HP1.out.out
    have HQ := Lib.hid h1
    have HVN := Lib.hid h4
    have HNN := Lib.hid h4.1
    have hN1 : N ≤ 1048576 := h3
    clear h1 hs h2 h3 h4
    go_wp2_with fail
    refine (names_spec _).mono ?_
    rintro e' w2 ⟨rfl, rfl⟩
    have HN := World.alloc_heap_new (w1.alloc (.cells #[] 9)) (.cells namC 9)
    rw [show (w1.alloc (.cells #[] 9)).heap.size = w1.heap.size + 1 by simp] at HN
    have HN2 := Lib.hid HN
    have HO0 := Lib.hid (show OwnS ((w1.alloc (.cells #[] 9)).alloc (.cells namC 9)) w1.heap.size (.slice (some ⟨w1.heap.size, 0, none⟩) 0 0) (rowsL (usP z.vs) 0) from World.ownsRow.alloc (World.ownsRow_made _ _ _ (Nat.le_refl _) (by unfold maxLen; omega) rfl) _)
    have HB0 := Lib.hid (two_allocs (w := w1) (.cells #[] 9) (.cells namC 9))
    clear HN
    go_wp2
    go_loopw [6, 4, 7, 8] (fun iv v u1 u2 wr => ∃ k : Nat, k ≤ 10 ∧ iv = .int .i64 k ∧ Hid (OwnS wr w1.heap.size v (rowsL (usP z.vs) k)) ∧ Hid (v.ownBlock ≠ some (w1.heap.size + 1)) ∧ Hid (wr.heap[w1.heap.size + 1]? = some (.cells namC 9 (0, 0))) ∧ Hid (Below w1.heap.size w1 wr)) (fun i _ _ _ _ => 10 - (intOf i).toNat)
    case atStart => exact ⟨0, by omega, rfl, HO0, Lib.hid (by simp [Value.ownBlock]), HN2, HB0⟩
    case round =>
      obtain ⟨k, hk, rfl, ho, hob, hnm, hb⟩ := hrel
      have hle := hb.out.size
      have hnl := blk_lt hnm.out
      by_cases hlt : k < 10
      · go_wp2
        go_loopw [8, 7] (fun kv uv wi => ∃ i : Nat, i ≤ N ∧ kv = .int .i64 i ∧ uv = .bool (usK z.vs k i) ∧ Hid (Below wr.heap.size wr wi)) (fun i _ _ => N - (intOf i).toNat)
        case atStart => exact ⟨0, by omega, rfl, rfl, Lib.hid (Below.refl _ _)⟩
        case round =>
          obtain ⟨i, hi', rfl, rfl, hbi⟩ := hrel
          have HBW := Lib.hid (hb.out.trans (hbi.out.mono hle))
          have hq := HQ.out.keep (HBW.out.block _ HQ.out.lt)
          have hqr := hq.lt
          have c4 := hq.c4
          clear hq
          by_cases hli : i < N
          · obtain ⟨vb, rfl, hcs⟩ := (HVN.out.below HBW.out).2.resolve_left (by omega)
            obtain ⟨hvw, y0, _, _⟩ := hcs i hli
            have hnm2 := (hbi.out.block _ hnl).trans hnm.out
            have hn := (cell_of_row _ _ k _ _ _ hnm2).trans (nam_cell k hlt)
            have hnl2 := blk_lt hnm2
            have HS := Lib.hid (show usK z.vs k (i + 1) = (usK z.vs k i || ((z.vs.getD i vn0).1.toList == (spN k).toList)) from rfl)
            clear hcs hnm2
            generalize (z.vs.getD i vn0).1 = s at *
            generalize usK z.vs k i = b0 at *
            cases b0 with
            | true =>
              rw [Bool.true_or] at HS
              go_wp2
              refine wp_region_below (by kernel_rfl) (by kernel_rfl) ?_
              repeat (first | (refine wq_skip ?_ ?_; (focus (go_simp; (first | done | (simp [undef]; done)))); (try simp only [Act.put, List.setIfInBounds_toArray, List.set_cons_zero, List.set_cons_succ])) | (refine wq_val ?_ ?_; (focus (go_simp; done)); apply Exists.intro; refine ⟨fun w1 hw1 => ?_, ?_⟩; (obtain ⟨hc, hf⟩ := bcell hw1; clear hw1; go_simp; (first | done | with_reducible rfl | (with_reducible exact eql2 _ _ _) | (with_reducible exact neq2 _ _ _))); (try simp only [Act.put, List.setIfInBounds_toArray, List.set_cons_zero, List.set_cons_succ])))
              refine wq_nil ?_
              intro wc hbc
              have HC := Lib.hid (bseq hbi.out hbc)
              clear hbc
              go_wp2
              go_roundw
              case rel => exact ⟨i + 1, by omega, by go_num, by rw [HS.out], HC⟩
              case measure => simp [intOf]; omega
            | false =>
              rw [Bool.false_or] at HS
              go_wp2
              refine wp_region_below (by kernel_rfl) (by kernel_rfl) ?_
              repeat (first | (refine wq_skip ?_ ?_; (focus (go_simp; (first | done | (simp [undef]; done)))); (try simp only [Act.put, List.setIfInBounds_toArray, List.set_cons_zero, List.set_cons_succ])) | (refine wq_val ?_ ?_; (focus (go_simp; done)); apply Exists.intro; refine ⟨fun w1 hw1 => ?_, ?_⟩; (obtain ⟨hc, hf⟩ := bcell hw1; clear hw1; go_simp; (first | done | with_reducible rfl | (with_reducible exact eql2 _ _ _) | (with_reducible exact neq2 _ _ _))); (try simp only [Act.put, List.setIfInBounds_toArray, List.set_cons_zero, List.set_cons_succ])))
              refine wq_nil ?_
              intro wc hbc
              have HC := Lib.hid (bseq hbi.out hbc)
              clear hbc
              go_wp2
              go_roundw
              case rel => exact ⟨i + 1, by omega, by go_num, by rw [HS.out], HC⟩
              case measure => simp [intOf]; omega
          · obtain rfl : i = N := by omega
            have HU := Lib.hid (show usK z.vs k i = usP z.vs k by unfold usP; rw [← HNN.out])
            have HOW := Lib.hid (own_below ho.out hbi.out)
            have hnm2 := (hbi.out.block _ hnl).trans hnm.out
            have HNM2 := Lib.hid hnm2
            have hn := (cell_of_row _ _ k _ _ _ hnm2).trans (nam_cell k hlt)
            have hnl2 := blk_lt hnm2
            have hlen := rowsL_len (usP z.vs) k
            have hleW := HBW.out.size
            rw [HU.out]
            clear hnm2
            cases hu : usP z.vs k with
            | true =>
              have hown := HOW.out
              go_wp2_with (at_builtin; refine wpList_app1_at rfl _ _ 41 rfl w1.heap.size 9 i0 (.string ⟨#[]⟩) 16 Tryz.underlying41 hi hz0 hz1 hz2 rfl _ _ _ rfl hown _ rfl (by first | rfl | simp) rfl (by omega) (by omega) hleW ?_)
              intro v' w4 hown' hgrow hwhere
              have HO' := Lib.hid (OwnS.grow (w := w) (wr := wr) (v := v') hu hown')
              have HB' := Lib.hid (below_app HBW.out (Nat.le_refl _) hleW hown hgrow)
              have HNM' := Lib.hid ((hgrow.block _ (by simp; omega) hob.out.symm).trans ((Below.heap_alloc _ _ _ (by omega)).trans HNM2.out))
              have HOB' := Lib.hid (show v'.ownBlock ≠ some (w1.heap.size + 1) by
                rcases hwhere with h | h
                · rw [h]; exact hob.out
                · rw [h]; simp; omega)
              clear hown' hgrow hwhere hown
              go_wp2
              go_roundw
              case rel => exact ⟨k + 1, by omega, by go_num, HO', HOB', HNM', HB'⟩
              case measure => simp [intOf]; omega
            | false =>
              have HO' := Lib.hid (show OwnS _ w1.heap.size _ (rowsL (usP z.vs) (k + 1)) by rw [rowsL_no hu]; exact HOW.out)
              go_wp2
              go_roundw
              case rel => exact ⟨k + 1, by omega, by go_num, HO', hob, HNM2, HBW⟩
              case measure => simp [intOf]; omega
      · obtain rfl : k = 10 := by omega
        have HE := Lib.hid (World.ownsRow.mono ho.out HG.out.size)
        go_wp2
        go_ret2
        exact ⟨_, rfl, HE.out, bseq HG.out hb.out⟩
end Go.Proofs.YtkmmhkhbpfkmcaaGreatDoor
