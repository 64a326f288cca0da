/- Names of species as slices: impl. -/
import Derived.Test.YthjimogeimigmaaDoorVen15
namespace Go.Proofs.YthjimogeimigmaaDoor
open Go.ChangeShapes Go.WideShapes Go.ChangeAt Go.RowKit
set_option linter.unusedVariables false
set_option linter.unusedSimpArgs false

set_option maxRecDepth 100000 in
set_option maxHeartbeats 4000000 in
theorem allnames_impl (w : World) (ht : TabAt w) : Calls Tryd.prog 15 #[] w fun e w' => ∃ v, e = .returned v ∧ OwnS w' w.heap.size v (rowsL (fun _ => true) 10) ∧ Below w.heap.size w w' := by
  have HT := Lib.hid ht
  obtain ⟨i0, hi, hz0, hz1, hz2⟩ := info_parts Tryd.infoStr
  obtain ⟨T, FR, hT⟩ := ht
  go_enter Tryd.func15, Tryd.ntmps15
  go_wp2_with (refine wpList_load_row rfl 69 _ rfl 0 rfl T tabC FR _ hT Tryd.underlying69 rfl tab_info ?_)
  clear hT
  go_loopw [5, 1] (fun iv v wr => ∃ k : Nat, k ≤ 10 ∧ iv = .int .i64 k ∧ Hid (OwnS wr w.heap.size v (rowsL (fun _ => true) k)) ∧ Hid (Below w.heap.size w wr)) (fun i _ _ => 10 - (intOf i).toNat)
  case atStart => exact ⟨0, by omega, rfl, Lib.hid (World.ownsRow_nil _ _ _ _), Lib.hid (Below.refl _ _)⟩
  case round =>
    obtain ⟨k, hk, rfl, ho, hb⟩ := hrel
    have hlen := rowsL_len (fun _ => true) k
    have hle := hb.out.size
    by_cases hlt : k < 10
    · have ix := tab_index k hlt
      have hown := World.ownsRow.alloc (show wr.ownsRow w.heap.size 9 1 _ _ _ from ho.out) (.cells #[.string (spN k), .int .i64 (spS k), .int .i64 (spH k), .int .i64 (spW k)] 68)
      have hle2 : w.heap.size ≤ (wr.alloc (.cells #[.string (spN k), .int .i64 (spS k), .int .i64 (spH k), .int .i64 (spW k)] 68)).heap.size := by simp; omega
      have hb2 := hb.out.alloc hle (.cells #[.string (spN k), .int .i64 (spS k), .int .i64 (spH k), .int .i64 (spW k)] 68)
      have HB2 := Lib.hid hb2
      clear hb2
      go_wp2_with (at_builtin; refine wpList_app1 rfl _ _ 22 rfl w.heap.size 9 i0 (.string ⟨#[]⟩) 16 Tryd.underlying22 hi hz0 hz1 hz2 rfl _ _ _ rfl hown _ rfl (by first | rfl | simp) rfl (by omega) (by omega) hle2 ?_)
      intro v' w4 hown' hgrow
      have HO' := Lib.hid (OwnS.grow (w := w) (wr := wr) (v := v') (p := fun _ => true) (k := k) rfl hown')
      have HB' := Lib.hid (below_app HB2.out (Nat.le_refl _) hle2 hown hgrow)
      clear hown' hgrow hown
      go_wp2
      go_roundw
      case rel => exact ⟨k + 1, by omega, by go_num, HO', HB'⟩
      case measure => simp [intOf]; omega
    · obtain rfl : k = 10 := by omega
      go_wp2
      go_ret
      exact ⟨_, rfl, ho.out, hb.out⟩
set_option maxRecDepth 100000 in
set_option maxHeartbeats 4000000 in
theorem within_impl (a t : Int) (w : World) (ht : TabAt w) : Calls Tryd.prog 30 #[.int .i64 a, .int .i64 t] w (NewSC (swR a t) w) := by
  unfold NewSC
  have HT := Lib.hid ht
  cases h0 : inI a 0 100 with
  | false =>
    have HR := Lib.hid (show swR a t = ([], 2) by unfold swR; rw [h0]; rfl)
    rw [HR.out]
    go_enter Tryd.func30, Tryd.ntmps30
    go_wp2_with fail
    refine (shade_ven _ _).mono ?_
    rintro e w1 ⟨rfl, rfl⟩
    rw [h0]
    go_wp2
    go_ret2
    exact ⟨_, rfl, World.ownsRow_nil _ _ _ _, Below.refl _ _⟩
  | true =>
  cases h1 : inI t 0 100 with
  | false =>
    have HR := Lib.hid (show swR a t = ([], 2) by unfold swR; rw [h0, h1]; rfl)
    rw [HR.out]
    go_enter Tryd.func30, Tryd.ntmps30
    go_wp2_with fail
    refine (shade_ven _ _).mono ?_
    rintro e w1 ⟨rfl, rfl⟩
    rw [h0]
    go_wp2_with fail
    refine (shade_ven _ _).mono ?_
    rintro e w1 ⟨rfl, rfl⟩
    rw [h1]
    go_wp2
    go_ret2
    exact ⟨_, rfl, World.ownsRow_nil _ _ _ _, Below.refl _ _⟩
  | true =>
    have HR := Lib.hid (show swR a t = (rowsL (swP a t) 10, 0) by unfold swR; rw [h0, h1]; rfl)
    have ⟨a0, a1⟩ := (inI_iff2 _ _ _).1 h0
    have ⟨b0, b1⟩ := (inI_iff2 _ _ _).1 h1
    rw [HR.out]
    obtain ⟨i0, hi, hz0, hz1, hz2⟩ := info_parts Tryd.infoStr
    obtain ⟨T, FR, hT⟩ := ht
    go_enter Tryd.func30, Tryd.ntmps30
    go_wp2_with fail
    refine (shade_ven _ _).mono ?_
    rintro e w1 ⟨rfl, rfl⟩
    rw [h0]
    go_wp2_with fail
    refine (shade_ven _ _).mono ?_
    rintro e w1 ⟨rfl, rfl⟩
    rw [h1]
    go_wp2_with (refine wpList_load_row rfl 69 _ rfl 0 rfl T tabC FR _ hT Tryd.underlying69 rfl tab_info ?_)
    clear hT
    go_loopw [18, 6] (fun iv v wr => ∃ k : Nat, k ≤ 10 ∧ iv = .int .i64 k ∧ Hid (OwnS wr w.heap.size v (rowsL (swP a t) k)) ∧ Hid (Below w.heap.size w wr)) (fun i _ _ => 10 - (intOf i).toNat)
    case atStart => exact ⟨0, by omega, rfl, Lib.hid (World.ownsRow_nil _ _ _ _), Lib.hid (Below.refl _ _)⟩
    case round =>
      obtain ⟨k, hk, rfl, ho, hb⟩ := hrel
      have hlen := rowsL_len (swP a t) k
      have hle := hb.out.size
      by_cases hlt : k < 10
      · have ix := tab_index k hlt
        have HP := Lib.hid (show swP a t k = decide (awy (spS k) a ≤ t) from rfl)
        have q := World.alloc_heap_new wr (.cells #[.string (spN k), .int .i64 (spS k), .int .i64 (spH k), .int .i64 (spW k)] 68)
        have HB2 := Lib.hid (hb.out.alloc hle (.cells #[.string (spN k), .int .i64 (spS k), .int .i64 (spH k), .int .i64 (spW k)] 68))
        have HO2 := Lib.hid (World.ownsRow.alloc (show wr.ownsRow w.heap.size 9 1 _ _ _ from ho.out) (.cells #[.string (spN k), .int .i64 (spS k), .int .i64 (spH k), .int .i64 (spW k)] 68))
        go_wp2_with fail
        refine (away_ven k a _ a0 a1).mono ?_
        rintro e w3 ⟨rfl, g3⟩
        have HB3 := Lib.hid (bseq HB2.out g3)
        have hown := own_below HO2.out g3 (Nat.le_refl _)
        have q3 := (g3.block _ (blk_lt3 q)).trans q
        have hql := blk_lt3 q3
        obtain ⟨c0, _, c1, _, c2, _, c3, _⟩ := cells4_of q3
        have hle2 := HB3.out.size
        clear g3 q q3
        cases hp : swP a t k with
        | true =>
          have hd : decide (awy (spS k) a ≤ t) = true := by rw [← HP.out]; exact hp
          go_wp2_with (at_builtin; refine wpList_app1 rfl _ _ 22 rfl w.heap.size 9 i0 (.string ⟨#[]⟩) 16 Tryd.underlying22 hi hz0 hz1 hz2 rfl _ _ _ rfl hown _ rfl (by first | rfl | simp) rfl (by omega) (by omega) hle2 ?_)
          intro v' w4 hown' hgrow
          have HO' := Lib.hid (OwnS.grow (w := w) (wr := wr) (v := v') hp hown')
          have HB' := Lib.hid (below_app HB3.out (Nat.le_refl _) hle2 hown hgrow)
          clear hown' hgrow hown
          go_wp2
          go_roundw
          case rel => exact ⟨k + 1, by omega, by go_num, HO', HB'⟩
          case measure => simp [intOf]; omega
        | false =>
          have hd : decide (awy (spS k) a ≤ t) = false := by rw [← HP.out]; exact hp
          have HO' := Lib.hid (show OwnS w3 w.heap.size _ (rowsL (swP a t) (k + 1)) by rw [rowsL_no hp]; exact hown)
          clear hown
          go_wp2
          go_roundw
          case rel => exact ⟨k + 1, by omega, by go_num, HO', HB3⟩
          case measure => simp [intOf]; omega
      · obtain rfl : k = 10 := by omega
        go_wp2
        go_ret2
        exact ⟨_, rfl, ho.out, hb.out⟩
end Go.Proofs.YthjimogeimigmaaDoor
