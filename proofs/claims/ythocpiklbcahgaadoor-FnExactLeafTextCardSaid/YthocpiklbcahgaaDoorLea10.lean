/- The text of a leaf: impl. -/
import Derived.Test.YthocpiklbcahgaaDoorLea9
import Derived.Test.YthocpiklbcahgaaDoorK14
import Derived.Test.YthocpiklbcahgaaDoorK15
import Derived.Test.YthocpiklbcahgaaDoorVen15
import Derived.Test.YthocpiklbcahgaaDoorSeq3
namespace Go.Proofs.YthocpiklbcahgaaDoor
open Seq2 Go.ChangeShapes Go.WideShapes Go.ChangeAt Go.RowKit Go.Joins
set_option linter.unusedVariables false
set_option linter.unusedSimpArgs false

set_option maxRecDepth 100000 in
set_option maxHeartbeats 1000000 in
theorem numbers_impl (x y a b : Int) (w : World) : Calls Tryd.prog 69 #[.agg #[.int .i64 x, .int .i64 y, .int .i64 a, .int .i64 b]] w fun e w' => e = .returned (.slice (some ⟨w.heap.size + 1, 0, none⟩) 4 4) ∧ IntsAt w' (w.heap.size + 1) (bxN (x, y, a, b)) ∧ Below w.heap.size w w' := by
  have HI := Lib.hid (ints4 (w.alloc (.cells #[.int .i64 x, .int .i64 y, .int .i64 a, .int .i64 b] 49)) 2 x y a b)
  go_enter Tryd.func69, Tryd.ntmps69
  go_wp2
  go_ret
  exact ⟨by simp, by simpa using HI.out, two_allocs _ _⟩
theorem join_own (base : Nat) (v : Value) (L : List (List UInt8)) (sep : ByteArray) (w : World) (h : OwnS w base v L) (hL : L.length ≤ 1000) (hl : (Lib.join L sep.data.toList).length ≤ 1048576) (h0 : 0 < L.length) :
    Calls Tryd.prog 70 #[v, .string sep] w fun e w' => e = .returned (.string (tb (Lib.join L sep.data.toList))) ∧ Below w.heap.size w w' := by
  obtain ⟨h1, h2 | ⟨g, cap, cur, rfl, h3, h4, h5, h6, h7, h8⟩⟩ := h
  · exact absurd h2.2 (by omega)
  have e2 : (L.map tb).map (·.data.toList) = L := by
    rw [List.map_map]
    conv => rhs; rw [← List.map_id L]
    apply List.map_congr_left; intro z _; exact tb_data _
  have := Tryd.strings_Join g 0 cap (L.map tb) sep w (fun j x hx => by
    have hj : j < L.length := by
      have := (List.getElem?_eq_some_iff.1 hx).1
      simpa using this
    have := congrArg (fun l => l[j]?) h8
    simp only [Nat.mul_one, List.getElem?_take_of_lt hj, List.getElem?_map, List.getElem?_eq_getElem hj, Option.map_some] at this hx
    cases hx
    rw [Nat.zero_add]
    exact (cell_of_arr h4 (j := j) (by simpa [sV] using this)).1) (Array.getElem?_eq_some_iff.1 h4).1 (by simp; omega) (by simp; omega) (by rw [e2]; omega)
  rw [e2] at this
  simp only [List.length_map] at this
  exact this
theorem list4_impl (b : Nat) (d : Bx) (w : World) (h : bxS d) (hi : IntsAt w b (bxN d)) (ht : TabOk w) :
    Calls Tryd.prog 68 #[.slice (some ⟨b, 0, none⟩) 4 4] w fun e w' => e = .returned (.string (tb (jn (bxN d)))) ∧ Below w.heap.size w w' := by
  refine (listText_impl b 4 (bxN d) w (by simp [bxN]) hi ht).mono ?_
  rintro e w' ⟨rfl, hb⟩
  refine ⟨?_, hb⟩
  rw [listR, bx_fit h, if_pos rfl, listT, if_neg (by simp [bxN])]
theorem ltP_len (z : Lf) (k : Nat) (h : k ≤ z.df.length) : (ltP z k).length = 5 + k := by
  simp only [ltP, hdP, List.length_append, List.length_map, List.length_take, List.length_cons, List.length_nil]; omega
set_option maxRecDepth 100000 in
set_option maxHeartbeats 16000000 in
theorem ltext_impl (v : Value) (z : Lf) (w : World) (hv : LfV w v z) (ht : TabAt w) (hk : TabOk w) : Calls Tryd.prog 30 #[v] w fun e w' => e = .returned (.string (tb (ltT z))) ∧ Below w.heap.size w w' := by
  have HVV := Lib.hid hv
  obtain ⟨ao, n, c, rfl, _, _, _, _, _, _, _, hn, hd⟩ := hv.out
  have HA := Lib.hid (one_alloc (w := w) (.cells #[.string z.id, .string z.fl, .int .i64 z.nu, .string z.ve.1, .int .i64 z.ve.2.1, .int .i64 z.ve.2.2, .int .i64 z.wd, .int .i64 z.ln, .slice ao n c] 45))
  have HX := Lib.hid (World.alloc_heap_new w (.cells #[.string z.id, .string z.fl, .int .i64 z.nu, .string z.ve.1, .int .i64 z.ve.2.1, .int .i64 z.ve.2.2, .int .i64 z.wd, .int .i64 z.ln, .slice ao n c] 45))
  have HT := Lib.hid (ht.below HA.out)
  have HK := Lib.hid (hk.below HA.out (Nat.le_refl _))
  have HV := Lib.hid (hd.below HA.out)
  have HNZ := Lib.hid hd.1
  clear hv hd ht hk
  cases hB : lfB z with
  | false =>
    have HR := Lib.hid (show ltT z = [] by unfold ltT; rw [hB]; rfl)
    rw [HR.out]
    go_enter Tryd.func30, Tryd.ntmps30
    go_wp2_with fail
    refine (validL_impl _ z _ (HVV.out.below HA.out) HT.out).mono ?_
    rintro e w1 ⟨rfl, g1⟩
    have HG := Lib.hid (bseq HA.out g1)
    clear g1
    rw [hB]
    go_wp2
    go_ret
    exact ⟨rfl, HG.out⟩
  | true =>
    obtain ⟨b1, b2, b3, b4, b5, b6, b7, b8⟩ := lfB_all hB
    have HR := Lib.hid (show ltT z = ltL z z.df.length by unfold ltT; rw [hB]; rfl)
    have HLN := Lib.hid (lt_len hB z.df.length (Nat.le_refl _))
    have HPL := Lib.hid (ltP_len z)
    have HPS := Lib.hid (ltP_succ z)
    have HBX := Lib.hid (fun j (hj : j < z.df.length) => (bxS_of (b8 j hj) b5.2 b6.2))
    have HP0 := Lib.hid (show ltP z 0 = hdP z by simp [ltP])
    have hnn : n ≤ 6 := by have := HNZ.out; omega
    have x1 := itoa_len z.wd (by omega) (by omega)
    have x2 := itoa_len z.ln (by omega) (by omega)
    obtain ⟨wl, hwl⟩ : ∃ l, Lib.itoa z.wd ++ [120] = l := ⟨_, rfl⟩
    obtain ⟨sl, hsl⟩ : ∃ l, wl ++ Lib.itoa z.ln = l := ⟨_, rfl⟩
    have HSL := Lib.hid (show Lib.itoa z.wd ++ 120 :: Lib.itoa z.ln = sl by rw [← hsl, ← hwl]; simp)
    have l1 : wl.length ≤ 30 := by rw [← hwl]; simp; omega
    have s1 := add_one 120 hwl (by omega)
    have s2 := add_to hsl (by rw [← hsl]; simp; omega)
    have HS := Lib.hid (And.intro s1 s2)
    obtain ⟨ve, hve⟩ : ∃ l, vtL z.ve.1 z.ve.2.1 z.ve.2.2 = l := ⟨_, rfl⟩
    have HVE := Lib.hid hve
    have HVT := Lib.hid (fun w1 (h1 : TabAt w1) (h2 : TabOk w1) => by have := vtext_impl z.ve.1 z.ve.2.1 z.ve.2.2 w1 h1 h2; unfold vtT at this; rw [b4, if_pos rfl, hve] at this; exact this)
    obtain ⟨i0, hi, hz0, hz1, hz2⟩ := info_parts Tryd.infoStr
    rw [HR.out]
    clear s1 s2 b1 b2 b4 b7 b8 hwl hsl hve x1 x2 l1
    go_enter Tryd.func30, Tryd.ntmps30
    go_wp2_with fail
    refine (validL_impl _ z _ (HVV.out.below HA.out) HT.out).mono ?_
    rintro e wv ⟨rfl, g1⟩
    have HG := Lib.hid (bseq HA.out g1)
    have HX1 := Lib.hid ((g1.block _ (blk_lt HX.out)).trans HX.out)
    have HT1 := Lib.hid (HT.out.below g1)
    have HK1 := Lib.hid (HK.out.below g1 (Nat.le_refl _))
    have HV1 := Lib.hid (HV.out.below g1)
    clear g1
    rw [hB]
    have hz := blk_lt HX1.out
    have a0 := (cell_of_arr HX1.out (j := 0) rfl).1
    have a1 := (cell_of_arr HX1.out (j := 1) rfl).1
    have a2 := (cell_of_arr HX1.out (j := 2) rfl).1
    have a3 := (cell_of_arr HX1.out (j := 3) rfl).1
    have a4 := (cell_of_arr HX1.out (j := 4) rfl).1
    have a5 := (cell_of_arr HX1.out (j := 5) rfl).1
    have a6 := (cell_of_arr HX1.out (j := 6) rfl).1
    have a7 := (cell_of_arr HX1.out (j := 7) rfl).1
    have a8 := (cell_of_arr HX1.out (j := 8) rfl).1
    obtain ⟨s1, s2⟩ := HS.out
    go_wp2
    refine Seq3.wp_region wv [0, 1, 2, 3, 4, 5, 7, 8, 10, 11, 14, 15] [(6, []), (9, []), (12, [13]), (16, [17]), (18, [19])] (by kernel_rfl) (by kernel_rfl) rfl (Below.refl _ _) (fun w1 hh hb1 => ?_)
    repeat (first | (refine Seq2.fl_row (by decide) ?_) | (refine Seq2.fl_skip (by kernel_rfl) (by kernel_rfl) ?_ ?_; (focus (go_simp; (first | done | (simp [undef]; done)))); (try simp only [Act.put, List.setIfInBounds_toArray, List.set_cons_zero, List.set_cons_succ])) | (refine Seq2.fl_val (by kernel_rfl) (by kernel_rfl) ?_ ?_; (focus (go_simp; done)); apply Exists.intro; refine ⟨fun w2 hw2 => ?_, ?_⟩; (focus (obtain ⟨hc, hf⟩ := bcell hw2; clear hw2; go_simp; (first | done | with_reducible rfl | (with_reducible exact eql2 _ _ _) | (with_reducible exact neq2 _ _ _)))); (try simp only [Act.put, List.setIfInBounds_toArray, List.set_cons_zero, List.set_cons_succ])))
    refine Seq2.fl_nil ?_
    refine Seq3.c3_one (by kernel_rfl) rfl ?_
    gi_wp2_with fail
    refine ⟨trivial, rfl, (callsIn_wide.2 (decimal_tb _ _ (by omega) (by omega) (HK1.out.below hb1 (Nat.le_refl _)))).mono ?_⟩
    rintro e w2 ⟨rfl, g2⟩
    have HB2 := Lib.hid (hb1.trans (g2.mono hb1.size))
    clear g2 hb1 hh
    gi_wp2
    refine ⟨HB2.out, ?_⟩
    refine Seq3.none ?_
    refine Seq3.c3_one (by kernel_rfl) rfl ?_
    gi_wp2_with fail
    refine ⟨trivial, rfl, (callsIn_wide.2 (HVT.out _ (HT1.out.below HB2.out) (HK1.out.below HB2.out (Nat.le_refl _)))).mono ?_⟩
    rintro e w3 ⟨rfl, g3⟩
    have HB3 := Lib.hid (HB2.out.trans (g3.mono HB2.out.size))
    clear g3
    gi_wp2
    refine ⟨HB3.out, ?_⟩
    refine Seq3.none ?_
    refine Seq3.c3_one (by kernel_rfl) rfl ?_
    gi_wp2_with fail
    refine ⟨trivial, rfl, (callsIn_wide.2 (decimal_tb _ _ (by omega) (by omega) (HK1.out.below HB3.out (Nat.le_refl _)))).mono ?_⟩
    rintro e w4 ⟨rfl, g4⟩
    have HB4 := Lib.hid (HB3.out.trans (g4.mono HB3.out.size))
    clear g4
    gi_wp2
    refine ⟨HB4.out, ?_⟩
    refine Seq3.mid 13 ?_
    simp only [List.drop_succ_cons, List.drop_zero]
    repeat (first | (refine Seq2.fl_row (by decide) ?_) | (refine Seq2.fl_skip (by kernel_rfl) (by kernel_rfl) ?_ ?_; (focus (go_simp; (first | done | (simp [undef]; done)))); (try simp only [Act.put, List.setIfInBounds_toArray, List.set_cons_zero, List.set_cons_succ])) | (refine Seq2.fl_val (by kernel_rfl) (by kernel_rfl) ?_ ?_; (focus (go_simp; done)); apply Exists.intro; refine ⟨fun w2 hw2 => ?_, ?_⟩; (focus (obtain ⟨hc, hf⟩ := bcell hw2; clear hw2; go_simp; (first | done | with_reducible rfl | (with_reducible exact eql2 _ _ _) | (with_reducible exact neq2 _ _ _)))); (try simp only [Act.put, List.setIfInBounds_toArray, List.set_cons_zero, List.set_cons_succ])))
    refine Seq2.fl_nil ?_
    refine Seq3.c3_one (by kernel_rfl) rfl ?_
    gi_wp2_with fail
    refine ⟨trivial, rfl, (callsIn_wide.2 (decimal_tb _ _ (by omega) (by omega) (HK1.out.below HB4.out (Nat.le_refl _)))).mono ?_⟩
    rintro e w5 ⟨rfl, g5⟩
    have HB5 := Lib.hid (HB4.out.trans (g5.mono HB4.out.size))
    clear g5
    gi_wp2
    refine ⟨HB5.out, ?_⟩
    refine Seq3.mid 17 ?_
    simp only [List.drop_succ_cons, List.drop_zero]
    repeat (first | (refine Seq2.fl_row (by decide) ?_) | (refine Seq2.fl_skip (by kernel_rfl) (by kernel_rfl) ?_ ?_; (focus (go_simp; (first | done | (simp [undef]; done)))); (try simp only [Act.put, List.setIfInBounds_toArray, List.set_cons_zero, List.set_cons_succ])) | (refine Seq2.fl_val (by kernel_rfl) (by kernel_rfl) ?_ ?_; (focus (go_simp; done)); apply Exists.intro; refine ⟨fun w2 hw2 => ?_, ?_⟩; (focus (obtain ⟨hc, hf⟩ := bcell hw2; clear hw2; go_simp; (first | done | with_reducible rfl | (with_reducible exact eql2 _ _ _) | (with_reducible exact neq2 _ _ _)))); (try simp only [Act.put, List.setIfInBounds_toArray, List.set_cons_zero, List.set_cons_succ])))
    refine Seq2.fl_nil ?_
    refine Seq3.c3_one (by kernel_rfl) rfl ?_
    gi_wp2
    refine ⟨HB5.out.alloc HB5.out.size _, ?_⟩
    refine Seq3.mid 19 ?_
    simp only [List.drop_succ_cons, List.drop_zero]
    repeat (first | (refine Seq2.fl_row (by decide) ?_) | (refine Seq2.fl_skip (by kernel_rfl) (by kernel_rfl) ?_ ?_; (focus (go_simp; (first | done | (simp [undef]; done)))); (try simp only [Act.put, List.setIfInBounds_toArray, List.set_cons_zero, List.set_cons_succ])) | (refine Seq2.fl_val (by kernel_rfl) (by kernel_rfl) ?_ ?_; (focus (go_simp; done)); apply Exists.intro; refine ⟨fun w2 hw2 => ?_, ?_⟩; (focus (obtain ⟨hc, hf⟩ := bcell hw2; clear hw2; go_simp; (first | done | with_reducible rfl | (with_reducible exact eql2 _ _ _) | (with_reducible exact neq2 _ _ _)))); (try simp only [Act.put, List.setIfInBounds_toArray, List.set_cons_zero, List.set_cons_succ])))
    refine Seq2.fl_nil ?_
    refine Seq3.c3_nil (by kernel_rfl) ?_
    have HB6 := Lib.hid (HB5.out.alloc HB5.out.size (.cells #[.string z.id, .string z.fl, .string (tb (Lib.itoa z.nu)), .string (tb ve), .string (tb sl)] 9))
    have HO6 := Lib.hid (show OwnS (w5.alloc (.cells #[.string z.id, .string z.fl, .string (tb (Lib.itoa z.nu)), .string (tb ve), .string (tb sl)] 9)) wv.heap.size (.slice (some ⟨w5.heap.size, 0, none⟩) 5 5) (ltP z 0) by
      rw [HP0.out]
      exact ⟨rfl, Or.inr ⟨w5.heap.size, 5, _, rfl, HB5.out.size, World.alloc_heap_new _ _, by simp [hdP], by unfold maxLen; omega, rfl, by simp [hdP, sV, HVE.out, HSL.out, tb]⟩⟩)
    have A8 := Lib.hid ((HB6.out.cell (p := ⟨w.heap.size, 8, none⟩) hz).trans a8)
    have hz6 : w.heap.size < (w5.alloc (.cells #[.string z.id, .string z.fl, .string (tb (Lib.itoa z.nu)), .string (tb ve), .string (tb sl)] 9)).heap.size := Nat.lt_of_lt_of_le hz HB6.out.size
    clear a0 a1 a2 a3 a4 a5 a6 a7 a8 s1 s2 hz
    generalize w5.alloc _ = W at *
    generalize w5.heap.size = pb at *
    have a8 := A8.out
    go_wp2
    clear a8
    go_loopw [31, 3] (fun iv pv wr => ∃ k : Nat, k ≤ n ∧ iv = .int .i64 k ∧ Hid (OwnS wr wv.heap.size pv (ltP z k)) ∧ Hid (Below wv.heap.size wv wr)) (fun i _ _ => n - (intOf i).toNat)
    case atStart => exact ⟨0, by omega, rfl, HO6, HB6⟩
    case round =>
      obtain ⟨k, hk, rfl, ho, hb⟩ := hrel
      have hle := hb.out.size
      have hkk := HPL.out k (by have := HNZ.out; omega)
      by_cases hlt : k < n
      · obtain ⟨b, rfl, hbx⟩ := (HV1.out.below hb.out).2.resolve_left (by omega)
        have hkz : k < z.df.length := by have := HNZ.out; omega
        obtain ⟨hbw, v0, v1, v2, v3⟩ := hbx k hlt
        have HSK := Lib.hid (HPS.out k hkz)
        have HSZ := Lib.hid (HBX.out k hkz)
        obtain ⟨d, hdd⟩ : ∃ d, z.df.getD k bx0 = d := ⟨_, rfl⟩
        rw [hdd] at v0 v1 v2 v3 HSK HSZ
        clear hbx hdd
        obtain ⟨x, y, a, b'⟩ := d
        simp only at v0 v1 v2 v3
        have HA1 := Lib.hid (hb.out.alloc hle (.cells #[.int .i64 x, .int .i64 y, .int .i64 a, .int .i64 b'] 49))
        have HO1 := Lib.hid (World.ownsRow.alloc (show wr.ownsRow wv.heap.size 9 1 _ _ _ from ho.out) (.cells #[.int .i64 x, .int .i64 y, .int .i64 a, .int .i64 b'] 49))
        go_wp2_with fail
        refine (numbers_impl x y a b' _).mono ?_
        rintro e w2 ⟨rfl, hi4, g2⟩
        have HB2 := Lib.hid (HA1.out.trans (g2.mono HA1.out.size))
        have HO2 := Lib.hid (ownB_below HO1.out g2 (Nat.le_refl _))
        have HI4 := Lib.hid (show IntsAt w2 (wr.heap.size + 1 + 1) (bxN (x, y, a, b')) by simpa using hi4)
        clear g2 hi4
        go_wp2_with fail
        refine (list4_impl _ (x, y, a, b') _ HSZ.out HI4.out (HK1.out.below HB2.out (Nat.le_refl _))).mono ?_
        rintro e w3 ⟨rfl, g3⟩
        have HB3 := Lib.hid (HB2.out.trans (g3.mono HB2.out.size))
        have hown := ownB_below HO2.out g3 (Nat.le_refl _)
        have hle3 := HB3.out.size
        clear g3
        go_wp2_with (at_builtin; refine wpList_app1 rfl _ _ 94 rfl wv.heap.size 9 i0 (.string ⟨#[]⟩) 16 Tryd.underlying94 hi hz0 hz1 hz2 rfl _ _ _ rfl hown _ rfl (by first | rfl | simp) rfl (by omega) (by omega) hle3 ?_)
        intro v' w4 hown' hgrow
        have HO' := Lib.hid (show OwnS w4 wv.heap.size v' (ltP z (k + 1)) by
          unfold OwnS
          rw [HSK.out]
          simpa [sV, tb, hkk] using hown')
        have HB' := Lib.hid (below_app HB3.out (Nat.le_refl _) hle3 hown hgrow)
        clear hown' hgrow hown
        go_wp2
        go_roundw
        case rel => exact ⟨k + 1, by omega, by go_num, HO', HB'⟩
        case measure => simp [intOf]; omega
      · obtain rfl : k = n := by omega
        have HE := Lib.hid HNZ.out
        go_wp2_with fail
        refine (join_own _ _ (ltP z k) _ _ ho.out (by omega) (by have h1 := HLN.out; have h2 := HE.out; rw [HE.out]; show (ltL z z.df.length).length ≤ _; omega) (by omega)).mono ?_
        rintro e w2 ⟨rfl, g2⟩
        have HB2 := Lib.hid (bseq HG.out (hb.out.trans (g2.mono hb.out.size)))
        clear g2
        go_wp2
        go_ret
        exact ⟨by rw [HE.out]; rfl, HB2.out⟩
set_option maxRecDepth 100000 in
set_option maxHeartbeats 4000000 in
theorem ltext_spec (v : Value) (z : Lf) (w : World) (hv : LfV w v z) : Calls Tryd.prog 29 #[v] w fun e w' => e = .returned (.string (tb (ltT z))) ∧ Below w.heap.size w w' := by
  have HZ := Lib.hid (hv.at 45)
  have HVV := Lib.hid hv
  obtain ⟨ao, n, c, rfl, _, _, _, _, _, _, _, hn, hd⟩ := hv.out
  have HA := Lib.hid (one_alloc (w := w) (.cells #[.string z.id, .string z.fl, .int .i64 z.nu, .string z.ve.1, .int .i64 z.ve.2.1, .int .i64 z.ve.2.2, .int .i64 z.wd, .int .i64 z.ln, .slice ao n c] 45))
  clear hv hd
  cases hB : lfB z with
  | false =>
    have HR := Lib.hid (show ltT z = [] by unfold ltT; rw [hB]; rfl)
    rw [HR.out]
    go_enter Tryd.func29, Tryd.ntmps29
    go_wp2_with fail
    refine (one_lea _ _ z _ HZ.out).mono ?_
    rintro e w1 ⟨rfl, g1⟩
    have HG := Lib.hid (bseq HA.out g1)
    clear g1
    rw [hB]
    go_wp2
    go_ret
    exact ⟨rfl, HG.out⟩
  | true =>
    have HBB := Lib.hid hB
    have HR := Lib.hid (show ltT z = ltL z z.df.length by unfold ltT; rw [hB]; rfl)
    rw [HR.out]
    go_enter Tryd.func29, Tryd.ntmps29
    go_wp2_with fail
    refine (one_lea _ _ z _ HZ.out).mono ?_
    rintro e w1 ⟨rfl, g1⟩
    have HG := Lib.hid (bseq HA.out g1)
    have HZ1 := Lib.hid (HZ.out.below g1)
    have HV1 := Lib.hid (HVV.out.below (bseq HA.out g1))
    clear g1
    rw [hB]
    go_wp2_with fail
    refine (ltext_at _ z _ _ HV1.out HZ1.out HBB.out).mono ?_
    rintro e w2 ⟨rfl, g2⟩
    have HG2 := Lib.hid (bseq HG.out g2)
    clear g2
    go_wp2
    go_ret
    exact ⟨rfl, HG2.out⟩
end Go.Proofs.YthocpiklbcahgaaDoor
