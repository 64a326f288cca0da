/- Points that no face uses: what they are; spec. -/
import Derived.Test.YtfhlafnjccoocaaGreatDrw13
import Derived.Test.YtfhlafnjccoocaaGreatK8
namespace Go.Proofs.YtfhlafnjccoocaaGreat
open Seq2 Go.ChangeShapes Go.WideShapes Go.ChangeAt Go.RowKit
set_option linter.unusedVariables false
set_option linter.unusedSimpArgs false

def neI (r : List Int) (x : Int) (k : Nat) : Bool := !decide (r.getD k 0 = x)
/-- Is the number in the list? -/
def hasI (r : List Int) (x : Int) : Bool := !allTo (neI r x) r.length
theorem hasI_iff (r : List Int) (x : Int) : hasI r x = true ↔ ∃ k, k < r.length ∧ r.getD k 0 = x := by
  unfold hasI
  rw [Bool.not_eq_true', ← Bool.not_eq_true, allTo_iff]
  constructor
  · intro h
    refine Classical.byContradiction fun hn => h fun j hj => ?_
    unfold neI
    rw [Bool.not_eq_true', decide_eq_false_iff_not]
    exact fun e => hn ⟨j, hj, e⟩
  · rintro ⟨k, hk, e⟩ h
    have := h k hk
    unfold neI at this
    rw [Bool.not_eq_true', decide_eq_false_iff_not] at this
    exact this e
/-- Do the first faces use the point? -/
def usF (fs : List Fc) (i : Nat) : Nat → Bool
  | 0 => false
  | k + 1 => usF fs i k || hasI (fs.getD k fc0).2 (i : Int)
def freeB (D : Drw) (i : Nat) : Bool := !usF D.fs i D.fs.length
def filU (f : Nat → Bool) (k : Nat) : List Int := ((List.range k).filter f).map fun i : Nat => (i : Int)
theorem filU_le (f : Nat → Bool) (k : Nat) : (filU f k).length ≤ k := by
  unfold filU
  rw [List.length_map]
  exact Nat.le_trans (List.length_filter_le _ _) (by simp)
theorem filU_yes {f : Nat → Bool} {k : Nat} (h : f k = true) : filU f (k + 1) = filU f k ++ [(k : Int)] := by
  unfold filU
  rw [List.range_succ, List.filter_append, List.map_append]
  simp [h]
theorem filU_no {f : Nat → Bool} {k : Nat} (h : f k = false) : filU f (k + 1) = filU f k := by
  unfold filU
  rw [List.range_succ, List.filter_append, List.map_append]
  simp [h]
theorem flatU_snoc (zs : List Int) (x : Int) : flatI (zs ++ [x]) = flatI zs ++ [.int .i64 x] := by simp [flatI]
def unuR (D : Drw) : List Int × Int := if drB D then (filU (freeB D) D.ps.length, 0) else ([], 1)
theorem unuR_len (D : Drw) : (unuR D).1.length ≤ 1000 := by
  unfold unuR
  split
  · rename_i h
    have := filU_le (freeB D) D.ps.length
    have := (dr_few h).2
    show (filU (freeB D) D.ps.length).length ≤ 1000
    omega
  · simp
set_option maxRecDepth 100000 in
set_option maxHeartbeats 1000000 in
theorem has_spec (a : Option Addr) (n c : Nat) (r : List Int) (x : Int) (w : World) (hn : n ≤ 1048576) (hi : IV w a n r) : Calls Tryz.prog 16 #[.slice a n c, .int .i64 x] w fun e w' => e = .returned (.bool (hasI r x)) ∧ w = w' := by
  have hz := hi.1
  have HI := Lib.hid hi
  have HZ := Lib.hid hz
  clear hi hz
  go_enter Tryz.func16, Tryz.ntmps16
  go_wp2
  go_loop [5] (fun iv => ∃ k : Nat, k ≤ n ∧ iv = .int .i64 k ∧ Hid (allTo (neI r x) k = true)) (fun i => n - (intOf i).toNat)
  case atStart => exact ⟨0, by omega, rfl, Lib.hid rfl⟩
  case round =>
    obtain ⟨k, hk, rfl, he⟩ := hrel
    by_cases hlt : k < n
    · obtain ⟨b, rfl, hbw, hcs⟩ := HI.out.2.resolve_left (by omega)
      have c0 := hcs k hlt
      clear hcs
      by_cases hx : r.getD k 0 = x
      · have HR := Lib.hid (show hasI r x = true from (hasI_iff _ _).2 ⟨k, by have := HZ.out; omega, hx⟩)
        rw [hx] at c0
        clear hx
        go_wp2
        go_ret
        exact ⟨ret_bool' HR.out.symm, rfl⟩
      · have HN := Lib.hid (allTo_succ he.out (show neI r x k = true by unfold neI; rw [Bool.not_eq_true', decide_eq_false_iff_not]; exact hx))
        have hd : decide (r.getD k 0 = x) = false := by simpa using hx
        have hd2 : (r.getD k 0 == x) = false := by simpa using hx
        clear hx
        generalize r.getD k 0 = y at *
        go_wp2
        go_round
        case rel => exact ⟨k + 1, by omega, by go_num, HN⟩
        case measure => simp [intOf]; omega
    · obtain rfl : k = n := by omega
      have HR := Lib.hid (show hasI r x = false by unfold hasI; rw [← HZ.out, he.out]; rfl)
      go_wp2
      go_ret
      exact ⟨ret_bool' HR.out.symm, rfl⟩
set_option maxRecDepth 100000 in
set_option maxHeartbeats 8000000 in
theorem unu_spec (v : Value) (D : Drw) (w : World) (hd : DV w v D) : Calls Tryz.prog 5 #[v] w (NewCI (unuR D).1 (unuR D).2 w) := by
  obtain ⟨c, rfl, hp⟩ := hd.box
  have HP := Lib.hid hp
  have HA := Lib.hid (one_alloc (w := w) (.cells c 33))
  clear hd hp
  cases hv : drB D with
  | false =>
    simp only [unuR, hv]
    go_enter Tryz.func5, Tryz.ntmps5
    go_wp2_with fail
    refine (drOk_spec _ D _ HP.out).mono ?_
    rintro e w1 ⟨rfl, g1⟩
    have HG := Lib.hid (bseq HA.out g1)
    clear g1
    rw [hv]
    go_wp2
    exact bodyPost_ret (v := .tuple #[.slice none 0 0, .int .i64 1]) (by simp [results, Tryz.results5, go_sem]) rfl (newCI_nil HG.out)
  | true =>
    simp only [unuR, hv]
    obtain ⟨i0, hi, hz0, hz1, hz2⟩ := info_int
    have hfew := dr_few hv
    go_enter Tryz.func5, Tryz.ntmps5
    go_wp2_with fail
    refine (drOk_spec _ D _ HP.out).mono ?_
    rintro e w1 ⟨rfl, g1⟩
    have HG := Lib.hid (bseq HA.out g1)
    have HP1 := Lib.hid (HP.out.below g1)
    clear g1
    rw [hv]
    obtain ⟨ao, np, cp, bo, m, d, hq, _, _, hs, hpv, hf⟩ := HP1.out.out
    have HQ := Lib.hid hq
    have HF := Lib.hid hf
    have HS := Lib.hid (show fsSz D.fs ≤ 1048576 by unfold dSz at hs; omega)
    have HM := Lib.hid hf.1
    have HNP := Lib.hid hpv.1
    have hm24 : m ≤ 24 := by have := hf.1; omega
    have hn48 : np ≤ 48 := by have := hpv.1; omega
    have HO := Lib.hid (show (w1.alloc (.cells #[] 2)).ownsRow w1.heap.size 2 1 _ (filU (freeB D) 0).length (flatI (filU (freeB D) 0)) from own_newI w1)
    have HBS := Lib.hid (one_alloc (w := w1) (.cells #[] 2))
    have hqw := hq.lt
    clear hq hf hs hpv hfew
    go_wp2
    go_loopw [4, 5, 6, 7] (fun sv iv u1 u2 wr => ∃ (k : Nat), k ≤ np ∧ iv = .int .i64 k ∧ Hid (wr.ownsRow w1.heap.size 2 1 sv (filU (freeB D) k).length (flatI (filU (freeB D) k))) ∧ Hid (Below w1.heap.size w1 wr)) (fun _ i _ _ _ => np - (intOf i).toNat)
    case atStart => exact ⟨0, by omega, rfl, HO, HBS⟩
    case round =>
      obtain ⟨k, hk, rfl, ho, hb⟩ := hrel
      have hob := HQ.out.keep (hb.out.block _ hqw)
      have hqr := hob.lt
      obtain ⟨_, _, _, _, c2, _, c3, _⟩ := hob.cells
      have hle := hb.out.size
      clear hob
      by_cases hlt : k < np
      · go_wp2
        clear c2 c3
        go_loopw [7, 6] (fun fv uv wi => ∃ j : Nat, j ≤ m ∧ fv = .int .i64 j ∧ uv = .bool (usF D.fs k j) ∧ Hid (Below wr.heap.size wr wi)) (fun i _ _ => m - (intOf i).toNat)
        case atStart => exact ⟨0, by omega, rfl, rfl, Lib.hid (Below.refl _ _)⟩
        case round =>
          obtain ⟨j, hj, rfl, rfl, hbi⟩ := hrel
          have HBW := Lib.hid (hb.out.trans (hbi.out.mono hle))
          have hob := HQ.out.keep (HBW.out.block _ hqw)
          have hqi := hob.lt
          obtain ⟨_, _, _, _, c2, _, c3, _⟩ := hob.cells
          clear hob
          by_cases hlj : j < m
          · have hln := fcs_le HS.out (j := j) (by have := HM.out; omega)
            obtain ⟨fb, s, r, a1, n1, c1', rfl, hfb, e1, _, x0, x1, en1, hi1⟩ := (HF.out.below HBW.out).at hlj
            have hn1 : n1 ≤ 1048576 := by omega
            have HI := Lib.hid hi1
            have HS2 := Lib.hid (show usF D.fs k (j + 1) = (usF D.fs k j || hasI r (k : Int)) by show (_ || hasI (D.fs.getD j fc0).2 (k : Int)) = _; rw [e1])
            clear e1 en1 hln hi1
            generalize usF D.fs k j = b0 at *
            cases b0 with
            | true =>
              rw [Bool.true_or] at HS2
              go_wp2
              go_roundw
              case rel => exact ⟨j + 1, by omega, by go_num, by rw [HS2.out], hbi⟩
              case measure => simp [intOf]; omega
            | false =>
              rw [Bool.false_or] at HS2
              go_wp2_with fail
              refine (has_spec a1 n1 c1' r (k : Int) _ hn1 HI.out).mono ?_
              rintro e5 w5 ⟨rfl, rfl⟩
              go_wp2
              go_roundw
              case rel => exact ⟨j + 1, by omega, by go_num, by rw [HS2.out], hbi⟩
              case measure => simp [intOf]; omega
          · obtain rfl : j = m := by omega
            have HU := Lib.hid (show freeB D k = !usF D.fs k j by unfold freeB; rw [← HM.out])
            have HO3 := Lib.hid (own_below ho.out hbi.out)
            have HW3 := HBW
            cases hu : usF D.fs k j with
            | true =>
              have HN := Lib.hid (filU_no (HU.out.trans (by rw [hu]; rfl)))
              go_wp2
              go_roundw
              case rel => exact ⟨k + 1, by omega, by go_num, by rw [HN.out]; exact HO3, HW3⟩
              case measure => simp [intOf]; omega
            | false =>
              have HY := Lib.hid (filU_yes (HU.out.trans (by rw [hu]; rfl)))
              have HLE := Lib.hid (filU_le (freeB D) k)
              go_wp2_with (at_builtin; (refine wpList_appN rfl _ _ 27 rfl w1.heap.size 2 i0 _ 1 8 Tryz.underlying27 hi hz0 hz1 hz2 rfl (by omega) _ _ _ rfl HO3.out _ rfl rfl rfl rfl (by have := HLE.out; omega) (by have := HLE.out; omega) HW3.out.size ?_))
              intro v4 w4 ho4 hg4
              have HO4 := Lib.hid ho4
              have HW4 := Lib.hid ((HW3.out.alloc HW3.out.size _).trans (own_grown (HO3.out.alloc _) hg4 (Nat.le_refl _) (HW3.out.alloc HW3.out.size _).size))
              clear ho4 hg4
              go_wp2
              go_roundw
              case rel => exact ⟨k + 1, by omega, by go_num, Lib.hid (by rw [HY.out, List.length_append, flatU_snoc]; exact HO4.out), HW4⟩
              case measure => simp [intOf]; omega
      · obtain rfl : k = np := by omega
        have hO := ho.out
        rw [HNP.out] at hO
        have HO9 := Lib.hid hO
        clear hO
        go_wp2
        exact bodyPost_ret (v := .tuple #[_, .int .i64 0]) (by simp [results, Tryz.results5, go_sem]) rfl ⟨_, rfl, HO9.out.base_le HG.out.size, bseq HG.out hb.out⟩
end Go.Proofs.YtfhlafnjccoocaaGreat
