/- Polygons that are turned, of spec and of impl. -/
import Derived.Test.YtjhmpmaademdcaaRev
import Derived.Test.YtjhmpmaademdcaaPolyG5
import Derived.Test.YtjhmpmaademdcaaPolyF5
import Derived.Test.YtjhmpmaademdcaaTurn
namespace Go.Proofs.Ytjhmpmaademdcaa
open Go.ChangeShapes Go.WideShapes Go.ChangeAt Go.RowKit
set_option linter.unusedVariables false
set_option linter.unusedSimpArgs false

def turnP (t : Int) (p : P2) : P2 := (tuX t p.1 p.2, tuY t p.1 p.2)
/-- The number of the point that comes to place i. -/
def turnJ (t : Int) (n i : Nat) : Nat := if 4 ≤ t then (n - i) % n else i
def turnL (zs : List P2) (t : Int) : List P2 := (List.range zs.length).map fun i => turnP t (zs.getD (turnJ t zs.length i) (0, 0))
def normL (zs : List P2) : List P2 := shiftL zs (-(minF (pX zs) zs.length)) (-(minF (pY zs) zs.length))
theorem turnL_len (zs : List P2) (t : Int) : (turnL zs t).length = zs.length := by simp [turnL]
theorem normL_len (zs : List P2) : (normL zs).length = zs.length := by simp [normL, shiftL_len]
theorem turnJ_lt {t : Int} {n i : Nat} (h : i < n) : turnJ t n i < n := by
  unfold turnJ
  split
  · exact Nat.mod_lt _ (by omega)
  · exact h
theorem turnL_small {zs : List P2} {t : Int} (h : Small 20000 zs) : Small 20000 (turnL zs t) := fun k hk => by
  rw [turnL_len] at hk
  have := h _ (turnJ_lt (t := t) hk)
  have h2 := tu_bd t _ _ ⟨this.1, this.2.1⟩ ⟨this.2.2.1, this.2.2.2⟩
  simp only [turnL, List.getD_eq_getElem?_getD, List.getElem?_map, List.getElem?_range hk, Option.map_some, Option.getD_some]
  unfold turnP
  simp only [List.getD_eq_getElem?_getD] at h2
  exact ⟨h2.1.1, h2.1.2, h2.2.1, h2.2.2⟩
theorem minF_bd {f : Nat → Int} {M : Int} : ∀ n, 1 ≤ n → (∀ k, k < n → -M ≤ f k ∧ f k ≤ M) → -M ≤ minF f n ∧ minF f n ≤ M := by
  intro n
  induction n with
  | zero => intro h; omega
  | succ n ih =>
    intro _ h
    show -M ≤ min (minF f n) (f n) ∧ min (minF f n) (f n) ≤ M
    have h1 := h n (by omega)
    by_cases hn : n = 0
    · subst hn
      show -M ≤ min (f 0) (f 0) ∧ min (f 0) (f 0) ≤ M
      omega
    · have := ih (by omega) (fun k hk => h k (by omega))
      omega
theorem minX_bd {zs : List P2} {M : Int} (h1 : 1 ≤ zs.length) (h : Small M zs) : -M ≤ minF (pX zs) zs.length ∧ minF (pX zs) zs.length ≤ M := minF_bd _ h1 (fun k hk => ⟨(h k hk).1, (h k hk).2.1⟩)
theorem minY_bd {zs : List P2} {M : Int} (h1 : 1 ≤ zs.length) (h : Small M zs) : -M ≤ minF (pY zs) zs.length ∧ minF (pY zs) zs.length ≤ M := minF_bd _ h1 (fun k hk => ⟨(h k hk).2.2.1, (h k hk).2.2.2⟩)
theorem flat_snoc (g : Nat → P2) (k : Nat) : flatP ((List.range k).map g) ++ [.int .i64 (g k).1, .int .i64 (g k).2] = flatP ((List.range (k + 1)).map g) := by
  rw [List.range_succ, List.map_append, flatP_app]; rfl
theorem small_mono {M N : Int} {zs : List P2} (h : Small M zs) (hm : M ≤ N) : Small N zs := fun k hk => by have := h k hk; omega
set_option maxRecDepth 100000 in
set_option maxHeartbeats 4000000 in
theorem turnedl_lo (ao : Option Addr) (n c : Nat) (zs : List P2) (t : Int) (w : World) (h1 : 1 ≤ n) (hn : n ≤ 1000) (hp : PV w ao n zs) (hs : Small 20000 zs) (t0 : 0 ≤ t) (t1 : t ≤ 7) (t4 : ¬ 4 ≤ t) :
    Calls Try.prog 161 #[.slice ao n c, .int .i64 t] w (NewPost (normL (turnL zs t)) w) := by
  have hz := hp.1
  obtain ⟨i0, hi, hz0, hz1, hz2⟩ := info_parts info_pt
  have HO := Lib.hid (own_new w)
  have HB := Lib.hid (one_alloc (w := w) (.cells #[] 30))
  have HTS := Lib.hid (turnL_small (t := t) hs)
  have HP := Lib.hid hp
  have HS := Lib.hid hs
  have HZ := Lib.hid hz
  clear hp hs hz
  go_enter Try.func161, Try.ntmps161
  go_wp2
  go_loopw [5, 6, 7] (fun sv iv jv wr => ∃ (k : Nat), k ≤ n ∧ iv = .int .i64 k ∧ Hid (wr.ownsRow w.heap.size 30 2 sv k (flatP ((List.range k).map (fun i => turnP t (zs.getD (turnJ t zs.length i) (0, 0)))))) ∧ Hid (Below w.heap.size w wr)) (fun _ i _ _ => n - (intOf i).toNat)
  case atStart => exact ⟨0, by omega, rfl, HO, HB⟩
  case round =>
    obtain ⟨k, hk, rfl, ho, hb⟩ := hrel
    by_cases hlt : k < n
    · have hkz : k < zs.length := by have := HZ.out; omega
      obtain ⟨b, rfl, hpp⟩ := HP.out.at (by omega)
      have hbw := hpp.1
      have hwr := hb.out.size
      have hbr : b < wr.heap.size := by omega
      have hjz := turnJ_lt (t := t) hkz
      have hsn := flat_snoc (fun i => turnP t (zs.getD (turnJ t zs.length i) (0, 0))) k
      have hpr := hpp.below hb.out hbw
      obtain ⟨x, y, e, a0, a1⟩ := hpr.pt hjz
      have hsm := HS.out _ hjz
      have hg : turnP t (zs.getD (turnJ t zs.length k) (0, 0)) = (tuX t x y, tuY t x y) := by rw [e]; rfl
      simp only [hg] at hsn
      rw [e] at hsm
      simp only at hsm
      have HSN := Lib.hid hsn
      clear hsn hg
      have hj : turnJ t zs.length k = k := by unfold turnJ; rw [if_neg (by omega)]
      rw [hj] at a0 a1 e
      clear hpp hpr
      have E := Lib.hid e
      clear e
      go_wp2_with fail
      refine (l02Turned x y t _ ⟨hsm.1, hsm.2.1⟩ ⟨hsm.2.2.1, hsm.2.2.2⟩ t0 t1).mono ?_
      rintro e w1 ⟨rfl, g1⟩
      have HO1 := Lib.hid (own_below ho.out g1)
      have HW1 := Lib.hid (bseq hb.out g1)
      clear g1
      go_wp2_with (at_builtin; (refine wpList_appN rfl _ _ 28 rfl w.heap.size 30 i0 _ 2 16 Try.underlying28 hi hz0 hz1 hz2 rfl (by omega) _ _ _ rfl HO1.out _ rfl rfl rfl rfl (by omega) (by omega) HW1.out.size ?_))
      intro v2 w2 ho2 hg2
      have HO2 := Lib.hid ho2
      have HW2 := Lib.hid ((HW1.out.alloc HW1.out.size _).trans (own_grown (HO1.out.alloc _) hg2 (Nat.le_refl _) (HW1.out.alloc HW1.out.size _).size))
      clear ho2 hg2
      go_wp2
      go_roundw
      case rel => exact ⟨k + 1, by omega, by go_num, Lib.hid (by rw [← HSN.out]; exact HO2.out), Lib.hid HW2.out⟩
      case measure => simp [intOf]; omega
    · obtain rfl : k = n := by omega
      have HL := Lib.hid (turnL_len zs t)
      have ho' : wr.ownsRow w.heap.size 30 2 u5 (turnL zs t).length (flatP (turnL zs t)) := by
        have := ho.out
        rw [turnL_len, ← HZ.out]
        unfold turnL
        rw [← HZ.out] at this ⊢
        exact this
      obtain ⟨g, cap, rfl, hg0, hgc, _, hpt⟩ := own_at (by rw [turnL_len]; have := HZ.out; omega) ho'
      have HPT := Lib.hid hpt
      have hmx := minX_bd (by rw [turnL_len]; have := HZ.out; omega) HTS.out
      have hmy := minY_bd (by rw [turnL_len]; have := HZ.out; omega) HTS.out
      clear ho' hpt
      go_wp2_with fail
      refine (bounds_spec g _ cap (turnL zs t) _ rfl (by rw [turnL_len]; have := HZ.out; omega) (by rw [turnL_len]; have := HZ.out; omega) HPT.out).mono ?_
      rintro e w1 ⟨rfl, g1⟩
      have HPT1 := Lib.hid (HPT.out.below g1 HPT.out.1)
      have HW1 := Lib.hid (bseq hb.out g1)
      clear g1
      have HN := Lib.hid (show normL (turnL zs t) = shiftL (turnL zs t) (-(minF (pX (turnL zs t)) (turnL zs t).length)) (-(minF (pY (turnL zs t)) (turnL zs t).length)) from rfl)
      generalize minF (pX (turnL zs t)) (turnL zs t).length = mx at *
      generalize minF (pY (turnL zs t)) (turnL zs t).length = my at *
      have r1 : IntKind.i64.wrap (-mx) = -mx := IntWalk.i64_in _ (by omega)
      have r2 : IntKind.i64.wrap (-my) = -my := IntWalk.i64_in _ (by omega)
      go_wp2_with fail
      have hba := two_allocs (w := w1) (.cells #[.int .i64 mx, .int .i64 my] 30) (.cells #[.int .i64 (maxF (pX (turnL zs t)) (turnL zs t).length), .int .i64 (maxF (pY (turnL zs t)) (turnL zs t).length)] 30)
      refine (shifted_spec (some ⟨g, 0, none⟩) _ cap (turnL zs t) (-mx) (-my) _ (by have := HL.out; have := HZ.out; omega) (pts_PV rfl (HPT1.out.below hba HPT1.out.1)) (small_mono HTS.out (by omega)) (by omega) (by omega)).mono ?_
      rintro e w2 ⟨v, rfl, hv⟩
      have HB2 := Lib.hid (bseq HW1.out (bseq hba hv.2))
      have HO2 := Lib.hid (hv.1.base_le (bseq HW1.out hba).size)
      clear hba hv
      go_wp2
      go_ret
      exact ⟨_, rfl, by rw [HN.out]; exact HO2.out, HB2.out⟩
set_option maxRecDepth 100000 in
set_option maxHeartbeats 4000000 in
theorem turnedl_hi (ao : Option Addr) (n c : Nat) (zs : List P2) (t : Int) (w : World) (h1 : 1 ≤ n) (hn : n ≤ 1000) (hp : PV w ao n zs) (hs : Small 20000 zs) (t0 : 0 ≤ t) (t1 : t ≤ 7) (t4 : 4 ≤ t) :
    Calls Try.prog 161 #[.slice ao n c, .int .i64 t] w (NewPost (normL (turnL zs t)) w) := by
  have hz := hp.1
  obtain ⟨i0, hi, hz0, hz1, hz2⟩ := info_parts info_pt
  have HO := Lib.hid (own_new w)
  have HB := Lib.hid (one_alloc (w := w) (.cells #[] 30))
  have HTS := Lib.hid (turnL_small (t := t) hs)
  have HP := Lib.hid hp
  have HS := Lib.hid hs
  have HZ := Lib.hid hz
  clear hp hs hz
  go_enter Try.func161, Try.ntmps161
  go_wp2
  go_loopw [5, 6, 7] (fun sv iv jv wr => ∃ (k : Nat), k ≤ n ∧ iv = .int .i64 k ∧ Hid (wr.ownsRow w.heap.size 30 2 sv k (flatP ((List.range k).map (fun i => turnP t (zs.getD (turnJ t zs.length i) (0, 0)))))) ∧ Hid (Below w.heap.size w wr)) (fun _ i _ _ => n - (intOf i).toNat)
  case atStart => exact ⟨0, by omega, rfl, HO, HB⟩
  case round =>
    obtain ⟨k, hk, rfl, ho, hb⟩ := hrel
    by_cases hlt : k < n
    · have hkz : k < zs.length := by have := HZ.out; omega
      obtain ⟨b, rfl, hpp⟩ := HP.out.at (by omega)
      have hbw := hpp.1
      have hwr := hb.out.size
      have hbr : b < wr.heap.size := by omega
      have hjz := turnJ_lt (t := t) hkz
      have hsn := flat_snoc (fun i => turnP t (zs.getD (turnJ t zs.length i) (0, 0))) k
      have hpr := hpp.below hb.out hbw
      obtain ⟨x, y, e, a0, a1⟩ := hpr.pt hjz
      have hsm := HS.out _ hjz
      have hg : turnP t (zs.getD (turnJ t zs.length k) (0, 0)) = (tuX t x y, tuY t x y) := by rw [e]; rfl
      simp only [hg] at hsn
      rw [e] at hsm
      simp only at hsm
      have HSN := Lib.hid hsn
      clear hsn hg
      have hj : turnJ t zs.length k = (n - k) % n := by unfold turnJ; rw [if_pos t4, HZ.out]
      rw [hj] at a0 a1 e
      have qd : IntKind.i64.wrap ((n : Int) - k) = (n : Int) - k := IntWalk.i64_in _ (by omega)
      have qm : ((n : Int) - k) % n = (((n - k) % n : Nat) : Int) := by rw [Int.natCast_emod, Int.ofNat_sub (by omega)]
      rw [hj] at hjz
      rw [← HZ.out] at hjz
      generalize (n - k) % n = j at *
      clear hpp hpr
      have E := Lib.hid e
      clear e
      go_wp2_with fail
      refine (l02Turned x y t _ ⟨hsm.1, hsm.2.1⟩ ⟨hsm.2.2.1, hsm.2.2.2⟩ t0 t1).mono ?_
      rintro e w1 ⟨rfl, g1⟩
      have HO1 := Lib.hid (own_below ho.out g1)
      have HW1 := Lib.hid (bseq hb.out g1)
      clear g1
      go_wp2_with (at_builtin; (refine wpList_appN rfl _ _ 28 rfl w.heap.size 30 i0 _ 2 16 Try.underlying28 hi hz0 hz1 hz2 rfl (by omega) _ _ _ rfl HO1.out _ rfl rfl rfl rfl (by omega) (by omega) HW1.out.size ?_))
      intro v2 w2 ho2 hg2
      have HO2 := Lib.hid ho2
      have HW2 := Lib.hid ((HW1.out.alloc HW1.out.size _).trans (own_grown (HO1.out.alloc _) hg2 (Nat.le_refl _) (HW1.out.alloc HW1.out.size _).size))
      clear ho2 hg2
      go_wp2
      go_roundw
      case rel => exact ⟨k + 1, by omega, by go_num, Lib.hid (by rw [← HSN.out]; exact HO2.out), Lib.hid HW2.out⟩
      case measure => simp [intOf]; omega
    · obtain rfl : k = n := by omega
      have HL := Lib.hid (turnL_len zs t)
      have ho' : wr.ownsRow w.heap.size 30 2 u5 (turnL zs t).length (flatP (turnL zs t)) := by
        have := ho.out
        rw [turnL_len, ← HZ.out]
        unfold turnL
        rw [← HZ.out] at this ⊢
        exact this
      obtain ⟨g, cap, rfl, hg0, hgc, _, hpt⟩ := own_at (by rw [turnL_len]; have := HZ.out; omega) ho'
      have HPT := Lib.hid hpt
      have hmx := minX_bd (by rw [turnL_len]; have := HZ.out; omega) HTS.out
      have hmy := minY_bd (by rw [turnL_len]; have := HZ.out; omega) HTS.out
      clear ho' hpt
      go_wp2_with fail
      refine (bounds_spec g _ cap (turnL zs t) _ rfl (by rw [turnL_len]; have := HZ.out; omega) (by rw [turnL_len]; have := HZ.out; omega) HPT.out).mono ?_
      rintro e w1 ⟨rfl, g1⟩
      have HPT1 := Lib.hid (HPT.out.below g1 HPT.out.1)
      have HW1 := Lib.hid (bseq hb.out g1)
      clear g1
      have HN := Lib.hid (show normL (turnL zs t) = shiftL (turnL zs t) (-(minF (pX (turnL zs t)) (turnL zs t).length)) (-(minF (pY (turnL zs t)) (turnL zs t).length)) from rfl)
      generalize minF (pX (turnL zs t)) (turnL zs t).length = mx at *
      generalize minF (pY (turnL zs t)) (turnL zs t).length = my at *
      have r1 : IntKind.i64.wrap (-mx) = -mx := IntWalk.i64_in _ (by omega)
      have r2 : IntKind.i64.wrap (-my) = -my := IntWalk.i64_in _ (by omega)
      go_wp2_with fail
      have hba := two_allocs (w := w1) (.cells #[.int .i64 mx, .int .i64 my] 30) (.cells #[.int .i64 (maxF (pX (turnL zs t)) (turnL zs t).length), .int .i64 (maxF (pY (turnL zs t)) (turnL zs t).length)] 30)
      refine (shifted_spec (some ⟨g, 0, none⟩) _ cap (turnL zs t) (-mx) (-my) _ (by have := HL.out; have := HZ.out; omega) (pts_PV rfl (HPT1.out.below hba HPT1.out.1)) (small_mono HTS.out (by omega)) (by omega) (by omega)).mono ?_
      rintro e w2 ⟨v, rfl, hv⟩
      have HB2 := Lib.hid (bseq HW1.out (bseq hba hv.2))
      have HO2 := Lib.hid (hv.1.base_le (bseq HW1.out hba).size)
      clear hba hv
      go_wp2
      go_ret
      exact ⟨_, rfl, by rw [HN.out]; exact HO2.out, HB2.out⟩
end Go.Proofs.Ytjhmpmaademdcaa
