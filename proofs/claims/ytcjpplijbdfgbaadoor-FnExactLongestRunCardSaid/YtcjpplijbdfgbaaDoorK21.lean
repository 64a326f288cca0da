/- Several texts in one: Mis1, WcMissingNumbers, Mis2, Mis3. -/
import Derived.Test.YtcjpplijbdfgbaaDoorK26
import Derived.Test.YtcjpplijbdfgbaaDoorSql1
import Derived.Test.YtcjpplijbdfgbaaDoorK18
import Derived.Test.YtcjpplijbdfgbaaDoorSeq3
namespace Go.Proofs.YtcjpplijbdfgbaaDoor
open Seq2 Go.ChangeShapes Go.WideShapes Go.ChangeAt Go.RowKit
set_option linter.unusedVariables false
set_option linter.unusedSimpArgs false

/-- m numbers from a on. -/
def rgK (a : Int) (m : Nat) : List Int := (List.range m).map fun (j : Nat) => a + (j : Int)
theorem rgK_succ (a : Int) (m : Nat) : rgK a (m + 1) = rgK a m ++ [a + (m : Int)] := by simp [rgK, List.range_succ]
theorem rgK_len (a : Int) (m : Nat) : (rgK a m).length = m := by simp [rgK]
def gpI (zs : List Lf) (O : List Int) (i : Nat) : Nat := (nuL zs (O.getD (i + 1) 0) - (nuL zs (O.getD i 0) + 1)).toNat
/-- The numbers that lack between the first k + 1. -/
def msL (zs : List Lf) (O : List Int) : Nat → List Int
  | 0 => []
  | k + 1 => msL zs O k ++ rgK (nuL zs (O.getD k 0) + 1) (gpI zs O k)
theorem gpI_le {zs : List Lf} {O : List Int} {n k : Nat} (hn : n = zs.length) (hN : ∀ j, j < zs.length → LfN (zs.getD j lf0)) (hO : ∀ y ∈ O, ∃ j : Nat, j < n ∧ y = (j : Int)) (hk : k + 1 < O.length) : gpI zs O k ≤ 1000 := by
  obtain ⟨i, hi, e1⟩ := take_in hO k (by omega)
  obtain ⟨j, hj, e2⟩ := take_in hO (k + 1) hk
  have h1 := (hN i (by omega)).nu
  have h2 := (hN j (by omega)).nu
  unfold gpI nuL
  rw [e1, e2]
  simp only [Int.toNat_natCast]
  omega
theorem msL_len {zs : List Lf} {O : List Int} {n : Nat} (hn : n = zs.length) (hN : ∀ j, j < zs.length → LfN (zs.getD j lf0)) (hO : ∀ y ∈ O, ∃ j : Nat, j < n ∧ y = (j : Int)) : ∀ k, k < O.length → (msL zs O k).length ≤ 1000 * k
  | 0, _ => by simp [msL]
  | k + 1, hk => by
    have ih := msL_len hn hN hO k (by omega)
    have hg := gpI_le hn hN hO hk
    rw [msL, List.length_append, rgK_len]
    omega
def msO (zs : List Lf) (fl : ByteArray) (n : Nat) : List Int := msL zs (flL zs fl n) ((flL zs fl n).length - 1)
def mnR (zs : List Lf) (fl : ByteArray) : List Int × Int := if lfsB zs then (if (flL zs fl zs.length).length = 0 then ([], 3) else (if 64 < (msO zs fl zs.length).length then ([], 5) else (msO zs fl zs.length, 0))) else ([], 1)
theorem mnR_len (zs : List Lf) (fl : ByteArray) : (mnR zs fl).1.length ≤ 1000 := by
  unfold mnR
  split
  · split
    · simp
    · split
      · simp
      · simp only; omega
  · simp
set_option maxRecDepth 100000 in
set_option maxHeartbeats 16000000 in
theorem mn_spec (ao : Option Addr) (n c : Nat) (zs : List Lf) (fl : ByteArray) (w : World) (hn : n ≤ 1048576) (hv : LfsV w ao n zs) :
    Calls Tryd.prog 37 #[.slice ao n c, .string fl] w (NewCI (mnR zs fl).1 (mnR zs fl).2 w) := by
  unfold NewCI
  have HV := Lib.hid hv
  have HZ := Lib.hid hv.1
  clear hv
  obtain ⟨i0, hi, hz0, hz1, hz2⟩ := info_parts infoI
  cases hB : lfsB zs with
  | false =>
    have HR := Lib.hid (show mnR zs fl = ([], 1) by unfold mnR; rw [hB]; rfl)
    rw [HR.out]
    go_enter Tryd.func37, Tryd.ntmps37
    go_wp2_with fail
    refine (validLs_spec ao n c zs _ hn HV.out).mono ?_
    rintro e w1 ⟨rfl, g1⟩
    have HG := Lib.hid g1
    clear g1
    rw [hB]
    go_wp2
    go_ret2
    exact ⟨_, rfl, World.ownsRow_nil _ _ _ _, HG.out⟩
  | true =>
    have hn16 : n ≤ 16 := by have := (lfsB_ok hB).1; have := HZ.out; omega
    have HLN := Lib.hid (fun j hj => lfN_of ((lfsB_ok hB).2 j hj).1)
    have HFT := Lib.hid (show (flL zs fl n).length = 0 → ftR zs fl = ([], 3) by intro h; unfold ftR; rw [hB, if_pos rfl, ← HZ.out, if_pos h])
    have HFU := Lib.hid (show ¬ (flL zs fl n).length = 0 → ftR zs fl = (flL zs fl n, 0) by intro h; unfold ftR; rw [hB, if_pos rfl, ← HZ.out, if_neg h])
    have HMR := Lib.hid (show mnR zs fl = if (flL zs fl n).length = 0 then ([], 3) else (if 64 < (msO zs fl n).length then ([], 5) else (msO zs fl n, 0)) by unfold mnR; rw [hB, if_pos rfl, ← HZ.out])
    by_cases h0 : (flL zs fl n).length = 0
    · have HR := Lib.hid (HMR.out.trans (if_pos h0))
      have HF := Lib.hid (HFT.out h0)
      rw [HR.out]
      clear h0
      go_enter Tryd.func37, Tryd.ntmps37
      go_wp2_with fail
      refine (validLs_spec ao n c zs _ hn HV.out).mono ?_
      rintro e w1 ⟨rfl, g1⟩
      have HG := Lib.hid g1
      clear g1
      rw [hB]
      go_wp2_with fail
      refine (ft_spec ao n c zs fl _ hn (HV.out.below HG.out)).mono ?_
      rintro e w2 ⟨v, rfl, ho, g2⟩
      have HG2 := Lib.hid (bseq HG.out g2)
      rw [HF.out] at ho ⊢
      clear ho g2
      go_wp2
      go_ret2
      exact ⟨_, rfl, World.ownsRow_nil _ _ _ _, HG2.out⟩
    · have HF := Lib.hid (HFU.out h0)
      have HIN := Lib.hid (flL_in zs fl n)
      have HOL := Lib.hid (flL_len zs fl n)
      have HML := Lib.hid (fun k hk => msL_len HZ.out HLN.out (flL_in zs fl n) k hk)
      have HGP := Lib.hid (fun k (hk : k + 1 < (flL zs fl n).length) => gpI_le HZ.out HLN.out (flL_in zs fl n) hk)
      have HMO := Lib.hid (show msO zs fl n = msL zs (flL zs fl n) ((flL zs fl n).length - 1) from rfl)
      obtain ⟨O, hO⟩ : ∃ O, flL zs fl n = O := ⟨_, rfl⟩
      rw [hO] at HF HIN HOL HML HMO HMR HGP h0
      have HR := Lib.hid (HMR.out.trans (if_neg h0))
      have HS := Lib.hid (fun k => show msL zs O (k + 1) = msL zs O k ++ rgK (nuL zs (O.getD k 0) + 1) (gpI zs O k) from rfl)
      have HGD := Lib.hid (fun k => show gpI zs O k = (nuL zs (O.getD (k + 1) 0) - (nuL zs (O.getD k 0) + 1)).toNat from rfl)
      have HM0 := Lib.hid (show msL zs O 0 = [] from rfl)
      clear hO HMR HFT HFU
      obtain ⟨M, hM⟩ : ∃ M, O.length = M := ⟨_, rfl⟩
      have HM := Lib.hid hM
      rw [hM] at h0 HOL HML HMO HGP
      have hM16 : M ≤ 16 := by have := HOL.out; omega
      have hM1 : 1 ≤ M := by omega
      rw [HMO.out] at HR
      clear hM
      go_enter Tryd.func37, Tryd.ntmps37
      go_wp2_with fail
      refine (validLs_spec ao n c zs _ hn HV.out).mono ?_
      rintro e w1 ⟨rfl, g1⟩
      have HG := Lib.hid g1
      clear g1
      rw [hB]
      go_wp2_with fail
      refine (ft_spec ao n c zs fl _ hn (HV.out.below HG.out)).mono ?_
      rintro e w2 ⟨v, rfl, ho, g2⟩
      have HG2 := Lib.hid (bseq HG.out g2)
      rw [HF.out] at ho ⊢
      have hoo : OwnI w2 w1.heap.size v O := ho
      obtain ⟨g, cap, rfl⟩ := hoo.some (by rw [HM.out]; omega)
      have HIB := Lib.hid hoo.inB.2.2.2
      rw [HM.out]
      have o1 := World.ownsRow_made w2 (e := 2) (base := w2.heap.size) (size := 1) #[] 0 (Nat.le_refl _) (by unfold maxLen; omega) rfl
      have HO0 := Lib.hid (show OwnI (w2.alloc (.cells #[] 2)) w2.heap.size (.slice (some ⟨w2.heap.size, 0, none⟩) 0 0) (msL zs O 0) by rw [HM0.out]; exact o1)
      have HBW := Lib.hid (one_alloc (w := w2) (.cells #[] 2))
      clear ho g2 hoo h0 o1
      go_wp2
      go_loopw [8, 9, 10] (fun ov iv u10 wr => ∃ (k g2 c2 : Nat), 1 ≤ k ∧ k ≤ M ∧ iv = .int .i64 k ∧ ov = .slice (some ⟨g2, 0, none⟩) (msL zs O (k - 1)).length c2 ∧ Hid (OwnI wr w2.heap.size ov (msL zs O (k - 1))) ∧ Hid (Below w2.heap.size w2 wr)) (fun _ i _ _ => M - (intOf i).toNat)
      case atStart => exact ⟨1, w2.heap.size, 0, by omega, by omega, by go_num, by rw [Nat.sub_self, HM0.out]; rfl, HO0, HBW⟩
      case round =>
        obtain ⟨k, g2, c2, hk1, hk, rfl, rfl, ho, hb⟩ := hrel
        obtain ⟨kk, hkk⟩ : ∃ j, j = k - 1 := ⟨_, rfl⟩
        rw [← hkk] at ho ⊢
        have HKK := Lib.hid hkk
        clear hkk
        obtain ⟨wo, hwo⟩ : ∃ x, x = wr := ⟨wr, rfl⟩
        subst hwo
        by_cases hlt : k < M
        · have HIK := Lib.hid (HIB.out.below hb.out)
          have HVK := Lib.hid (HV.out.below (bseq HG2.out hb.out))
          obtain ⟨a, han, ea⟩ := take_in HIN.out kk (by rw [HM.out]; have := HKK.out; omega)
          obtain ⟨d, hdn, ed⟩ := take_in HIN.out k (by rw [HM.out]; exact hlt)
          have ck : wo.cell? ⟨g, kk, none⟩ = some (.int .i64 (a : Int)) := by have := HIK.out.2 kk (by rw [HM.out]; have := HKK.out; omega); rw [ea] at this; exact this
          have cd : wo.cell? ⟨g, k, none⟩ = some (.int .i64 (d : Int)) := by have := HIK.out.2 k (by rw [HM.out]; exact hlt); rw [ed] at this; exact this
          have hgw := HIK.out.1
          obtain ⟨b, rfl, hbw, a1, a2⟩ := lfs_cells HVK.out han
          obtain ⟨b', hb', _, d1, d2⟩ := lfs_cells HVK.out hdn
          have hbb : b = b' := by simpa using hb'
          subst hbb
          have hua := (HLN.out a (by rw [← HZ.out]; exact han)).nu
          have hud := (HLN.out d (by rw [← HZ.out]; exact hdn)).nu
          have HNA := Lib.hid (show nuL zs (O.getD kk 0) = (zs.getD a lf0).nu by rw [ea]; simp [nuL])
          have HND := Lib.hid (show nuL zs (O.getD (kk + 1) 0) = (zs.getD d lf0).nu by rw [show kk + 1 = k by have := HKK.out; omega, ed]; simp [nuL])
          obtain ⟨ua, hqa⟩ : ∃ q, (zs.getD a lf0).nu = q := ⟨_, rfl⟩
          obtain ⟨ud, hqd⟩ : ∃ q, (zs.getD d lf0).nu = q := ⟨_, rfl⟩
          rw [hqa] at a2 hua HNA
          rw [hqd] at d2 hud HND
          have HSK := Lib.hid (HS.out kk)
          have HGK := Lib.hid (HGD.out kk)
          have HLK := Lib.hid (HML.out kk (by have := HKK.out; omega))
          rw [HNA.out] at HSK
          rw [HNA.out, HND.out] at HGK
          have hkm : IntKind.i64.wrap ((k : Int) - 1) = ((kk : Nat) : Int) := by rw [IntWalk.i64_in _ (by omega)]; have := HKK.out; omega
          have e1 : IntKind.i64.wrap (ua + 1) = ua + 1 := IntWalk.i64_in _ (by omega)
          have hkM : kk < M := by have := HKK.out; omega
          obtain ⟨L, hL⟩ : ∃ L, msL zs O kk = L := ⟨_, rfl⟩
          rw [hL] at ho HSK HLK ⊢
          obtain ⟨m, hm⟩ : ∃ m, gpI zs O kk = m := ⟨_, rfl⟩
          rw [hm] at HSK HGK
          have HMM := Lib.hid (show ua + 1 + (m : Int) = if ua + 1 ≤ ud then ud else ua + 1 by rw [HGK.out]; split <;> omega)
          have HQD := Lib.hid hqd
          have hm1 : m ≤ 1000 := by have := HGK.out; omega
          clear a1 d1 hb' hqa hqd ea ed hL hm
          go_wp2
          clear hkm
          go_loopw [8, 10] (fun ov nv wi => ∃ (j g3 c3 : Nat), j ≤ m ∧ nv = .int .i64 (ua + 1 + (j : Int)) ∧ ov = .slice (some ⟨g3, 0, none⟩) (L ++ rgK (ua + 1) j).length c3 ∧ Hid (OwnI wi w2.heap.size ov (L ++ rgK (ua + 1) j)) ∧ Hid (Below w2.heap.size w2 wi)) (fun _ v _ => (ud - intOf v).toNat)
          case atStart => exact ⟨0, g2, c2, by omega, by simp, by simp [rgK], by simpa [rgK] using ho, hb⟩
          case round =>
            obtain ⟨j, g3, c3, hj, rfl, rfl, ho3, hb3⟩ := hrel
            have HIJ := Lib.hid (HIB.out.below hb3.out)
            have HVJ := Lib.hid (HV.out.below (bseq HG2.out hb3.out))
            have cdj : wr.cell? ⟨g, k, none⟩ = some (.int .i64 (d : Int)) := (hb3.out.cell (p := ⟨g, k, none⟩) HIB.out.1).trans ((hb.out.cell (p := ⟨g, k, none⟩) HIB.out.1).symm.trans cd)
            have hgj := HIJ.out.1
            obtain ⟨b2, hb2, hbw2, _, d3⟩ := lfs_cells HVJ.out hdn
            rw [HQD.out] at d3
            have hbb2 : b = b2 := by simpa using hb2
            subst hbb2
            have ew : IntKind.i64.wrap (ua + 1 + (j : Int) + 1) = ua + 1 + (j : Int) + 1 := IntWalk.i64_in _ (by omega)
            clear hb2
            by_cases hlt3 : ua + 1 + (j : Int) < ud
            · have hjm : j < m := by have := HGK.out; omega
              have hd3 : decide (ua + 1 + (j : Int) < ud) = true := by simpa using hlt3
              have hown := ho3.out
              unfold OwnI at hown
              have hsz : w2.heap.size ≤ wr.heap.size := hb3.out.size
              have hll : (L ++ rgK (ua + 1) j).length ≤ 40000 := by rw [List.length_append, rgK_len]; have := HLK.out; omega
              go_wp2_with (at_builtin; refine wpList_app1 rfl _ _ 55 rfl w2.heap.size 2 i0 (.int .i64 0) 8 Tryd.underlying55 hi hz0 hz1 hz2 rfl _ _ _ rfl hown _ rfl (by first | rfl | simp) rfl (by omega) (by omega) hsz ?_)
              intro v3 w3 ho4 hg4
              have HO4 := Lib.hid (show OwnI w3 w2.heap.size v3 (L ++ rgK (ua + 1) (j + 1)) by rw [rgK_succ, ← List.append_assoc]; exact OwnI.app (by simp) ho4)
              have HB4 := Lib.hid (below_app hb3.out (Nat.le_refl _) hsz hown hg4)
              obtain ⟨g4, c4, hv4⟩ := HO4.out.some (by simp [rgK_succ]; omega)
              subst hv4
              clear ho4 hg4 hown cdj hgj hbw2 d3
              go_wp2
              go_roundw
              case rel => exact ⟨j + 1, g4, c4, by omega, by simp only [Value.int.injEq, true_and]; omega, rfl, HO4, HB4⟩
              case measure => simp [intOf]; omega
            · have hjm : j = m := by have := HGK.out; omega
              have hd3 : decide (ua + 1 + (j : Int) < ud) = false := by simpa using hlt3
              subst hjm
              have HO5 := Lib.hid (show OwnI wr w2.heap.size (.slice (some ⟨g3, 0, none⟩) (L ++ rgK (ua + 1) j).length c3) (msL zs O (kk + 1)) by rw [HSK.out]; exact ho3.out)
              have HEL := Lib.hid (show (L ++ rgK (ua + 1) j).length = (msL zs O (kk + 1)).length by rw [HSK.out])
              go_wp2
              go_roundw
              case rel => exact ⟨k + 1, g3, c3, by omega, by omega, by go_num, by rw [show k + 1 - 1 = kk + 1 by have := HKK.out; omega, ← HEL.out], by rw [show k + 1 - 1 = kk + 1 by have := HKK.out; omega]; exact HO5, hb3⟩
              case measure => simp [intOf]; omega
        · obtain rfl : k = M := by omega
          have HBF := Lib.hid (bseq HG2.out hb.out)
          have HOF := Lib.hid (own_lower ho.out HG2.out.size)
          rw [← HKK.out] at HR
          obtain ⟨L, hL⟩ : ∃ L, msL zs O kk = L := ⟨_, rfl⟩
          rw [hL] at HR HOF ⊢
          clear hL ho
          by_cases h64 : 64 < L.length
          · have HR2 := Lib.hid (HR.out.trans (if_pos h64))
            have hd6 : decide ((64 : Int) < (L.length : Int)) = true := by simp; omega
            go_wp2
            exact bodyPost_ret (v := .tuple #[.slice none 0 0, .int .i64 5]) (by simp [results, Tryd.results37, go_sem]) rfl ⟨_, by rw [HR2.out], by rw [HR2.out]; exact World.ownsRow_nil _ _ _ _, HBF.out⟩
          · have HR2 := Lib.hid (HR.out.trans (if_neg h64))
            have hd6 : decide ((64 : Int) < (L.length : Int)) = false := by simp; omega
            go_wp2
            exact bodyPost_ret (v := .tuple #[.slice (some ⟨g2, 0, none⟩) L.length c2, .int .i64 0]) (by simp [results, Tryd.results37, go_sem]) rfl ⟨_, by rw [HR2.out], by rw [HR2.out]; exact HOF.out, HBF.out⟩
end Go.Proofs.YtcjpplijbdfgbaaDoor
namespace Go.Proofs.YtcjpplijbdfgbaaDoor
open Seq2 Go.ChangeShapes Go.WideShapes Go.ChangeAt Go.RowKit
set_option linter.unusedVariables false
set_option linter.unusedSimpArgs false

set_option maxRecDepth 100000 in
set_option maxHeartbeats 1000000 in
theorem wc_MissingNumbers_1_no (fv : Value) (w : World) : Calls Tryd.prog 75 #[.bool false, fv] w fun e w' => e = .returned (.tuple #[.slice none 0 0, .int .i64 1]) ∧ w = w' := by
  go_enter Tryd.func75, Tryd.ntmps75
  go_wp2
  go_ret2
  exact ⟨rfl, rfl⟩
set_option maxRecDepth 100000 in
set_option maxHeartbeats 1000000 in
theorem wc_MissingNumbers_1_ok (k0 k1 : Value) (Q : Value → World → Prop) (w : World) (h : Calls Tryd.prog 79 #[k0, k1] w fun e w' => ∃ x, e = .returned (.tuple #[x, .nilIface]) ∧ Q x w' ∧ Below w.heap.size w w') :
    Calls Tryd.prog 75 #[.bool true, .func (.func 79) #[] #[k0, k1]] w fun e w' => ∃ x, e = .returned (.tuple #[x, .int .i64 0]) ∧ Q x w' ∧ Below w.heap.size w w' := by
  have H := Lib.hid h
  clear h
  go_enter Tryd.func75, Tryd.ntmps75
  go_wp2_with fail
  refine (H.out).mono ?_
  rintro e w1 ⟨x, rfl, hq, g1⟩
  have HG := Lib.hid g1
  have HQ := Lib.hid hq
  clear g1 hq
  go_wp2
  go_ret2
  exact ⟨x, rfl, HQ.out, HG.out⟩
set_option maxRecDepth 100000 in
set_option maxHeartbeats 1000000 in
theorem wc_MissingNumbers_1_err (k0 k1 x : Value) (k : Int) (a : Addr) (w : World) (h : Calls Tryd.prog 79 #[k0, k1] w fun e w' => e = .returned (.tuple #[x, esV a]) ∧ Below w.heap.size w w')
    (hc : ∀ w', Below w.heap.size w w' → Calls Tryd.prog 86 #[esV a] w' fun e w'' => e = .returned (.int .i64 k) ∧ w' = w'') :
    Calls Tryd.prog 75 #[.bool true, .func (.func 79) #[] #[k0, k1]] w fun e w' => e = .returned (.tuple #[.slice none 0 0, .int .i64 k]) ∧ Below w.heap.size w w' := by
  have H := Lib.hid h
  have HC := Lib.hid hc
  clear h hc
  unfold esV at H HC
  go_enter Tryd.func75, Tryd.ntmps75
  go_wp2_with fail
  refine (H.out).mono ?_
  rintro e w1 ⟨rfl, g1⟩
  have HG := Lib.hid g1
  clear g1
  go_wp2_with fail
  refine (HC.out _ HG.out).mono ?_
  rintro e w2 ⟨rfl, rfl⟩
  go_wp2
  go_ret2
  exact ⟨rfl, HG.out⟩
end Go.Proofs.YtcjpplijbdfgbaaDoor
namespace Go.Proofs.YtcjpplijbdfgbaaDoor
open Seq2 Go.ChangeShapes Go.WideShapes Go.ChangeAt Go.RowKit
set_option linter.unusedVariables false
set_option linter.unusedSimpArgs false

/-- What impl's missingNumbers yields for an order that is not empty. -/
def MnPost (E : ErrA) (L : List Int) (B : Nat) (e : Ending) (w' : World) : Prop :=
  (64 < L.length → e = .returned (.tuple #[.slice none 0 0, esV E.f])) ∧ (¬ 64 < L.length → ∃ v, e = .returned (.tuple #[v, .nilIface]) ∧ OwnI w' B v L)
set_option maxRecDepth 100000 in
set_option maxHeartbeats 16000000 in
theorem mis_impl (E : ErrA) (ao : Option Addr) (n c : Nat) (zs : List Lf) (fl : ByteArray) (w : World) (hB : lfsB zs = true) (hn16 : n ≤ 16) (hv : LfsV w ao n zs) (he : Errs w E) :
    Calls Tryd.prog 80 #[.slice ao n c, .string fl] w fun e w' =>
      ((flL zs fl n).length = 0 → e = .returned (.tuple #[.slice none 0 0, esV E.n])) ∧ (¬ (flL zs fl n).length = 0 → MnPost E (msO zs fl n) w.heap.size e w') ∧ Below w.heap.size w w' := by
  have HV := Lib.hid hv
  have HZ := Lib.hid hv.1
  have HE := Lib.hid he
  have HOF := Lib.hid (ofl_impl E ao n c zs fl w hn16 hv he)
  have HLN := Lib.hid (fun j hj => lfN_of ((lfsB_ok hB).2 j hj).1)
  obtain ⟨i0, hi, hz0, hz1, hz2⟩ := info_parts infoI
  clear hv he hB
  by_cases h0 : (flL zs fl n).length = 0
  · have H0 := Lib.hid h0
    unfold esV at HOF ⊢
    clear h0
    go_enter Tryd.func80, Tryd.ntmps80
    go_wp2_with fail
    refine (HOF.out).mono ?_
    rintro e w1 ⟨h1, _, g1⟩
    obtain rfl := h1 H0.out
    have HG := Lib.hid g1
    clear g1 h1
    go_wp2
    go_ret2
    exact ⟨fun _ => rfl, fun h => absurd H0.out h, HG.out⟩
  · have HNZ := Lib.hid h0
    have HIN := Lib.hid (flL_in zs fl n)
    have HOL := Lib.hid (flL_len zs fl n)
    have HML := Lib.hid (fun k hk => msL_len HZ.out HLN.out (flL_in zs fl n) k hk)
    have HGP := Lib.hid (fun k (hk : k + 1 < (flL zs fl n).length) => gpI_le HZ.out HLN.out (flL_in zs fl n) hk)
    have HMO := Lib.hid (show msO zs fl n = msL zs (flL zs fl n) ((flL zs fl n).length - 1) from rfl)
    rw [HMO.out]
    obtain ⟨O, hO⟩ : ∃ O, flL zs fl n = O := ⟨_, rfl⟩
    rw [hO] at HIN HOL HML HGP HNZ HOF h0 ⊢
    have HS := Lib.hid (fun k => show msL zs O (k + 1) = msL zs O k ++ rgK (nuL zs (O.getD k 0) + 1) (gpI zs O k) from rfl)
    have HGD := Lib.hid (fun k => show gpI zs O k = (nuL zs (O.getD (k + 1) 0) - (nuL zs (O.getD k 0) + 1)).toNat from rfl)
    have HM0 := Lib.hid (show msL zs O 0 = [] from rfl)
    clear hO HMO
    obtain ⟨M, hM⟩ : ∃ M, O.length = M := ⟨_, rfl⟩
    have HM := Lib.hid hM
    rw [hM] at h0 HOL HML HGP HNZ HOF ⊢
    have hM16 : M ≤ 16 := by have := HOL.out; omega
    have hM1 : 1 ≤ M := by omega
    clear hM h0
    go_enter Tryd.func80, Tryd.ntmps80
    go_wp2_with fail
    refine (HOF.out).mono ?_
    rintro e w1 ⟨_, h2, g1⟩
    obtain ⟨v, rfl, ho⟩ := h2 HNZ.out
    have HG := Lib.hid g1
    have HV1 := Lib.hid (HV.out.below g1)
    have HE1 := Lib.hid (HE.out.below g1)
    obtain ⟨g, cap, rfl⟩ := ho.some (by rw [HM.out]; omega)
    obtain ⟨_, hcap, _, hib⟩ := ho.inB
    have HIB := Lib.hid hib
    rw [HM.out] at hcap ⊢
    clear ho g1 h2 hib
    have HEND := Lib.hid (fun (L : List Int) (v : Value) (wz : World) (h : ¬ 64 < L.length) (hL : msL zs O (M - 1) = L) (hb : Below w.heap.size w wz) (hw : OwnI wz w.heap.size v L) =>
      show (M = 0 → Ending.returned (.tuple #[v, .nilIface]) = .returned (.tuple #[.slice none 0 0, esV E.n])) ∧ (¬ M = 0 → MnPost E (msL zs O (M - 1)) w.heap.size (Ending.returned (.tuple #[v, .nilIface])) wz) ∧ Below w.heap.size w wz from
      ⟨fun h0 => absurd h0 HNZ.out, fun _ => by rw [hL]; exact ⟨fun h6 => absurd h6 h, fun _ => ⟨v, rfl, hw⟩⟩, hb⟩)
    have HEND2 := Lib.hid (fun (L : List Int) (wz : World) (h : 64 < L.length) (hL : msL zs O (M - 1) = L) (hb : Below w.heap.size w wz) =>
      show (M = 0 → Ending.returned (.tuple #[.slice none 0 0, esV E.f]) = .returned (.tuple #[.slice none 0 0, esV E.n])) ∧ (¬ M = 0 → MnPost E (msL zs O (M - 1)) w.heap.size (Ending.returned (.tuple #[.slice none 0 0, esV E.f])) wz) ∧ Below w.heap.size w wz from
      ⟨fun h0 => absurd h0 HNZ.out, fun _ => by rw [hL]; exact ⟨fun _ => rfl, fun h6 => absurd h h6⟩, hb⟩)
    by_cases hc1 : cap = 1
    · subst hc1
      obtain rfl : M = 1 := by omega
      go_wp2
      refine wp_loop_rounds 1 ?_
      rw [rounds_succ]
      go_wp2
      refine bodyPost_ret (v := .tuple #[.slice none 0 0, .nilIface]) (by simp [results, Tryd.results80, go_sem]) rfl ?_
      exact HEND.out [] (.slice none 0 0) _ (by simp) (by rw [Nat.sub_self]; exact HM0.out) HG.out (World.ownsRow_nil _ _ _ _)
    · have hca2 : ¬ 1 = cap := fun e => hc1 e.symm
      have hca3 : 1 < cap := by omega
      have hca4 : ¬ cap - 1 = 0 := by omega
      have hca5 : ¬ cap ≤ 1 := by omega
      have hM2 : ((M - 1 : Nat) : Int) = (M : Int) - 1 := by omega
      obtain ⟨M', hM'⟩ : ∃ q, M - 1 = q := ⟨_, rfl⟩
      have HMM := Lib.hid hM'
      go_wp2
      clear hM' hca2 hca3 hca4 hca5 hM2
      go_loopw [8, 9, 10, 11, 24] (fun ov u9 u10 u11 iv wr => ∃ k : Nat, k ≤ M' ∧ iv = .int .i64 k ∧ (∃ ag c2, ov = .slice ag (msL zs O k).length c2) ∧ Hid (OwnI wr w1.heap.size ov (msL zs O k)) ∧ Hid (Below w1.heap.size w1 wr)) (fun _ _ _ _ i _ => M' - (intOf i).toNat)
      case atStart => exact ⟨0, by omega, rfl, ⟨none, 0, by rw [HM0.out]; rfl⟩, Lib.hid (by rw [HM0.out]; exact World.ownsRow_nil _ _ _ _), Lib.hid (Below.refl _ _)⟩
      case round =>
        obtain ⟨k, hk, rfl, ⟨ag, c2, rfl⟩, ho, hb⟩ := hrel
        obtain ⟨wo, hwo⟩ : ∃ x, x = wr := ⟨wr, rfl⟩
        subst hwo
        by_cases hlt : k < M'
        · have hkM : k + 1 < M := by have := HMM.out; omega
          have hkM0 : k < M := by omega
          have HIK := Lib.hid (HIB.out.below hb.out)
          have HVK := Lib.hid (HV1.out.below hb.out)
          obtain ⟨a, han, ea⟩ := take_in HIN.out k (by rw [HM.out]; omega)
          obtain ⟨d, hdn, ed⟩ := take_in HIN.out (k + 1) (by rw [HM.out]; exact hkM)
          have ck : wo.cell? ⟨g, k, none⟩ = some (.int .i64 (a : Int)) := by have := HIK.out.2 k (by rw [HM.out]; omega); rw [ea] at this; exact this
          have cd : wo.cell? ⟨g, 1 + k, none⟩ = some (.int .i64 (d : Int)) := by have := HIK.out.2 (k + 1) (by rw [HM.out]; exact hkM); rw [ed, Nat.add_comm] at this; exact this
          have hgw := HIK.out.1
          obtain ⟨b, rfl, hbw, a1, a2⟩ := lfs_cells HVK.out han
          obtain ⟨b', hb', _, d1, d2⟩ := lfs_cells HVK.out hdn
          have hbb : b = b' := by simpa using hb'
          subst hbb
          have hua := (HLN.out a (by rw [← HZ.out]; exact han)).nu
          have hud := (HLN.out d (by rw [← HZ.out]; exact hdn)).nu
          have HNA := Lib.hid (show nuL zs (O.getD k 0) = (zs.getD a lf0).nu by rw [ea]; simp [nuL])
          have HND := Lib.hid (show nuL zs (O.getD (k + 1) 0) = (zs.getD d lf0).nu by rw [ed]; simp [nuL])
          obtain ⟨ua, hqa⟩ : ∃ q, (zs.getD a lf0).nu = q := ⟨_, rfl⟩
          obtain ⟨ud, hqd⟩ : ∃ q, (zs.getD d lf0).nu = q := ⟨_, rfl⟩
          rw [hqa] at a2 hua HNA
          rw [hqd] at d2 hud HND
          have HSK := Lib.hid (HS.out k)
          have HGK := Lib.hid (HGD.out k)
          have HLK := Lib.hid (HML.out k (by omega))
          rw [HNA.out] at HSK
          rw [HNA.out, HND.out] at HGK
          have e1 : IntKind.i64.wrap (ua + 1) = ua + 1 := IntWalk.i64_in _ (by omega)
          obtain ⟨L, hL⟩ : ∃ L, msL zs O k = L := ⟨_, rfl⟩
          rw [hL] at ho HSK HLK ⊢
          obtain ⟨m, hm⟩ : ∃ m, gpI zs O k = m := ⟨_, rfl⟩
          rw [hm] at HSK HGK
          have HQD := Lib.hid hqd
          have hm1 : m ≤ 1000 := by have := HGK.out; omega
          clear a1 d1 hb' hqa hqd ea ed hL hm
          go_wp2
          go_loopw [8, 11] (fun ov nv wi => ∃ (j : Nat), j ≤ m ∧ nv = .int .i64 (ua + 1 + (j : Int)) ∧ (∃ ag3 c3, ov = .slice ag3 (L ++ rgK (ua + 1) j).length c3) ∧ Hid (OwnI wi w1.heap.size ov (L ++ rgK (ua + 1) j)) ∧ Hid (Below w1.heap.size w1 wi)) (fun _ v _ => (ud - intOf v).toNat)
          case atStart => exact ⟨0, by omega, by simp, ⟨ag, c2, by simp [rgK]⟩, by simpa [rgK] using ho, hb⟩
          case round =>
            obtain ⟨j, hj, rfl, ⟨ag3, c3, rfl⟩, ho3, hb3⟩ := hrel
            have HVJ := Lib.hid (HV1.out.below hb3.out)
            obtain ⟨b2, hb2, hbw2, _, d3⟩ := lfs_cells HVJ.out hdn
            rw [HQD.out] at d3
            have hbb2 : b = b2 := by simpa using hb2
            subst hbb2
            have ew : IntKind.i64.wrap (ua + 1 + (j : Int) + 1) = ua + 1 + (j : Int) + 1 := IntWalk.i64_in _ (by omega)
            clear hb2
            by_cases hlt3 : ua + 1 + (j : Int) < ud
            · have hjm : j < m := by have := HGK.out; omega
              have hd3 : decide (ua + 1 + (j : Int) < ud) = true := by simpa using hlt3
              have hown := ho3.out
              unfold OwnI at hown
              have hsz : w1.heap.size ≤ wr.heap.size := hb3.out.size
              have hll : (L ++ rgK (ua + 1) j).length ≤ 40000 := by rw [List.length_append, rgK_len]; have := HLK.out; omega
              go_wp2_with (at_builtin; refine wpList_app1 rfl _ _ 55 rfl w1.heap.size 2 i0 (.int .i64 0) 8 Tryd.underlying55 hi hz0 hz1 hz2 rfl _ _ _ rfl hown _ rfl (by first | rfl | simp) rfl (by omega) (by omega) hsz ?_)
              intro v3 w3 ho4 hg4
              rw [← List.length_append] at hg4
              have HO4 := Lib.hid (show OwnI w3 w1.heap.size v3 (L ++ rgK (ua + 1) (j + 1)) by rw [rgK_succ, ← List.append_assoc]; exact OwnI.app (by simp) ho4)
              have HB4 := Lib.hid (below_app hb3.out (Nat.le_refl _) hsz hown hg4)
              obtain ⟨g4, c4, hv4⟩ := HO4.out.some (by simp [rgK_succ]; omega)
              subst hv4
              clear ho4 hg4 hown hbw2 d3
              go_wp2
              go_roundw
              case rel => exact ⟨j + 1, by omega, by simp only [Value.int.injEq, true_and]; omega, ⟨_, _, rfl⟩, HO4, HB4⟩
              case measure => simp [intOf]; omega
            · have hjm : j = m := by have := HGK.out; omega
              have hd3 : decide (ua + 1 + (j : Int) < ud) = false := by simpa using hlt3
              subst hjm
              have HO5 := Lib.hid (show OwnI wr w1.heap.size (.slice ag3 (L ++ rgK (ua + 1) j).length c3) (msL zs O (k + 1)) by rw [HSK.out]; exact ho3.out)
              have HEL := Lib.hid (show (L ++ rgK (ua + 1) j).length = (msL zs O (k + 1)).length by rw [HSK.out])
              go_wp2
              go_roundw
              case rel => exact ⟨k + 1, by omega, by go_num, ⟨ag3, c3, by rw [← HEL.out]⟩, HO5, hb3⟩
              case measure => simp [intOf]; omega
        · obtain rfl : k = M' := by omega
          have HBF := Lib.hid (bseq HG.out hb.out)
          have HOF2 := Lib.hid (own_lower ho.out HG.out.size)
          obtain ⟨L, hL⟩ : ∃ L, msL zs O k = L := ⟨_, rfl⟩
          have HL := Lib.hid hL
          rw [hL] at HOF2 ⊢
          clear hL ho
          by_cases h64 : 64 < L.length
          · have hd6 : decide ((64 : Int) < (L.length : Int)) = true := by simp; omega
            have HE2 := Lib.hid (HE1.out.below hb.out)
            have c0 := HE2.out.F.cell
            have l0 := HE2.out.F.lt
            go_wp2
            refine wp_region_below (by kernel_rfl) (by kernel_rfl) ?_
            repeat (first | (refine wq_val ?_ ?_; (focus (go_simp; done)); apply Exists.intro; refine ⟨fun w1 hw1 => ?_, ?_⟩; (obtain ⟨hc, hf⟩ := bcell hw1; clear hw1; go_simp; (first | done | with_reducible rfl | (with_reducible exact eql2 _ _ _) | (with_reducible exact neq2 _ _ _))); (try simp only [Act.put, List.setIfInBounds_toArray, List.set_cons_zero, List.set_cons_succ])) | (refine wq_skip ?_ ?_; (focus (go_simp; (first | done | (simp [undef]; done)))); (try simp only [Act.put, List.setIfInBounds_toArray, List.set_cons_zero, List.set_cons_succ])))
            refine wq_nil ?_
            intro w4 hb4
            have HB4 := Lib.hid (bseq HBF.out hb4)
            clear hb4
            go_wp2
            refine bodyPost_ret (v := .tuple #[.slice none 0 0, esV E.f]) (by simp [results, Tryd.results80, go_sem, esV]) rfl ?_
            exact HEND2.out L w4 h64 (by rw [HMM.out]; exact HL.out) HB4.out
          · have hd6 : decide ((64 : Int) < (L.length : Int)) = false := by simp; omega
            go_wp2
            refine bodyPost_ret (v := .tuple #[.slice ag L.length c2, .nilIface]) (by simp [results, Tryd.results80, go_sem]) rfl ?_
            exact HEND.out L _ _ h64 (by rw [HMM.out]; exact HL.out) HBF.out HOF2.out
end Go.Proofs.YtcjpplijbdfgbaaDoor
namespace Go.Proofs.YtcjpplijbdfgbaaDoor
open Seq2 Go.ChangeShapes Go.WideShapes Go.ChangeAt Go.RowKit
set_option linter.unusedVariables false
set_option linter.unusedSimpArgs false

set_option maxRecDepth 100000 in
set_option maxHeartbeats 4000000 in
theorem clo_mn (q p1 : Nat) (E : ErrA) (ao : Option Addr) (n c : Nat) (zs : List Lf) (fl : ByteArray) (w : World) (hB : lfsB zs = true) (hn : n ≤ 16) (hv : LfsV w ao n zs) (he : Errs w E)
    (hq : w.heap[q]? = some (.cells #[.slice ao n c] 51 (0, 0))) (h1 : w.heap[p1]? = some (.cells #[.string fl] 9 (0, 0))) :
    Calls Tryd.prog 79 #[.pointer (some ⟨q, 0, none⟩), .pointer (some ⟨p1, 0, none⟩)] w fun e w' =>
      ((flL zs fl n).length = 0 → e = .returned (.tuple #[.slice none 0 0, esV E.n])) ∧ (¬ (flL zs fl n).length = 0 → MnPost E (msO zs fl n) w.heap.size e w') ∧ Below w.heap.size w w' := by
  have hz := blk_lt hq
  have a0 := (cell_of_arr hq (j := 0) rfl).1
  have hz1 := blk_lt h1
  have b0 := (cell_of_arr h1 (j := 0) rfl).1
  have HC := Lib.hid (mis_impl E ao n c zs fl w hB hn hv he)
  clear he hv hq h1 hB
  by_cases h0 : (flL zs fl n).length = 0
  · have H0 := Lib.hid h0
    unfold esV at HC ⊢
    clear h0
    go_enter Tryd.func79, Tryd.ntmps79
    go_wp2_with fail
    refine (HC.out).mono ?_
    rintro e w1 ⟨h1, _, g1⟩
    obtain rfl := h1 H0.out
    have HG := Lib.hid g1
    clear g1 h1
    go_wp2
    go_ret2
    exact ⟨fun _ => rfl, fun h => absurd H0.out h, HG.out⟩
  · have H0 := Lib.hid h0
    unfold MnPost at HC ⊢
    by_cases h6 : 64 < (msO zs fl n).length
    · have H6 := Lib.hid h6
      unfold esV at HC ⊢
      clear h0 h6
      go_enter Tryd.func79, Tryd.ntmps79
      go_wp2_with fail
      refine (HC.out).mono ?_
      rintro e w1 ⟨_, h2, g1⟩
      obtain rfl := (h2 H0.out).1 H6.out
      have HG := Lib.hid g1
      clear g1 h2
      go_wp2
      go_ret2
      exact ⟨fun h => absurd h H0.out, fun _ => ⟨fun _ => rfl, fun h => absurd H6.out h⟩, HG.out⟩
    · have H6 := Lib.hid h6
      clear h0 h6
      go_enter Tryd.func79, Tryd.ntmps79
      go_wp2_with fail
      refine (HC.out).mono ?_
      rintro e w1 ⟨_, h2, g1⟩
      obtain ⟨v, rfl, ho⟩ := (h2 H0.out).2 H6.out
      have HG := Lib.hid g1
      have HO := Lib.hid ho
      clear g1 ho h2
      go_wp2
      go_ret2
      exact ⟨fun h => absurd h H0.out, fun _ => ⟨fun h => absurd h H6.out, fun _ => ⟨v, rfl, HO.out⟩⟩, HG.out⟩
set_option maxRecDepth 100000 in
set_option maxHeartbeats 8000000 in
theorem mn_impl (ao : Option Addr) (n c : Nat) (zs : List Lf) (fl : ByteArray) (w : World) (hn : n ≤ 1048576) (hv : LfsV w ao n zs) (ht : TabAt w) (he : ErrsAt w) :
    Calls Tryd.prog 38 #[.slice ao n c, .string fl] w (NewCI (mnR zs fl).1 (mnR zs fl).2 w) := by
  unfold NewCI
  obtain ⟨E, hE⟩ := he.out
  have hA := two_allocs (w := w) (.cells #[.slice ao n c] 51) (.cells #[.string fl] 9)
  have hx := (Below.heap_alloc (w.alloc (.cells #[.slice ao n c] 51)) (.cells #[.string fl] 9) w.heap.size (by simp)).trans (World.alloc_heap_new w (.cells #[.slice ao n c] 51))
  have hp := World.alloc_heap_new (w.alloc (.cells #[.slice ao n c] 51)) (.cells #[.string fl] 9)
  rw [show (w.alloc (.cells #[.slice ao n c] 51)).heap.size = w.heap.size + 1 by simp] at hp
  have HA := Lib.hid hA
  have HX := Lib.hid hx
  have HP := Lib.hid hp
  have HT := Lib.hid (ht.below hA)
  have HE := Lib.hid (hE.below hA)
  have HV := Lib.hid (hv.below hA)
  have HZ := Lib.hid hv.1
  clear hv ht he hE hA hx hp
  cases hB : lfsB zs with
  | false =>
    have HR := Lib.hid (show mnR zs fl = ([], 1) by unfold mnR; rw [hB]; rfl)
    rw [HR.out]
    go_enter Tryd.func38, Tryd.ntmps38
    go_wp2_with fail
    refine (validLs_impl ao n c zs _ hn HV.out HT.out).mono ?_
    rintro e w1 ⟨rfl, g1⟩
    have HG := Lib.hid (bseq HA.out g1)
    clear g1
    rw [hB]
    go_wp2_with fail
    refine (wc_MissingNumbers_1_no _ _).mono ?_
    rintro e w2 ⟨rfl, rfl⟩
    go_wp2
    go_ret2
    exact ⟨_, rfl, World.ownsRow_nil _ _ _ _, HG.out⟩
  | true =>
    have hn16 : n ≤ 16 := by have := (lfsB_ok hB).1; have := HZ.out; omega
    have HBB := Lib.hid hB
    have HMR := Lib.hid (show mnR zs fl = if (flL zs fl n).length = 0 then ([], 3) else (if 64 < (msO zs fl n).length then ([], 5) else (msO zs fl n, 0)) by unfold mnR; rw [hB, if_pos rfl, ← HZ.out])
    by_cases h0 : (flL zs fl n).length = 0
    · have HR := Lib.hid (HMR.out.trans (if_pos h0))
      have H0 := Lib.hid h0
      rw [HR.out]
      clear h0
      go_enter Tryd.func38, Tryd.ntmps38
      go_wp2_with fail
      refine (validLs_impl ao n c zs _ hn HV.out HT.out).mono ?_
      rintro e w1 ⟨rfl, g1⟩
      have HG := Lib.hid (bseq HA.out g1)
      have HE1 := Lib.hid (HE.out.below g1)
      have HV1 := Lib.hid (HV.out.below g1)
      have HX1 := Lib.hid ((g1.block _ (blk_lt HX.out)).trans HX.out)
      have HP1 := Lib.hid ((g1.block _ (blk_lt HP.out)).trans HP.out)
      clear g1
      rw [hB]
      go_wp2_with fail
      refine (wc_MissingNumbers_1_err _ _ _ 3 E.n _ ((clo_mn w.heap.size (w.heap.size + 1) E ao n c zs fl _ HBB.out hn16 HV1.out HE1.out HX1.out HP1.out).mono (fun e w' h => ⟨h.1 H0.out, h.2.2⟩)) (fun w' hb => code_N E w' (HE1.out.below hb))).mono ?_
      rintro e w2 ⟨rfl, g2⟩
      have HG2 := Lib.hid (bseq HG.out g2)
      clear g2
      go_wp2
      go_ret2
      exact ⟨_, rfl, World.ownsRow_nil _ _ _ _, HG2.out⟩
    · have H0 := Lib.hid h0
      have HMR2 := Lib.hid (HMR.out.trans (if_neg h0))
      by_cases h6 : 64 < (msO zs fl n).length
      · have HR := Lib.hid (HMR2.out.trans (if_pos h6))
        have H6 := Lib.hid h6
        rw [HR.out]
        clear h0 h6
        go_enter Tryd.func38, Tryd.ntmps38
        go_wp2_with fail
        refine (validLs_impl ao n c zs _ hn HV.out HT.out).mono ?_
        rintro e w1 ⟨rfl, g1⟩
        have HG := Lib.hid (bseq HA.out g1)
        have HE1 := Lib.hid (HE.out.below g1)
        have HV1 := Lib.hid (HV.out.below g1)
        have HX1 := Lib.hid ((g1.block _ (blk_lt HX.out)).trans HX.out)
        have HP1 := Lib.hid ((g1.block _ (blk_lt HP.out)).trans HP.out)
        clear g1
        rw [hB]
        go_wp2_with fail
        refine (wc_MissingNumbers_1_err _ _ _ 5 E.f _ ((clo_mn w.heap.size (w.heap.size + 1) E ao n c zs fl _ HBB.out hn16 HV1.out HE1.out HX1.out HP1.out).mono (fun e w' h => ⟨(h.2.1 H0.out).1 H6.out, h.2.2⟩)) (fun w' hb => code_F E w' (HE1.out.below hb))).mono ?_
        rintro e w2 ⟨rfl, g2⟩
        have HG2 := Lib.hid (bseq HG.out g2)
        clear g2
        go_wp2
        go_ret2
        exact ⟨_, rfl, World.ownsRow_nil _ _ _ _, HG2.out⟩
      · have HR := Lib.hid (HMR2.out.trans (if_neg h6))
        have H6 := Lib.hid h6
        rw [HR.out]
        clear h0 h6
        go_enter Tryd.func38, Tryd.ntmps38
        go_wp2_with fail
        refine (validLs_impl ao n c zs _ hn HV.out HT.out).mono ?_
        rintro e w1 ⟨rfl, g1⟩
        have HG := Lib.hid (bseq HA.out g1)
        have HE1 := Lib.hid (HE.out.below g1)
        have HV1 := Lib.hid (HV.out.below g1)
        have HX1 := Lib.hid ((g1.block _ (blk_lt HX.out)).trans HX.out)
        have HP1 := Lib.hid ((g1.block _ (blk_lt HP.out)).trans HP.out)
        clear g1
        rw [hB]
        go_wp2_with fail
        refine (wc_MissingNumbers_1_ok _ _ (fun x w' => OwnI w' w1.heap.size x (msO zs fl n)) _ ((clo_mn w.heap.size (w.heap.size + 1) E ao n c zs fl _ HBB.out hn16 HV1.out HE1.out HX1.out HP1.out).mono (fun e w' h => by obtain ⟨v, hv, ho⟩ := (h.2.1 H0.out).2 H6.out; exact ⟨v, hv, ho, h.2.2⟩))).mono ?_
        rintro e w2 ⟨v, rfl, ho, g2⟩
        have HG2 := Lib.hid (bseq HG.out g2)
        have HO := Lib.hid (own_lower ho HG.out.size)
        clear g2 ho
        go_wp2
        go_ret2
        exact ⟨_, rfl, HO.out, HG2.out⟩
end Go.Proofs.YtcjpplijbdfgbaaDoor
