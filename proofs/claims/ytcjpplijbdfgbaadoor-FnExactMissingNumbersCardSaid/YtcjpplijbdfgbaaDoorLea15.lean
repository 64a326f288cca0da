/- Leaves of a flitch in their sequence: the whole, spec and impl. -/
import Derived.Test.YtcjpplijbdfgbaaDoorLea14
namespace Go.Proofs.YtcjpplijbdfgbaaDoor
open Seq2 Go.ChangeShapes Go.WideShapes Go.ChangeAt Go.RowKit Go.Sort Go.Shelf
set_option linter.unusedVariables false
set_option linter.unusedSimpArgs false

set_option maxRecDepth 100000 in
set_option maxHeartbeats 4000000 in
theorem stable_own (q g cap base m : Nat) (ao : Option Addr) (c : Nat) (zs : List Lf) (L : List Int) (w w0 : World) (hin : ∀ y ∈ L, ∃ j : Nat, j < m + 1 ∧ y = (j : Int)) (hL : L.length ≤ 16) (h0 : 0 < L.length)
    (hown : OwnI w base (.slice (some ⟨g, 0, none⟩) L.length cap) L) (hv : LfsV w0 ao (m + 1) zs) (hq : w0.heap[q]? = some (.cells #[.slice ao (m + 1) c] 101 (0, 0))) (hb : Below w0.heap.size w0 w) (hbase : w0.heap.size ≤ base) :
    Calls Tryd.prog 127 #[.slice (some ⟨g, 0, none⟩) L.length cap, .func (.func 128) #[] #[.pointer (some ⟨q, 0, none⟩)]] w
      fun e w' => e = .returned (.tuple #[]) ∧ OwnI w' base (.slice (some ⟨g, 0, none⟩) L.length cap) (srtF (nuL zs) L) ∧ w.grownBy w' (some g) := by
  have HC := Lib.hid (ins_own q g cap base m ao c zs L w w0 hin (by omega) h0 hown hv hq hb hbase)
  obtain ⟨len, hlen⟩ : ∃ l, L.length = l := ⟨_, rfl⟩
  rw [hlen] at HC hL ⊢
  clear hin h0 hown hv hq hb hbase hlen
  have HST := Lib.hid (show Calls Tryd.prog 134 #[.slice (some ⟨g, 0, none⟩) len cap, .int .i64 len, .func (.func 128) #[] #[.pointer (some ⟨q, 0, none⟩)]] w
      fun e w' => e = .returned (.tuple #[]) ∧ OwnI w' base (.slice (some ⟨g, 0, none⟩) len cap) (srtF (nuL zs) L) ∧ w.grownBy w' (some g) by
    have e1 : decide ((20 : Int) ≤ (len : Int)) = false := by simp; omega
    have e2 : decide ((20 : Int) < (len : Int)) = false := by simp; omega
    have e3 : ¬ 20 ≤ len := by omega
    have e4 : ¬ 20 < len := by omega
    go_enter Tryd.func134, Tryd.ntmps134
    go_wp2
    refine wp_loop_rounds 1 ?_
    rw [rounds_succ]
    go_wp2_with fail
    refine (HC.out).mono ?_
    rintro e w1 ⟨rfl, ho, hg⟩
    have HO := Lib.hid ho
    have HG := Lib.hid hg
    clear ho hg
    go_wp2
    refine wp_loop_rounds 1 ?_
    rw [rounds_succ]
    go_wp2
    go_end0
    exact ⟨rfl, HO.out, HG.out⟩)
  go_enter Tryd.func127, Tryd.ntmps127
  go_wp2_with fail
  refine (HST.out).mono ?_
  rintro e w1 ⟨rfl, ho, hg⟩
  have HO := Lib.hid ho
  have HG := Lib.hid hg
  clear ho hg
  go_wp2
  go_end0
  exact ⟨rfl, HO.out, HG.out⟩
theorem plL_in (p : Nat → Bool) (k : Nat) : ∀ y ∈ plL p k, ∃ j : Nat, j < k ∧ y = (j : Int) := by
  intro y hy
  simp only [plL, List.mem_map, List.mem_filter, List.mem_range] at hy
  obtain ⟨j, ⟨h1, _⟩, rfl⟩ := hy
  exact ⟨j, h1, rfl⟩
theorem OwnI.slc {w : World} {base : Nat} {v : Value} {L : List Int} (h : OwnI w base v L) : ∃ ao cap, v = .slice ao L.length cap := by
  obtain ⟨ao, cap, e, _⟩ := own_sliceI h
  exact ⟨ao, cap, e⟩
set_option maxRecDepth 100000 in
set_option maxHeartbeats 8000000 in
theorem ofl_impl (E : ErrA) (ao : Option Addr) (n c : Nat) (zs : List Lf) (fl : ByteArray) (w : World) (hn : n ≤ 16) (hv : LfsV w ao n zs) (he : Errs w E) :
    Calls Tryd.prog 106 #[.slice ao n c, .string fl] w fun e w' => ((flL zs fl n).length = 0 → e = .returned (.tuple #[.slice none 0 0, esV E.n])) ∧ (¬ (flL zs fl n).length = 0 → ∃ v, e = .returned (.tuple #[v, .nilIface]) ∧ OwnI w' w.heap.size v (flL zs fl n)) ∧ Below w.heap.size w w' := by
  have hA := two_allocs (w := w) (.cells #[.slice ao n c] 101) (.cells #[.string fl] 9)
  have hx := (Below.heap_alloc (w.alloc (.cells #[.slice ao n c] 101)) (.cells #[.string fl] 9) w.heap.size (by simp)).trans (World.alloc_heap_new w (.cells #[.slice ao n c] 101))
  have hp := World.alloc_heap_new (w.alloc (.cells #[.slice ao n c] 101)) (.cells #[.string fl] 9)
  rw [show (w.alloc (.cells #[.slice ao n c] 101)).heap.size = w.heap.size + 1 by simp] at hp
  have HA := Lib.hid hA
  have HX := Lib.hid hx
  have HP := Lib.hid hp
  have HE := Lib.hid (he.below hA)
  have HV := Lib.hid (hv.below hA)
  have HFL := Lib.hid (show flL zs fl n = srtF (nuL zs) (plL (flP zs fl) n) from rfl)
  have HLL := Lib.hid (show (flL zs fl n).length = (plL (flP zs fl) n).length by rw [HFL.out, srtF_len])
  have HL16 := Lib.hid (plL_len (flP zs fl) n)
  have HIN := Lib.hid (plL_in (flP zs fl) n)
  clear hv he hA hx hp
  rw [HLL.out]
  obtain ⟨L, hL⟩ : ∃ L, plL (flP zs fl) n = L := ⟨_, rfl⟩
  rw [hL] at HFL HL16 HIN ⊢
  rw [HFL.out]
  have HPL := Lib.hid hL
  clear hL
  unfold esV
  go_enter Tryd.func106, Tryd.ntmps106
  go_wp2_with fail
  refine (where_ofFlitch_1 _ (flP zs fl) ao n c zs _ hn HV.out (fun j v w' hj hb hl => by
    have hx3 := (hb.block _ (blk_lt HP.out)).trans HP.out
    exact clo_fl v _ (w.heap.size + 1) fl w' hl (blk_lt hx3) (cell_of_arr hx3 (j := 0) rfl).1)).mono ?_
  rintro e w1 ⟨v, rfl, ho, g1⟩
  rw [HPL.out] at ho
  have HO := Lib.hid ho
  have HG := Lib.hid (bseq HA.out g1)
  have HE1 := Lib.hid (HE.out.below g1)
  have HB1 := Lib.hid g1
  by_cases h0 : L.length = 0
  · obtain ⟨ao2, cap2, rfl⟩ := ho.slc
    have h0i : ((L.length : Int) == 0) = true := by rw [beq_iff_eq]; omega
    have HZ := Lib.hid h0
    clear ho g1 h0
    go_wp2
    have c0 := HE1.out.N.cell
    have l0 := HE1.out.N.lt
    refine wp_region_below (by kernel_rfl) (by kernel_rfl) ?_
    repeat (first | (refine wq_val ?_ ?_; (focus (go_simp; done)); apply Exists.intro; refine ⟨fun w1 hw1 => ?_, ?_⟩; (obtain ⟨hc, hf⟩ := bcell hw1; clear hw1; go_simp; (first | done | with_reducible rfl | (with_reducible exact eql2 _ _ _) | (with_reducible exact neq2 _ _ _))); (try simp only [Act.put, List.setIfInBounds_toArray, List.set_cons_zero, List.set_cons_succ])) | (refine wq_skip ?_ ?_; (focus (go_simp; (first | done | (simp [undef]; done)))); (try simp only [Act.put, List.setIfInBounds_toArray, List.set_cons_zero, List.set_cons_succ])))
    refine wq_nil ?_
    intro w2 hb2
    have HB2 := Lib.hid (bseq HG.out hb2)
    clear hb2
    go_wp2
    go_ret2
    exact ⟨fun _ => rfl, fun h => absurd HZ.out h, HB2.out⟩
  · obtain ⟨g, cap, rfl⟩ := ho.some (by omega)
    have h0i : ((L.length : Int) == 0) = false := by rw [beq_eq_false_iff_ne]; omega
    have HZ := Lib.hid h0
    obtain ⟨m, hm⟩ : ∃ m, n = m + 1 := by
      have := HL16.out
      exact ⟨n - 1, by omega⟩
    subst hm
    have HSC := Lib.hid (stable_own w.heap.size g cap ((w.alloc (.cells #[.slice ao (m + 1) c] 101)).alloc (.cells #[.string fl] 9)).heap.size m ao c zs L w1 _ HIN.out (by have := HL16.out; omega) (by omega) ho HV.out HX.out g1 (Nat.le_refl _))
    have HGE := Lib.hid (World.ownsRow.lt ho g rfl).1
    obtain ⟨len, hlen⟩ : ∃ l, L.length = l := ⟨_, rfl⟩
    rw [hlen] at HSC h0i
    have HLEN := Lib.hid hlen
    rw [hlen]
    clear ho g1 h0 hlen
    go_wp2_with fail
    refine (HSC.out).mono ?_
    rintro e w2 ⟨rfl, ho2, hg2⟩
    have HO2 := Lib.hid (own_lower ho2 HA.out.size)
    have HB2 := Lib.hid (HG.out.grown hg2 HG.out.size (fun k hk => by cases hk; exact Nat.le_trans HA.out.size HGE.out))
    clear ho2 hg2
    go_wp2
    go_ret2
    exact ⟨fun h => absurd h HZ.out, fun _ => ⟨_, rfl, HO2.out⟩, HB2.out⟩
set_option maxRecDepth 100000 in
set_option maxHeartbeats 4000000 in
theorem ft_spec (ao : Option Addr) (n c : Nat) (zs : List Lf) (fl : ByteArray) (w : World) (hn : n ≤ 1048576) (hv : LfsV w ao n zs) :
    Calls Tryd.prog 73 #[.slice ao n c, .string fl] w (NewCI (ftR zs fl).1 (ftR zs fl).2 w) := by
  unfold NewCI
  have HV := Lib.hid hv
  have HZ := Lib.hid hv.1
  clear hv
  cases hB : lfsB zs with
  | false =>
    have HR := Lib.hid (show ftR zs fl = ([], 1) by unfold ftR; rw [hB]; rfl)
    rw [HR.out]
    go_enter Tryd.func73, Tryd.ntmps73
    go_wp2_with fail
    refine (lfs_spec ao n c zs _ hn HV.out).mono ?_
    rintro e w1 ⟨rfl, g1⟩
    have HG := Lib.hid g1
    clear g1
    rw [hB]
    go_wp2
    go_ret2
    exact ⟨_, rfl, World.ownsRow_nil _ _ _ _, HG.out⟩
  | true =>
    have hn16 : n ≤ 16 := by have := (lfsB_ok hB).1; have := HZ.out; omega
    by_cases h0 : (flL zs fl n).length = 0
    · have HR := Lib.hid (show ftR zs fl = ([], 3) by unfold ftR; rw [hB, if_pos rfl, ← HZ.out, if_pos h0])
      have h0i : (((flL zs fl n).length : Int) == 0) = true := by rw [beq_iff_eq]; omega
      obtain ⟨len, hlen⟩ : ∃ l, (flL zs fl n).length = l := ⟨_, rfl⟩
      rw [hlen] at h0i
      have HLEN := Lib.hid hlen
      rw [HR.out]
      clear h0 hlen
      go_enter Tryd.func73, Tryd.ntmps73
      go_wp2_with fail
      refine (lfs_spec ao n c zs _ hn HV.out).mono ?_
      rintro e w1 ⟨rfl, g1⟩
      have HG := Lib.hid g1
      have HV1 := Lib.hid (HV.out.below g1)
      clear g1
      rw [hB]
      go_wp2_with fail
      refine (flt_spec ao n c zs fl _ hn16 HV1.out).mono ?_
      rintro e w2 ⟨v, rfl, ho, ⟨g, cap, rfl⟩, g2⟩
      have HG2 := Lib.hid (bseq HG.out g2)
      rw [HLEN.out]
      clear g2 ho
      go_wp2
      go_ret2
      exact ⟨_, rfl, World.ownsRow_nil _ _ _ _, HG2.out⟩
    · have HR := Lib.hid (show ftR zs fl = (flL zs fl n, 0) by unfold ftR; rw [hB, if_pos rfl, ← HZ.out, if_neg h0])
      have h0i : (((flL zs fl n).length : Int) == 0) = false := by rw [beq_eq_false_iff_ne]; omega
      obtain ⟨len, hlen⟩ : ∃ l, (flL zs fl n).length = l := ⟨_, rfl⟩
      rw [hlen] at h0i
      have HLEN := Lib.hid hlen
      rw [HR.out]
      clear h0 hlen
      go_enter Tryd.func73, Tryd.ntmps73
      go_wp2_with fail
      refine (lfs_spec ao n c zs _ hn HV.out).mono ?_
      rintro e w1 ⟨rfl, g1⟩
      have HG := Lib.hid g1
      have HV1 := Lib.hid (HV.out.below g1)
      clear g1
      rw [hB]
      go_wp2_with fail
      refine (flt_spec ao n c zs fl _ hn16 HV1.out).mono ?_
      rintro e w2 ⟨v, rfl, ho, ⟨g, cap, rfl⟩, g2⟩
      have HG2 := Lib.hid (bseq HG.out g2)
      have HO := Lib.hid (own_lower ho HG.out.size)
      rw [HLEN.out] at HO ⊢
      clear g2 ho
      go_wp2
      go_ret2
      exact ⟨_, rfl, by rw [HLEN.out]; exact HO.out, HG2.out⟩
end Go.Proofs.YtcjpplijbdfgbaaDoor
