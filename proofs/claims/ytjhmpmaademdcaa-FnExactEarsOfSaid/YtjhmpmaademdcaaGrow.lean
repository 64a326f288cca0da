/- slices.Grow of nothing, slices.Concat of two slices of points: of impl's outlines. -/
import Derived.Test.YtjhmpmaademdcaaOwnP
import Derived.Test.YtjhmpmaademdcaaK3
import Derived.Lib.AppendZeros
import Derived.LoopN
namespace Go.Proofs.Ytjhmpmaademdcaa
open Go.ChangeShapes Go.WideShapes Go.ChangeAt Go.RowKit
set_option linter.unusedVariables false
set_option linter.unusedSimpArgs false

theorem _root_.Go.World.ownsRow.base_le {w : World} {b b' e n : Nat} {size : Nat} {v : Value} {xs : List Value} (h : w.ownsRow b' e size v n xs) (hb : b ≤ b') : w.ownsRow b e size v n xs :=
  ⟨h.1, h.2.imp id fun ⟨g, cap, cur, h1, h2, h3⟩ => ⟨g, cap, cur, h1, Nat.le_trans hb h2, h3⟩⟩
set_option maxRecDepth 100000 in
set_option maxHeartbeats 1000000 in
theorem grow_any (n : Nat) (w : World) (h1 : 1 ≤ n) (hn : n ≤ 1000) :
    Calls Try.prog 191 #[.slice none 0 0, .int .i64 n] w (NewPost [] w) := by
  obtain ⟨i0, hi, hz0, hz1, hz2⟩ := info_parts info_pt
  have hr := Lib.run_append_nil_zeros (P := Try.prog) w 81 3 81 30 i0 _ .i64 .i64 rfl rfl hi hz0 n (by omega) (by omega) (by omega) (by rw [hz2]; omega)
  go_enter Try.func191, Try.ntmps191
  go_wp2_with (at_builtin; refine Lib.wpList_append_run _ rfl _ _ _ _ rfl _ _ rfl rfl _ _ hr ?_)
  go_ret
  refine ⟨.slice (some ⟨w.heap.size, 0, none⟩) 0 (grownCap w n 0 30), rfl, ⟨rfl, Or.inr ⟨w.heap.size, _, _, rfl, Nat.le_refl _, World.alloc_heap_new _ _, Nat.zero_le _, grownCap_le_maxLen _ _ _ _ (by unfold maxLen; omega), ?_, rfl⟩⟩, ((Below.refl _ _).alloc (Nat.le_refl _) _).drew⟩
  have hge := grownCap_ge w n 0 30
  rw [Array.size_append, size_zeroCells, size_zeroCells]
  simp only [List.size_toArray, List.length_cons, List.length_nil]
  omega
set_option maxRecDepth 100000 in
set_option maxHeartbeats 4000000 in
theorem concat_rot (c b len cap k : Nat) (zs : List P2) (w : World) (hz : len = zs.length) (h1 : 1 ≤ len) (hl : len ≤ 1000) (hk : k < len) (hc : len ≤ cap) (hp : PtsAt w b zs) (hcw : c < w.heap.size)
    (c0 : w.cell? ⟨c, 0, none⟩ = some (.slice (some ⟨b, k * 2, none⟩) (len - k) (cap - k))) (c1 : w.cell? ⟨c, 1, none⟩ = some (.slice (some ⟨b, 0, none⟩) k cap)) :
    Calls Try.prog 158 #[.slice (some ⟨c, 0, none⟩) 2 2] w (NewPost (rotL zs k) w) := by
  have HZ := Lib.hid hz
  have HP := Lib.hid hp
  clear hz hp
  obtain ⟨i0, hi, hz0, hz1, hz2⟩ := info_parts info_pt
  have hs : ((len - k : Nat) : Int) + k = len := by omega
  go_enter Try.func158, Try.ntmps158
  go_wp2
  refine wp_loop_rounds 3 ?_
  rw [rounds_succ]
  go_wp2
  rw [rounds_succ]
  go_wp2
  rw [rounds_succ]
  go_wp2_with fail
  refine (grow_any len _ (by omega) hl).mono ?_
  rintro e w1 ⟨v, rfl, hv⟩
  have HB1 := Lib.hid hv.2
  have ho1 : w1.ownsRow w.heap.size 30 2 v 0 [] := hv.1
  have HO1 := Lib.hid ho1
  have HP1 := Lib.hid (HP.out.below hv.2 HP.out.1)
  obtain ⟨k1, q1⟩ := bcell hv.2
  have hn1 : (flatP ((zs.drop k).take (len - k))).length = (len - k) * 2 := by rw [flatP_len, List.length_take, List.length_drop, ← HZ.out]; omega
  have hn2 : (flatP ((zs.drop 0).take k)).length = k * 2 := by rw [flatP_len, List.length_take, List.length_drop, ← HZ.out]; omega
  clear hv ho1
  go_wp2
  refine wp_loop_rounds 3 ?_
  rw [rounds_succ]
  go_wp2_with (at_builtin; (refine wpList_append_own _ rfl _ _ 81 rfl w.heap.size 30 i0 _ 2 16 Try.underlying81 hi hz0 hz1 hz2 rfl (by omega) _ _ _ rfl HO1.out ⟨b, k * 2, none⟩ _ _ (flatP ((zs.drop k).take (len - k))) rfl hn1 (pts_cells HP1.out (by rw [← HZ.out]; omega)) flatP_one (by unfold maxLen; omega) (by omega) (HB1.out.size) ?_))
  intro v2 w2 hown2 hgr2 _
  have hb2 : Below w.heap.size w w2 := HB1.out.trans (grown_below hgr2 HB1.out.size (fun k h => (World.ownsRow.lt HO1.out k h).1))
  have HO2 := Lib.hid hown2
  have HB2 := Lib.hid hb2
  have HP2 := Lib.hid (HP.out.below hb2 HP.out.1)
  obtain ⟨k2, q2⟩ := bcell hb2
  clear hown2 hgr2 hb2 k1 q1
  go_wp2
  rw [rounds_succ]
  go_wp2_with (at_builtin; (refine wpList_append_own _ rfl _ _ 81 rfl w.heap.size 30 i0 _ 2 16 Try.underlying81 hi hz0 hz1 hz2 rfl (by omega) _ _ _ rfl HO2.out ⟨b, 0 * 2, none⟩ _ _ (flatP ((zs.drop 0).take k)) rfl hn2 (pts_cells HP2.out (by rw [← HZ.out]; omega)) flatP_one (by unfold maxLen; omega) (by omega) (HB2.out.size) ?_))
  intro v3 w3 hown3 hgr3 _
  have hb3 : Below w.heap.size w w3 := HB2.out.trans (grown_below hgr3 HB2.out.size (fun k h => (World.ownsRow.lt HO2.out k h).1))
  have HO3 := Lib.hid hown3
  have HB3 := Lib.hid hb3
  clear hown3 hgr3 hb3 k2 q2
  go_wp2
  rw [rounds_succ]
  go_wp2
  go_ret
  refine ⟨v3, rfl, ?_, HB3.out⟩
  have h := HO3.out
  have hlen : (rotL zs k).length = len - k + k := by rw [rotL_len zs k (by rw [← HZ.out]; omega), ← HZ.out]; omega
  rw [hlen, rotL_flat, ← HZ.out, List.drop_zero]
  exact h
set_option maxRecDepth 100000 in
set_option maxHeartbeats 1000000 in
theorem startingAt_any (b len cap k : Nat) (zs : List P2) (w : World) (hz : len = zs.length) (h1 : 1 ≤ len) (hl : len ≤ 1000) (hk : k < len) (hc : len ≤ cap) (hp : PtsAt w b zs) :
    Calls Try.prog 107 #[.slice (some ⟨b, 0, none⟩) len cap, .int .i64 k] w (NewPost (rotL zs k) w) := by
  have hbw := hp.1
  have HZ := Lib.hid hz
  have HP := Lib.hid hp
  clear hz hp
  have hck : ¬ cap = k := by omega
  have hck' : ¬ k = cap := by omega
  have hlk : ¬ len < k := by omega
  have hkl : k ≤ len := by omega
  have hkc : k ≤ cap := by omega
  have hcl : ¬ cap < k := by omega
  have hcl2 : ¬ cap < len := by omega
  go_enter Try.func107, Try.ntmps107
  go_wp2
  refine Seq2.wp_region_fl w [0, 1, 2, 3, 4, 5] [6, 7, 8] (by kernel_rfl) (by kernel_rfl) rfl (Below.refl _ _) (fun w1 hh hb1 => ?_)
  repeat (first | (refine Seq2.fl_row (by decide) ?_) | (refine Seq2.fl_skip (by kernel_rfl) (by kernel_rfl) ?_ ?_; (focus (go_simp; done)); (try simp only [Act.put, List.setIfInBounds_toArray, List.set_cons_zero, List.set_cons_succ])) | (refine Seq2.fl_val (by kernel_rfl) (by kernel_rfl) ?_ ?_; (focus (go_simp; done)); apply Exists.intro; refine ⟨fun w2 hw2 => ?_, ?_⟩; (focus (obtain ⟨hc, hf⟩ := bcell hw2; clear hw2; go_simp; (first | done | with_reducible rfl | (with_reducible exact eql2 _ _ _) | (with_reducible exact neq2 _ _ _)))); (try simp only [Act.put, List.setIfInBounds_toArray, List.set_cons_zero, List.set_cons_succ])))
  refine Seq2.fl_nil ?_
  refine ch_one (by kernel_rfl) rfl ?_
  gi_wp2
  have hc2 := cells2_of (World.alloc_heap_new w1 (.cells #[.slice (some ⟨b, k * 2, none⟩) (len - k) (cap - k), .slice (some ⟨b, 0, none⟩) k cap] 81))
  have hba := hb1.alloc hb1.size (.cells #[.slice (some ⟨b, k * 2, none⟩) (len - k) (cap - k), .slice (some ⟨b, 0, none⟩) k cap] 81)
  have hs1 : w1.heap.size = w.heap.size := by rw [hh]
  rw [hs1] at hc2
  refine ⟨hba, ?_⟩
  refine ch_one (by kernel_rfl) rfl ?_
  gi_wp2_with fail
  refine ⟨trivial, rfl, (callsIn_wide.2 (concat_rot _ b len cap k zs _ HZ.out h1 hl hk hc (HP.out.below hba hbw) (by simp; omega) hc2.1 hc2.2.2.1)).mono ?_⟩
  rintro e w2 ⟨v, rfl, hv1, hv2⟩
  have hb2 := hba.trans (hv2.mono (by simp; omega))
  have HV := Lib.hid (World.ownsRow.base_le hv1 (by simp; omega : w.heap.size ≤ _))
  have HB2 := Lib.hid hb2
  clear hc2 hba hv1 hv2 hb2
  gi_wp2
  refine ⟨HB2.out, ?_⟩
  refine ch_one (by kernel_rfl) rfl ?_
  gi_wp2
  refine ⟨HB2.out, ?_⟩
  refine ch_nil (by kernel_rfl) ?_
  go_wp2
  go_ret
  exact ⟨v, rfl, HV.out, HB2.out⟩
end Go.Proofs.Ytjhmpmaademdcaa
