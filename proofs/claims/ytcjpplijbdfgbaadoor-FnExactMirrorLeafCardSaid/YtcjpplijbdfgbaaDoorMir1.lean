/- A leaf turned over: spec. -/
import Derived.Test.YtcjpplijbdfgbaaDoorMat4
import Derived.BigRegion
namespace Go.Proofs.YtcjpplijbdfgbaaDoor
open Seq2 Go.ChangeShapes Go.WideShapes Go.ChangeAt Go.RowKit
set_option linter.unusedVariables false
set_option linter.unusedSimpArgs false

def mdM (z : Lf) (k : Nat) : List Bx := (z.df.take k).map (mirB z.wd)
theorem mdM_succ {z : Lf} {k : Nat} (hk : k < z.df.length) : mdM z (k + 1) = mdM z k ++ [mirB z.wd (z.df.getD k bx0)] := by
  unfold mdM
  have e : z.df.getD k bx0 = z.df[k] := by simp [hk]
  rw [e, List.take_succ_eq_append_getElem hk, List.map_append]
  rfl
theorem mdM_len {z : Lf} {k : Nat} (hk : k ≤ z.df.length) : (mdM z k).length = k := by simp [mdM]; omega
theorem mdM_all (z : Lf) : mdM z z.df.length = (mirZ z).df := by simp [mdM, mirZ]
/-- The world behind the first three blocks of spec.l10Mirror. -/
theorem mir_start (w : World) (z : Lf) : ∃ W4 : World, W4 = (((w.alloc (.cells #[.string ⟨#[]⟩, .string ⟨#[]⟩, .int .i64 0, .string ⟨#[]⟩, .int .i64 0, .int .i64 0, .int .i64 0, .int .i64 0, .slice none 0 0] 33)).alloc (.cells #[.string z.id, .string z.fl, .int .i64 z.nu, .string z.ve.1, .int .i64 z.ve.2.1, .int .i64 z.ve.2.2, .int .i64 z.wd, .int .i64 z.ln, .slice (some ⟨w.heap.size + 1 + 1, 0, none⟩) 0 0] 33)).alloc (.cells #[] 37)) ∧
    W4.heap[w.heap.size]? = some (.cells #[.string ⟨#[]⟩, .string ⟨#[]⟩, .int .i64 0, .string ⟨#[]⟩, .int .i64 0, .int .i64 0, .int .i64 0, .int .i64 0, .slice none 0 0] 33 (0, 0)) ∧ W4.heap[w.heap.size + 1]? = some (.cells #[.string z.id, .string z.fl, .int .i64 z.nu, .string z.ve.1, .int .i64 z.ve.2.1, .int .i64 z.ve.2.2, .int .i64 z.wd, .int .i64 z.ln, .slice (some ⟨w.heap.size + 1 + 1, 0, none⟩) 0 0] 33 (0, 0)) ∧
    OwnBx W4 (w.heap.size + 1 + 1) (.slice (some ⟨w.heap.size + 1 + 1, 0, none⟩) 0 0) [] ∧ Below w.heap.size w W4 := by
  refine ⟨_, rfl, ?_, ?_, ?_, ?_⟩
  · exact (Below.heap_alloc _ _ w.heap.size (by simp; omega)).trans ((Below.heap_alloc _ _ w.heap.size (by simp)).trans (World.alloc_heap_new w _))
  · have h2 := World.alloc_heap_new (w.alloc (.cells #[.string ⟨#[]⟩, .string ⟨#[]⟩, .int .i64 0, .string ⟨#[]⟩, .int .i64 0, .int .i64 0, .int .i64 0, .int .i64 0, .slice none 0 0] 33)) (.cells #[.string z.id, .string z.fl, .int .i64 z.nu, .string z.ve.1, .int .i64 z.ve.2.1, .int .i64 z.ve.2.2, .int .i64 z.wd, .int .i64 z.ln, .slice (some ⟨w.heap.size + 1 + 1, 0, none⟩) 0 0] 33)
    rw [show (w.alloc (.cells #[.string ⟨#[]⟩, .string ⟨#[]⟩, .int .i64 0, .string ⟨#[]⟩, .int .i64 0, .int .i64 0, .int .i64 0, .int .i64 0, .slice none 0 0] 33)).heap.size = w.heap.size + 1 by simp] at h2
    exact (Below.heap_alloc _ (.cells #[] 37) (w.heap.size + 1) (by simp)).trans h2
  · have o1 := World.ownsRow_made ((w.alloc (.cells #[.string ⟨#[]⟩, .string ⟨#[]⟩, .int .i64 0, .string ⟨#[]⟩, .int .i64 0, .int .i64 0, .int .i64 0, .int .i64 0, .slice none 0 0] 33)).alloc (.cells #[.string z.id, .string z.fl, .int .i64 z.nu, .string z.ve.1, .int .i64 z.ve.2.1, .int .i64 z.ve.2.2, .int .i64 z.wd, .int .i64 z.ln, .slice (some ⟨w.heap.size + 1 + 1, 0, none⟩) 0 0] 33)) (e := 37) (base := w.heap.size + 1 + 1) (size := 4) #[] 0 (by simp) (by unfold maxLen; omega) rfl
    rw [show ((w.alloc (.cells #[.string ⟨#[]⟩, .string ⟨#[]⟩, .int .i64 0, .string ⟨#[]⟩, .int .i64 0, .int .i64 0, .int .i64 0, .int .i64 0, .slice none 0 0] 33)).alloc (.cells #[.string z.id, .string z.fl, .int .i64 z.nu, .string z.ve.1, .int .i64 z.ve.2.1, .int .i64 z.ve.2.2, .int .i64 z.wd, .int .i64 z.ln, .slice (some ⟨w.heap.size + 1 + 1, 0, none⟩) 0 0] 33)).heap.size = w.heap.size + 1 + 1 by simp] at o1
    exact o1
  · exact three_allocs _ _ _
set_option maxRecDepth 100000 in
set_option maxHeartbeats 16000000 in
theorem mir_spec (p : Nat) (z : Lf) (ao : Option Addr) (n c : Nat) (w : World) (hB : lfB z = true) (hd : BxV w ao n z.df) (hp : w.heap[p]? = some (.cells #[.string z.id, .string z.fl, .int .i64 z.nu, .string z.ve.1, .int .i64 z.ve.2.1, .int .i64 z.ve.2.2, .int .i64 z.wd, .int .i64 z.ln, .slice ao n c] 33 (0, 0))) :
    Calls Tryd.prog 62 #[.pointer (some ⟨p, 0, none⟩)] w fun e w' => ∃ (ao2 : Option Addr) (nn cc : Nat), e = .returned (lfW (mirZ z) (.slice ao2 nn cc)) ∧ OwnBx w' w.heap.size (.slice ao2 nn cc) (mirZ z).df ∧ Below w.heap.size w w' := by
  obtain ⟨hW, _, h6, hdf⟩ := lfB_dfz hB
  have hgr := (lfN_of hB).gr
  have HD := Lib.hid hd
  have HNZ := Lib.hid hd.1
  have HP := Lib.hid hp
  have HWL := Lib.hid hW
  have HDF := Lib.hid hdf
  have HG0 := Lib.hid hgr
  have hn6 : n ≤ 6 := by have := HNZ.out; omega
  have HSC := Lib.hid (fun k (hk : k < z.df.length) => mdM_succ hk)
  have HLN := Lib.hid (fun k (hk : k ≤ z.df.length) => mdM_len hk)
  have HML := Lib.hid (mdM_all z)
  have HM0 := Lib.hid (show mdM z 0 = [] by simp [mdM])
  obtain ⟨i0, hi, hz0, hz1', hz2'⟩ := info_parts infoBx
  obtain ⟨W4, hW4, r0, q0, o0, b0⟩ := mir_start w z
  have HR0 := Lib.hid r0
  have HQ0 := Lib.hid q0
  have HO0 := Lib.hid o0
  have HB0 := Lib.hid b0
  clear hB hd hW h6 hdf hgr r0 q0 o0 b0
  obtain ⟨hzl, c0, f0, c1, f1, c2, f2, c3, f3, c4, f4, c5, f5, c6, f6, c7, f7, c8, f8⟩ := cells9_of hp
  clear hp
  have HW4 := Lib.hid hW4
  clear hW4
  unfold lfW
  go_enter Tryd.func62, Tryd.ntmps62
  go_wp2
  rw [← HW4.out]
  clear hzl c0 f0 c1 f1 c2 f2 c3 f3 c4 f4 c5 f5 c6 f6 c7 f7 c8 f8
  go_loopw [4, 5] (fun iv u5 wr => ∃ k : Nat, k ≤ n ∧ iv = .int .i64 k ∧ Hid (wr.heap[w.heap.size]? = some (.cells #[.string ⟨#[]⟩, .string ⟨#[]⟩, .int .i64 0, .string ⟨#[]⟩, .int .i64 0, .int .i64 0, .int .i64 0, .int .i64 0, .slice none 0 0] 33 (0, 0))) ∧ Hid (∃ g cp, wr.heap[w.heap.size + 1]? = some (.cells #[.string z.id, .string z.fl, .int .i64 z.nu, .string z.ve.1, .int .i64 z.ve.2.1, .int .i64 z.ve.2.2, .int .i64 z.wd, .int .i64 z.ln, .slice (some ⟨g, 0, none⟩) k cp] 33 (0, 0)) ∧ OwnBx wr (w.heap.size + 1 + 1) (.slice (some ⟨g, 0, none⟩) k cp) (mdM z k)) ∧ Hid (Below w.heap.size w wr)) (fun i _ _ => n - (intOf i).toNat)
  case atStart => exact ⟨0, by omega, rfl, HR0, Lib.hid ⟨_, _, HQ0.out, by rw [HM0.out]; exact HO0.out⟩, HB0⟩
  case round =>
    obtain ⟨k, hk, rfl, hr, hq, hb⟩ := hrel
    obtain ⟨g, cp, hqr, hown⟩ := hq.out
    have HPR := Lib.hid ((hb.out.block _ (blk_lt HP.out)).trans HP.out)
    obtain ⟨hzl, c0, f0, c1, f1, c2, f2, c3, f3, c4, f4, c5, f5, c6, f6, c7, f7, c8, f8⟩ := cells9_of HPR.out
    by_cases hlt : k < n
    · obtain ⟨bb, rfl, hbx⟩ := (HD.out.below hb.out).2.resolve_left (by omega)
      have hkz : k < z.df.length := by have := HNZ.out; omega
      obtain ⟨hbw, v0, v1, v2, v3⟩ := hbx k hlt
      have hbk := boxW_iff.1 (HDF.out k hkz)
      have HY := Lib.hid (HSC.out k hkz)
      have HLK := Lib.hid (HLN.out k (by omega))
      obtain ⟨d, hdd⟩ : ∃ d, z.df.getD k bx0 = d := ⟨_, rfl⟩
      rw [hdd] at v0 v1 v2 v3 hbk HY
      clear hbx hdd
      obtain ⟨x', y', a', b'⟩ := d
      simp only at v0 v1 v2 v3 hbk
      have hwl := HWL.out
      have i1 : IntKind.i64.wrap (z.wd - x') = z.wd - x' := IntWalk.i64_in _ (by omega)
      have i2 : IntKind.i64.wrap (z.wd - x' - a') = z.wd - x' - a' := IntWalk.i64_in _ (by omega)
      have HMB := Lib.hid (show (z.wd - x' - a', y', a', b') = mirB z.wd (x', y', a', b') by unfold mirB; simp only [Prod.mk.injEq, and_true]; omega)
      have HBD := Lib.hid (show Below wr.heap.size wr (wr.alloc (.cells #[.int .i64 (z.wd - x' - a'), .int .i64 y', .int .i64 a', .int .i64 b'] 37)).drew from bel_drew (one_alloc _))
      have HBC := Lib.hid (show (wr.alloc (.cells #[.int .i64 (z.wd - x' - a'), .int .i64 y', .int .i64 a', .int .i64 b'] 37)).drew.heap[wr.heap.size]? = some (.cells #[.int .i64 (z.wd - x' - a'), .int .i64 y', .int .i64 a', .int .i64 b'] 37 (0, 0)) from heap_drew (World.alloc_heap_new wr _))
      clear hbk
      go_wp2
      go_region
      generalize (wr.alloc (.cells #[.int .i64 (z.wd - x' - a'), .int .i64 y', .int .i64 a', .int .i64 b'] 37)).drew = w3 at *
      have HR3 := Lib.hid ((HBD.out.block _ (blk_lt hr.out)).trans hr.out)
      have HQ3 := Lib.hid ((HBD.out.block _ (blk_lt hqr)).trans hqr)
      have hown3 := OwnBx.below hown HBD.out
      have HB3 := Lib.hid (bseq hb.out HBD.out)
      have hbz := blk_lt HBC.out
      obtain ⟨e0, y0, e1, y1, e2, y2, e3, y3⟩ := cells4_of HBC.out
      clear hzl c0 f0 c1 f1 c2 f2 c3 f3 c4 f4 c5 f5 c6 f6 c7 f7 c8 f8 v0 v1 v2 v3 hbw
      obtain ⟨hqw, _, _, _, _, _, _, _, _, _, _, _, _, _, _, _, _, r8, g8⟩ := cells9_of HQ3.out
      unfold OwnBx at hown3
      rw [HLK.out] at hown3
      have hle : w.heap.size + 1 + 1 ≤ w3.heap.size := hqw
      clear hqr hown
      go_wp2_with (at_builtin; refine wpList_appN rfl _ _ 31 rfl (w.heap.size + 1 + 1) 37 i0 _ 4 32 Tryd.underlying31 hi hz0 hz1' hz2' rfl (by omega) _ _ _ rfl hown3 _ rfl (by first | rfl | simp) rfl rfl (by omega) (by omega) hle ?_)
      intro v' w4 hown' hgrow
      obtain ⟨gg, cc, rfl⟩ : ∃ gg cc, v' = .slice (some ⟨gg, 0, none⟩) (k + 1) cc := by
        rcases hown' with ⟨_, ⟨_, h⟩ | ⟨g', c', _, h, _⟩⟩
        · omega
        · exact ⟨g', c', h⟩
      have HQ6 := own_other hown3 HQ3.out (Nat.lt_succ_self _) hgrow
      have HR6 := own_other hown3 HR3.out (by omega) hgrow
      obtain ⟨hqw6, _, _, _, _, _, _, _, _, _, _, _, _, _, _, _, _, s8, t8⟩ := cells9_of HQ6
      have HQ7 := heap_setCell_same _ (w.heap.size + 1) 8 _ _ (.slice (some ⟨gg, 0, none⟩) (k + 1) cc) HQ6
      have HR7 := Lib.hid ((Below.heap_setCell w4 ⟨w.heap.size + 1, 8, none⟩ (.slice (some ⟨gg, 0, none⟩) (k + 1) cc) w.heap.size (by simp)).trans HR6)
      have HO7 := OwnBx.app (d := mirB z.wd (x', y', a', b')) (L := mdM z k) (by rw [HLK.out]) (by rw [← HMB.out]; exact hown')
      rw [← HY.out] at HO7
      have HO8 := keep_set HO7 ⟨w.heap.size + 1, 8, none⟩ (.slice (some ⟨gg, 0, none⟩) (k + 1) cc) (Nat.lt_succ_self _)
      have HI := Lib.hid (show ∃ g cp, (w4.setCell ⟨w.heap.size + 1, 8, none⟩ (.slice (some ⟨gg, 0, none⟩) (k + 1) cc)).heap[w.heap.size + 1]? = some (.cells #[.string z.id, .string z.fl, .int .i64 z.nu, .string z.ve.1, .int .i64 z.ve.2.1, .int .i64 z.ve.2.2, .int .i64 z.wd, .int .i64 z.ln, .slice (some ⟨g, 0, none⟩) (k + 1) cp] 33 (0, 0)) ∧ OwnBx (w4.setCell ⟨w.heap.size + 1, 8, none⟩ (.slice (some ⟨gg, 0, none⟩) (k + 1) cc)) (w.heap.size + 1 + 1) (.slice (some ⟨g, 0, none⟩) (k + 1) cp) (mdM z (k + 1)) from ⟨gg, cc, HQ7.trans (by simp), HO8⟩)
      have HB6 := Lib.hid ((below_app HB3.out (Nat.le_succ_of_le (Nat.le_succ _)) HB3.out.size hown3 hgrow).setCell (p := ⟨w.heap.size + 1, 8, none⟩) (Nat.le_succ _) (.slice (some ⟨gg, 0, none⟩) (k + 1) cc))
      clear hown' hgrow HQ6 HQ7 HO7 HO8 hown3 e0 e1 e2 e3 y0 y1 y2 y3 hbz r8 g8 hqw
      go_wp2
      go_roundw
      case rel => exact ⟨k + 1, by omega, by go_num, HR7, HI, HB6⟩
      case measure => simp [intOf]; omega
    · obtain rfl : k = n := by omega
      have hgr := HG0.out
      have i1 : IntKind.i64.wrap (180 - z.ve.2.2) = 180 - z.ve.2.2 := IntWalk.i64_in _ (by omega)
      have i2 : (180 - z.ve.2.2).tmod 180 = mirG z.ve.2.2 := Int.tmod_eq_emod_of_nonneg (by omega)
      have i3 : IntKind.i64.wrap (mirG z.ve.2.2) = mirG z.ve.2.2 := IntWalk.i64_in _ (by have := mirG_rng hgr.1 hgr.2; omega)
      have HMZ := Lib.hid (show mdM z k = (mirZ z).df by rw [← HML.out, HNZ.out])
      have hpq : ¬ p = w.heap.size + 1 := by have := blk_lt HP.out; omega
      have hqs := heap_setCell_same _ (w.heap.size + 1) 5 _ _ (.int .i64 (mirG z.ve.2.2)) hqr
      have HQ5 := Lib.hid (show (wr.setCell ⟨w.heap.size + 1, 5, none⟩ (.int .i64 (mirG z.ve.2.2))).heap[w.heap.size + 1]? = some (.cells #[.string (mirZ z).id, .string (mirZ z).fl, .int .i64 (mirZ z).nu, .string (mirZ z).ve.1, .int .i64 (mirZ z).ve.2.1, .int .i64 (mirZ z).ve.2.2, .int .i64 (mirZ z).wd, .int .i64 (mirZ z).ln, .slice (some ⟨g, 0, none⟩) k cp] 33 (0, 0)) from hqs.trans (by simp [mirZ]))
      have HR5 := Lib.hid ((Below.heap_setCell wr ⟨w.heap.size + 1, 5, none⟩ (.int .i64 (mirG z.ve.2.2)) w.heap.size (by simp)).trans hr.out)
      have HB5 := Lib.hid (hb.out.setCell (p := ⟨w.heap.size + 1, 5, none⟩) (Nat.le_succ _) (.int .i64 (mirG z.ve.2.2)))
      have HO5 := Lib.hid (keep_set hown ⟨w.heap.size + 1, 5, none⟩ (.int .i64 (mirG z.ve.2.2)) (Nat.lt_succ_self _))
      obtain ⟨hqz, d0, q0, d1, q1, d2, q2, d3, q3, d4, q4, d5, q5, d6, q6, d7, q7, d8, q8⟩ := cells9_of hqr
      obtain ⟨hrz, k0, l0, k1, l1, k2, l2, k3, l3, k4, l4, k5, l5, k6, l6, k7, l7, k8, l8⟩ := cells9_of hr.out
      clear hgr hqs hown
      go_wp2
      have hq := st9 (x0 := .string (mirZ z).id) (x1 := .string (mirZ z).fl) (x2 := .int .i64 (mirZ z).nu) (x3 := .string (mirZ z).ve.1) (x4 := .int .i64 (mirZ z).ve.2.1) (x5 := .int .i64 (mirZ z).ve.2.2) (x6 := .int .i64 (mirZ z).wd) (x7 := .int .i64 (mirZ z).ln) (x8 := .slice (some ⟨g, 0, none⟩) k cp) HR5.out
      have HBL := Lib.hid (bel9 (x0 := .string (mirZ z).id) (x1 := .string (mirZ z).fl) (x2 := .int .i64 (mirZ z).nu) (x3 := .string (mirZ z).ve.1) (x4 := .int .i64 (mirZ z).ve.2.1) (x5 := .int .i64 (mirZ z).ve.2.2) (x6 := .int .i64 (mirZ z).wd) (x7 := .int .i64 (mirZ z).ln) (x8 := .slice (some ⟨g, 0, none⟩) k cp) (p := w.heap.size) HB5.out (Nat.le_refl _))
      have HOF := Lib.hid (own_lower (keep9 (x0 := .string (mirZ z).id) (x1 := .string (mirZ z).fl) (x2 := .int .i64 (mirZ z).nu) (x3 := .string (mirZ z).ve.1) (x4 := .int .i64 (mirZ z).ve.2.1) (x5 := .int .i64 (mirZ z).ve.2.2) (x6 := .int .i64 (mirZ z).wd) (x7 := .int .i64 (mirZ z).ln) (x8 := .slice (some ⟨g, 0, none⟩) k cp) (p := w.heap.size) HO5.out (by omega)) (by omega : w.heap.size ≤ _))
      rw [HMZ.out] at HOF
      clear q0 q1 q2 q3 q4 q5 q6 q7 q8
      obtain ⟨_, q0, _, q1, _, q2, _, q3, _, q4, _, q5, _, q6, _, q7, _, q8, _⟩ := cells9_of hq
      refine bodyPost_ret (v := .agg #[.string (mirZ z).id, .string (mirZ z).fl, .int .i64 (mirZ z).nu, .string (mirZ z).ve.1, .int .i64 (mirZ z).ve.2.1, .int .i64 (mirZ z).ve.2.2, .int .i64 (mirZ z).wd, .int .i64 (mirZ z).ln, .slice (some ⟨g, 0, none⟩) k cp]) ?_ rfl ⟨_, _, _, rfl, HOF.out, HBL.out⟩
      clear hq hqr c0 f0 c1 f1 c2 f2 c3 f3 c4 f4 c5 f5 c6 f6 c7 f7 c8 f8 d0 d1 d2 d3 d4 d5 d6 d7 d8 k0 l0 k1 l1 k2 l2 k3 l3 k4 l4 k5 l5 k6 l6 k7 l7 k8 l8
      unfold mirZ at q0 q1 q2 q3 q4 q5 q6 q7 q8 ⊢
      generalize World.setCell _ _ _ = W' at *
      simp [results, Tryd.results62, go_sem, q0, q1, q2, q3, q4, q5, q6, q7, q8]
end Go.Proofs.YtcjpplijbdfgbaaDoor
