/- MirrorLeaf: spec, impl. -/
import Derived.Test.YtcjpplijbdfgbaaDoorMir1
namespace Go.Proofs.YtcjpplijbdfgbaaDoor
open Seq2 Go.ChangeShapes Go.WideShapes Go.ChangeAt Go.RowKit
set_option linter.unusedVariables false
set_option linter.unusedSimpArgs false

def mlR (z : Lf) : Lf × Int := if lfB z then (mirZ z, 0) else (lf0, 1)
set_option maxRecDepth 100000 in
set_option maxHeartbeats 8000000 in
theorem ml_impl (v : Value) (z : Lf) (w : World) (hv : LfV w v z) (ht : TabAt w) : Calls Tryd.prog 20 #[v] w (NewLf (mlR z) w) := by
  unfold NewLf
  have HVV := Lib.hid hv
  obtain ⟨ao, n, c, rfl, _, _, _, _, _, _, _, hn, hd⟩ := hv.out
  have HA := Lib.hid (two_allocs (w := w) (.cells #[.string z.id, .string z.fl, .int .i64 z.nu, .string z.ve.1, .int .i64 z.ve.2.1, .int .i64 z.ve.2.2, .int .i64 z.wd, .int .i64 z.ln, .slice ao n c] 33) (.cells #[.string ⟨#[]⟩, .string ⟨#[]⟩, .int .i64 0, .string ⟨#[]⟩, .int .i64 0, .int .i64 0, .int .i64 0, .int .i64 0, .slice none 0 0] 33))
  have HX := Lib.hid (two_lf w z (.slice ao n c)).1
  have HP := Lib.hid (two_lf w z (.slice ao n c)).2
  have HT := Lib.hid (ht.below HA.out)
  have HD := Lib.hid (hd.below HA.out)
  clear hv hd ht
  cases hB : lfB z with
  | false =>
    have HR := Lib.hid (show mlR z = (lf0, 1) by unfold mlR; rw [hB]; rfl)
    rw [HR.out]
    go_enter Tryd.func20, Tryd.ntmps20
    go_wp2_with fail
    refine (validL_impl _ z _ (HVV.out.below HA.out) HT.out).mono ?_
    rintro e w1 ⟨rfl, g1⟩
    have HG := Lib.hid (bseq HA.out g1)
    have hk := (g1.block _ (blk_lt HP.out)).trans HP.out
    clear g1
    rw [hB]
    obtain ⟨hzl, c0, f0, c1, f1, c2, f2, c3, f3, c4, f4, c5, f5, c6, f6, c7, f7, c8, f8⟩ := cells9_of hk
    have hq := st9 (x0 := .string ⟨#[]⟩) (x1 := .string ⟨#[]⟩) (x2 := .int .i64 0) (x3 := .string ⟨#[]⟩) (x4 := .int .i64 0) (x5 := .int .i64 0) (x6 := .int .i64 0) (x7 := .int .i64 0) (x8 := .slice none 0 0) hk
    have HBL := Lib.hid (bel9 (x0 := .string ⟨#[]⟩) (x1 := .string ⟨#[]⟩) (x2 := .int .i64 0) (x3 := .string ⟨#[]⟩) (x4 := .int .i64 0) (x5 := .int .i64 0) (x6 := .int .i64 0) (x7 := .int .i64 0) (x8 := .slice none 0 0) (p := w.heap.size + 1) HG.out (by omega))
    go_wp2
    clear c0 f0 c1 f1 c2 f2 c3 f3 c4 f4 c5 f5 c6 f6 c7 f7 c8 f8
    obtain ⟨_, q0, _, q1, _, q2, _, q3, _, q4, _, q5, _, q6, _, q7, _, q8, _⟩ := cells9_of hq
    refine bodyPost_ret (v := .tuple #[lfW lf0 (.slice none 0 0), .int .i64 1]) ?_ rfl ⟨_, rfl, OwnBx.nil _ _, HBL.out⟩
    clear hq hk
    generalize World.setCell _ _ _ = W at *
    simp [results, Tryd.results20, go_sem, q0, q1, q2, q3, q4, q5, q6, q7, q8, lfW0]
  | true =>
    have HR := Lib.hid (show mlR z = (mirZ z, 0) by unfold mlR; rw [hB]; rfl)
    have HBB := Lib.hid hB
    rw [HR.out]
    unfold lfW
    go_enter Tryd.func20, Tryd.ntmps20
    go_wp2_with fail
    refine (validL_impl _ z _ (HVV.out.below HA.out) HT.out).mono ?_
    rintro e w1 ⟨rfl, g1⟩
    have HG := Lib.hid (bseq HA.out g1)
    have HX1 := Lib.hid ((g1.block _ (blk_lt HX.out)).trans HX.out)
    have HP1 := Lib.hid ((g1.block _ (blk_lt HP.out)).trans HP.out)
    have HC := Lib.hid (mirrored_impl z ao n c _ HBB.out (HD.out.below g1))
    clear g1
    unfold lfW at HC
    rw [hB]
    obtain ⟨hzl, c0, f0, c1, f1, c2, f2, c3, f3, c4, f4, c5, f5, c6, f6, c7, f7, c8, f8⟩ := cells9_of HX1.out
    go_wp2_with fail
    refine (HC.out).mono ?_
    rintro e w2 ⟨ao2, cc, rfl, ho, g2⟩
    have HG2 := Lib.hid (bseq HG.out g2)
    have hk := (g2.block _ (blk_lt HP1.out)).trans HP1.out
    have HO := Lib.hid (own_lower (keep9 (x0 := .string (mirZ z).id) (x1 := .string (mirZ z).fl) (x2 := .int .i64 (mirZ z).nu) (x3 := .string (mirZ z).ve.1) (x4 := .int .i64 (mirZ z).ve.2.1) (x5 := .int .i64 (mirZ z).ve.2.2) (x6 := .int .i64 (mirZ z).wd) (x7 := .int .i64 (mirZ z).ln) (x8 := .slice ao2 z.df.length cc) (p := w.heap.size + 1) ho (blk_lt HP1.out)) HG.out.size)
    clear g2 ho hzl c0 f0 c1 f1 c2 f2 c3 f3 c4 f4 c5 f5 c6 f6 c7 f7 c8 f8
    obtain ⟨hzl, c0, f0, c1, f1, c2, f2, c3, f3, c4, f4, c5, f5, c6, f6, c7, f7, c8, f8⟩ := cells9_of hk
    have hq := st9 (x0 := .string (mirZ z).id) (x1 := .string (mirZ z).fl) (x2 := .int .i64 (mirZ z).nu) (x3 := .string (mirZ z).ve.1) (x4 := .int .i64 (mirZ z).ve.2.1) (x5 := .int .i64 (mirZ z).ve.2.2) (x6 := .int .i64 (mirZ z).wd) (x7 := .int .i64 (mirZ z).ln) (x8 := .slice ao2 z.df.length cc) hk
    have HBL := Lib.hid (bel9 (x0 := .string (mirZ z).id) (x1 := .string (mirZ z).fl) (x2 := .int .i64 (mirZ z).nu) (x3 := .string (mirZ z).ve.1) (x4 := .int .i64 (mirZ z).ve.2.1) (x5 := .int .i64 (mirZ z).ve.2.2) (x6 := .int .i64 (mirZ z).wd) (x7 := .int .i64 (mirZ z).ln) (x8 := .slice ao2 z.df.length cc) (p := w.heap.size + 1) HG2.out (by omega))
    go_wp2
    clear c0 f0 c1 f1 c2 f2 c3 f3 c4 f4 c5 f5 c6 f6 c7 f7 c8 f8
    obtain ⟨_, q0, _, q1, _, q2, _, q3, _, q4, _, q5, _, q6, _, q7, _, q8, _⟩ := cells9_of hq
    refine bodyPost_ret (v := .tuple #[.agg #[.string (mirZ z).id, .string (mirZ z).fl, .int .i64 (mirZ z).nu, .string (mirZ z).ve.1, .int .i64 (mirZ z).ve.2.1, .int .i64 (mirZ z).ve.2.2, .int .i64 (mirZ z).wd, .int .i64 (mirZ z).ln, .slice ao2 z.df.length cc], .int .i64 0]) ?_ rfl ⟨_, rfl, HO.out, HBL.out⟩
    clear hq hk
    generalize World.setCell _ _ _ = W at *
    simp [results, Tryd.results20, go_sem, q0, q1, q2, q3, q4, q5, q6, q7, q8]
set_option maxRecDepth 100000 in
set_option maxHeartbeats 8000000 in
theorem ml_spec (v : Value) (z : Lf) (w : World) (hv : LfV w v z) : Calls Tryd.prog 19 #[v] w (NewLf (mlR z) w) := by
  unfold NewLf
  have HVV := Lib.hid hv
  obtain ⟨ao, n, c, rfl, _, _, _, _, _, _, _, hn, hd⟩ := hv.out
  have HA := Lib.hid (two_allocs (w := w) (.cells #[.string z.id, .string z.fl, .int .i64 z.nu, .string z.ve.1, .int .i64 z.ve.2.1, .int .i64 z.ve.2.2, .int .i64 z.wd, .int .i64 z.ln, .slice ao n c] 33) (.cells #[.string ⟨#[]⟩, .string ⟨#[]⟩, .int .i64 0, .string ⟨#[]⟩, .int .i64 0, .int .i64 0, .int .i64 0, .int .i64 0, .slice none 0 0] 33))
  have HX := Lib.hid (two_lf w z (.slice ao n c)).1
  have HP := Lib.hid (two_lf w z (.slice ao n c)).2
  have HD := Lib.hid (hd.below HA.out)
  clear hv hd
  cases hB : lfB z with
  | false =>
    have HR := Lib.hid (show mlR z = (lf0, 1) by unfold mlR; rw [hB]; rfl)
    rw [HR.out]
    go_enter Tryd.func19, Tryd.ntmps19
    go_wp2_with fail
    refine (validL_spec _ z _ (HVV.out.below HA.out)).mono ?_
    rintro e w1 ⟨rfl, g1⟩
    have HG := Lib.hid (bseq HA.out g1)
    have hk := (g1.block _ (blk_lt HP.out)).trans HP.out
    clear g1
    rw [hB]
    obtain ⟨hzl, c0, f0, c1, f1, c2, f2, c3, f3, c4, f4, c5, f5, c6, f6, c7, f7, c8, f8⟩ := cells9_of hk
    have hq := st9 (x0 := .string ⟨#[]⟩) (x1 := .string ⟨#[]⟩) (x2 := .int .i64 0) (x3 := .string ⟨#[]⟩) (x4 := .int .i64 0) (x5 := .int .i64 0) (x6 := .int .i64 0) (x7 := .int .i64 0) (x8 := .slice none 0 0) hk
    have HBL := Lib.hid (bel9 (x0 := .string ⟨#[]⟩) (x1 := .string ⟨#[]⟩) (x2 := .int .i64 0) (x3 := .string ⟨#[]⟩) (x4 := .int .i64 0) (x5 := .int .i64 0) (x6 := .int .i64 0) (x7 := .int .i64 0) (x8 := .slice none 0 0) (p := w.heap.size + 1) HG.out (by omega))
    go_wp2
    clear c0 f0 c1 f1 c2 f2 c3 f3 c4 f4 c5 f5 c6 f6 c7 f7 c8 f8
    obtain ⟨_, q0, _, q1, _, q2, _, q3, _, q4, _, q5, _, q6, _, q7, _, q8, _⟩ := cells9_of hq
    refine bodyPost_ret (v := .tuple #[lfW lf0 (.slice none 0 0), .int .i64 1]) ?_ rfl ⟨_, rfl, OwnBx.nil _ _, HBL.out⟩
    clear hq hk
    generalize World.setCell _ _ _ = W at *
    simp [results, Tryd.results19, go_sem, q0, q1, q2, q3, q4, q5, q6, q7, q8, lfW0]
  | true =>
    have HR := Lib.hid (show mlR z = (mirZ z, 0) by unfold mlR; rw [hB]; rfl)
    have HBB := Lib.hid hB
    rw [HR.out]
    unfold lfW
    go_enter Tryd.func19, Tryd.ntmps19
    go_wp2_with fail
    refine (validL_spec _ z _ (HVV.out.below HA.out)).mono ?_
    rintro e w1 ⟨rfl, g1⟩
    have HG := Lib.hid (bseq HA.out g1)
    have hx1 := (g1.block _ (blk_lt HX.out)).trans HX.out
    have HP1 := Lib.hid ((g1.block _ (blk_lt HP.out)).trans HP.out)
    have HC := Lib.hid (mir_spec w.heap.size z ao n c _ HBB.out (HD.out.below g1) hx1)
    clear g1 hx1
    unfold lfW at HC
    rw [hB]
    go_wp2_with fail
    refine (HC.out).mono ?_
    rintro e w2 ⟨ao2, nn, cc, rfl, ho, g2⟩
    have HG2 := Lib.hid (bseq HG.out g2)
    have hk := (g2.block _ (blk_lt HP1.out)).trans HP1.out
    have HO := Lib.hid (own_lower (keep9 (x0 := .string (mirZ z).id) (x1 := .string (mirZ z).fl) (x2 := .int .i64 (mirZ z).nu) (x3 := .string (mirZ z).ve.1) (x4 := .int .i64 (mirZ z).ve.2.1) (x5 := .int .i64 (mirZ z).ve.2.2) (x6 := .int .i64 (mirZ z).wd) (x7 := .int .i64 (mirZ z).ln) (x8 := .slice ao2 nn cc) (p := w.heap.size + 1) ho (blk_lt HP1.out)) HG.out.size)
    clear g2 ho
    obtain ⟨hzl, c0, f0, c1, f1, c2, f2, c3, f3, c4, f4, c5, f5, c6, f6, c7, f7, c8, f8⟩ := cells9_of hk
    have hq := st9 (x0 := .string (mirZ z).id) (x1 := .string (mirZ z).fl) (x2 := .int .i64 (mirZ z).nu) (x3 := .string (mirZ z).ve.1) (x4 := .int .i64 (mirZ z).ve.2.1) (x5 := .int .i64 (mirZ z).ve.2.2) (x6 := .int .i64 (mirZ z).wd) (x7 := .int .i64 (mirZ z).ln) (x8 := .slice ao2 nn cc) hk
    have HBL := Lib.hid (bel9 (x0 := .string (mirZ z).id) (x1 := .string (mirZ z).fl) (x2 := .int .i64 (mirZ z).nu) (x3 := .string (mirZ z).ve.1) (x4 := .int .i64 (mirZ z).ve.2.1) (x5 := .int .i64 (mirZ z).ve.2.2) (x6 := .int .i64 (mirZ z).wd) (x7 := .int .i64 (mirZ z).ln) (x8 := .slice ao2 nn cc) (p := w.heap.size + 1) HG2.out (by omega))
    go_wp2
    clear c0 f0 c1 f1 c2 f2 c3 f3 c4 f4 c5 f5 c6 f6 c7 f7 c8 f8
    obtain ⟨_, q0, _, q1, _, q2, _, q3, _, q4, _, q5, _, q6, _, q7, _, q8, _⟩ := cells9_of hq
    refine bodyPost_ret (v := .tuple #[.agg #[.string (mirZ z).id, .string (mirZ z).fl, .int .i64 (mirZ z).nu, .string (mirZ z).ve.1, .int .i64 (mirZ z).ve.2.1, .int .i64 (mirZ z).ve.2.2, .int .i64 (mirZ z).wd, .int .i64 (mirZ z).ln, .slice ao2 nn cc], .int .i64 0]) ?_ rfl ⟨_, rfl, HO.out, HBL.out⟩
    clear hq hk
    generalize World.setCell _ _ _ = W at *
    simp [results, Tryd.results19, go_sem, q0, q1, q2, q3, q4, q5, q6, q7, q8]
end Go.Proofs.YtcjpplijbdfgbaaDoor
