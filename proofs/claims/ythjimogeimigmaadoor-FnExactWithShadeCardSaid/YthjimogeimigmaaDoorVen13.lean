/- A veneer with another shade: impl. -/
import Derived.Test.YthjimogeimigmaaDoorVen12
namespace Go.Proofs.YthjimogeimigmaaDoor
open Seq2 Go.ChangeShapes Go.WideShapes Go.ChangeAt Go.RowKit
set_option linter.unusedVariables false
set_option linter.unusedSimpArgs false

set_option maxRecDepth 100000 in
set_option maxHeartbeats 8000000 in
theorem with_impl (s : ByteArray) (a b n : Int) (w : World) (ht : TabAt w) : Calls Tryd.prog 32 #[.agg #[.string s, .int .i64 a, .int .i64 b], .int .i64 n] w fun e w' => e = .returned (.tuple #[vnV (wsR s a b n).1, .int .i64 ((wsR s a b n).2)]) ∧ Below w.heap.size w w' := by
  have HT := Lib.hid ht
  clear ht
  have HA := Lib.hid (two_allocs (w := w) (.cells #[.string s, .int .i64 a, .int .i64 b] 34) (.cells #[.string ⟨#[]⟩, .int .i64 0, .int .i64 0] 34))
  have HV := Lib.hid (old_at (o := .cells #[.string ⟨#[]⟩, .int .i64 0, .int .i64 0] 34) (by simp) (World.alloc_heap_new w (.cells #[.string s, .int .i64 a, .int .i64 b] 34)))
  have HZ := Lib.hid (World.alloc_heap_new (w.alloc (.cells #[.string s, .int .i64 a, .int .i64 b] 34)) (.cells #[.string ⟨#[]⟩, .int .i64 0, .int .i64 0] 34))
  rw [World.size_alloc] at HZ
  obtain ⟨c0, _, c1, _, c2, _⟩ := cells3_of HV.out
  have HC := Lib.hid (show VC _ w.heap.size 0 s a b from ⟨by simp; omega, c0, c1, c2⟩)
  clear c0 c1 c2
  cases hv : venB s a b with
  | false =>
    have HR := Lib.hid (show wsR s a b n = ((⟨#[]⟩, 0, 0), 1) by unfold wsR; rw [hv]; rfl)
    rw [HR.out]
    unfold vnV
    go_enter Tryd.func32, Tryd.ntmps32
    go_wp2_with fail
    refine (valid_vimpl s a b _ (HT.out.below HA.out)).mono ?_
    rintro e w1 ⟨rfl, g1⟩
    have hz := (g1.block _ (by simp)).trans HZ.out
    have HG := Lib.hid (bseq HA.out g1)
    clear g1
    rw [hv]
    have hzl := blk_lt3 hz
    obtain ⟨c0, f0, c1, f1, c2, f2⟩ := cells3_of hz
    go_wp2
    have q := (stored3 (x0 := .string ⟨#[]⟩) (x1 := .int .i64 0) (x2 := .int .i64 0) hz).here
    obtain ⟨q0, _, q1, _, q2, _⟩ := cells3_of q
    refine bodyPost_ret (v := .tuple #[.agg #[.string ⟨#[]⟩, .int .i64 0, .int .i64 0], .int .i64 1]) ?_ rfl ⟨rfl, ?_⟩
    · clear hz q c0 c1 c2 f0 f1 f2
      generalize World.setCell _ _ _ = W at *
      simp [results, Tryd.results32, go_sem, q0, q1, q2]
    · have HBX := HG.out
      (repeat (first | exact HBX | refine Below.setCell ?_ (by first | exact Nat.le_refl _ | (dsimp only; omega) | (simp; done) | (simp; omega)) _ | refine Below.alloc ?_ (by first | exact Nat.le_refl _ | omega | (simp; done) | (simp; omega)) _))
  | true =>
  cases hn : inI n 0 100 with
  | false =>
    have HR := Lib.hid (show wsR s a b n = ((⟨#[]⟩, 0, 0), 2) by unfold wsR; rw [hv, hn]; rfl)
    rw [HR.out]
    unfold vnV
    go_enter Tryd.func32, Tryd.ntmps32
    go_wp2_with fail
    refine (valid_vimpl s a b _ (HT.out.below HA.out)).mono ?_
    rintro e w1 ⟨rfl, g1⟩
    have hz := (g1.block _ (by simp)).trans HZ.out
    have HG := Lib.hid (bseq HA.out g1)
    have hbx := (g1.block w.heap.size (by simp; omega)).trans HV.out
    have hbl := blk_lt3 hbx
    clear g1
    rw [hv]
    go_wp2_with fail
    refine (shade_ven _ _).mono ?_
    rintro e w9 ⟨rfl, rfl⟩
    rw [hn]
    have hzl := blk_lt3 hz
    obtain ⟨c0, f0, c1, f1, c2, f2⟩ := cells3_of hz
    go_wp2
    have q := (stored3 (x0 := .string ⟨#[]⟩) (x1 := .int .i64 0) (x2 := .int .i64 0) hz).here
    obtain ⟨q0, _, q1, _, q2, _⟩ := cells3_of q
    refine bodyPost_ret (v := .tuple #[.agg #[.string ⟨#[]⟩, .int .i64 0, .int .i64 0], .int .i64 2]) ?_ rfl ⟨rfl, ?_⟩
    · clear hz q c0 c1 c2 f0 f1 f2
      generalize World.setCell _ _ _ = W at *
      simp [results, Tryd.results32, go_sem, q0, q1, q2]
    · have HBX := HG.out
      (repeat (first | exact HBX | refine Below.setCell ?_ (by first | exact Nat.le_refl _ | (dsimp only; omega) | (simp; done) | (simp; omega)) _ | refine Below.alloc ?_ (by first | exact Nat.le_refl _ | omega | (simp; done) | (simp; omega)) _))
  | true =>
  cases hv2 : venB s n b with
  | false =>
    have HR := Lib.hid (show wsR s a b n = ((⟨#[]⟩, 0, 0), 6) by unfold wsR; rw [hv, hn, hv2]; rfl)
    rw [HR.out]
    unfold vnV
    go_enter Tryd.func32, Tryd.ntmps32
    go_wp2_with fail
    refine (valid_vimpl s a b _ (HT.out.below HA.out)).mono ?_
    rintro e w1 ⟨rfl, g1⟩
    have hz := (g1.block _ (by simp)).trans HZ.out
    have HG := Lib.hid (bseq HA.out g1)
    have hbx := (g1.block w.heap.size (by simp; omega)).trans HV.out
    have hbl := blk_lt3 hbx
    have HBX := Lib.hid hbx
    have HZZ := Lib.hid hz
    obtain ⟨b0, bf0, b1, bf1, b2, bf2⟩ := cells3_of hbx
    clear g1 hz hbx
    rw [hv]
    go_wp2_with fail
    refine (shade_ven _ _).mono ?_
    rintro e w9 ⟨rfl, rfl⟩
    rw [hn]
    have HG1 := Lib.hid (show Below w.heap.size w (w1.setCell ⟨w.heap.size, 1, none⟩ (.int .i64 n)) from HG.out.setCell (Nat.le_refl _) _)
    have HS := Lib.hid (shaded3 (x := .int .i64 n) HBX.out)
    have HZ1 := Lib.hid ((Below.heap_setCell w1 ⟨w.heap.size, 1, none⟩ (.int .i64 n) (k := w.heap.size + 1) (by simp)).trans HZZ.out)
    go_wp2_with fail
    refine (valid_vimpl s n b _ (HT.out.below HG1.out)).mono ?_
    rintro e w2 ⟨rfl, g2⟩
    have hz := (g2.block _ (blk_lt3 HZ1.out)).trans HZ1.out
    have HG0 := Lib.hid (bseq HG1.out g2)
    have hb2 := (g2.block _ (blk_lt3 HS.out)).trans HS.out
    clear g2 HG b0 bf0 b1 bf1 b2 bf2 hbl
    have HG := HG0
    rw [hv2]
    have hbl2 := blk_lt3 hb2
    obtain ⟨b0, bf0, b1, bf1, b2, bf2⟩ := cells3_of hb2
    have hzl := blk_lt3 hz
    obtain ⟨c0, f0, c1, f1, c2, f2⟩ := cells3_of hz
    go_wp2
    have q := (stored3 (x0 := .string ⟨#[]⟩) (x1 := .int .i64 0) (x2 := .int .i64 0) hz).here
    obtain ⟨q0, _, q1, _, q2, _⟩ := cells3_of q
    refine bodyPost_ret (v := .tuple #[.agg #[.string ⟨#[]⟩, .int .i64 0, .int .i64 0], .int .i64 6]) ?_ rfl ⟨rfl, ?_⟩
    · clear hz q c0 c1 c2 f0 f1 f2
      generalize World.setCell _ _ _ = W at *
      simp [results, Tryd.results32, go_sem, q0, q1, q2]
    · have HBX := HG.out
      (repeat (first | exact HBX | refine Below.setCell ?_ (by first | exact Nat.le_refl _ | (dsimp only; omega) | (simp; done) | (simp; omega)) _ | refine Below.alloc ?_ (by first | exact Nat.le_refl _ | omega | (simp; done) | (simp; omega)) _))
  | true =>
    have HR := Lib.hid (show wsR s a b n = ((s, n, b), 0) by unfold wsR; rw [hv, hn, hv2]; rfl)
    rw [HR.out]
    unfold vnV
    go_enter Tryd.func32, Tryd.ntmps32
    go_wp2_with fail
    refine (valid_vimpl s a b _ (HT.out.below HA.out)).mono ?_
    rintro e w1 ⟨rfl, g1⟩
    have hz := (g1.block _ (by simp)).trans HZ.out
    have HG := Lib.hid (bseq HA.out g1)
    have hbx := (g1.block w.heap.size (by simp; omega)).trans HV.out
    have hbl := blk_lt3 hbx
    have HBX := Lib.hid hbx
    have HZZ := Lib.hid hz
    obtain ⟨b0, bf0, b1, bf1, b2, bf2⟩ := cells3_of hbx
    clear g1 hz hbx
    rw [hv]
    go_wp2_with fail
    refine (shade_ven _ _).mono ?_
    rintro e w9 ⟨rfl, rfl⟩
    rw [hn]
    have HG1 := Lib.hid (show Below w.heap.size w (w1.setCell ⟨w.heap.size, 1, none⟩ (.int .i64 n)) from HG.out.setCell (Nat.le_refl _) _)
    have HS := Lib.hid (shaded3 (x := .int .i64 n) HBX.out)
    have HZ1 := Lib.hid ((Below.heap_setCell w1 ⟨w.heap.size, 1, none⟩ (.int .i64 n) (k := w.heap.size + 1) (by simp)).trans HZZ.out)
    go_wp2_with fail
    refine (valid_vimpl s n b _ (HT.out.below HG1.out)).mono ?_
    rintro e w2 ⟨rfl, g2⟩
    have hz := (g2.block _ (blk_lt3 HZ1.out)).trans HZ1.out
    have HG0 := Lib.hid (bseq HG1.out g2)
    have hb2 := (g2.block _ (blk_lt3 HS.out)).trans HS.out
    clear g2 HG b0 bf0 b1 bf1 b2 bf2 hbl
    have HG := HG0
    rw [hv2]
    have hbl2 := blk_lt3 hb2
    obtain ⟨b0, bf0, b1, bf1, b2, bf2⟩ := cells3_of hb2
    have hzl := blk_lt3 hz
    obtain ⟨c0, f0, c1, f1, c2, f2⟩ := cells3_of hz
    go_wp2
    have q := (stored3 (x0 := .string s) (x1 := .int .i64 n) (x2 := .int .i64 b) hz).here
    obtain ⟨q0, _, q1, _, q2, _⟩ := cells3_of q
    refine bodyPost_ret (v := .tuple #[.agg #[.string s, .int .i64 n, .int .i64 b], .int .i64 0]) ?_ rfl ⟨rfl, ?_⟩
    · clear hz q c0 c1 c2 f0 f1 f2
      generalize World.setCell _ _ _ = W at *
      simp [results, Tryd.results32, go_sem, q0, q1, q2]
    · have HBX := HG.out
      (repeat (first | exact HBX | refine Below.setCell ?_ (by first | exact Nat.le_refl _ | (dsimp only; omega) | (simp; done) | (simp; omega)) _ | refine Below.alloc ?_ (by first | exact Nat.le_refl _ | omega | (simp; done) | (simp; omega)) _))
end Go.Proofs.YthjimogeimigmaaDoor
