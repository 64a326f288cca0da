/- A veneer with another shade: spec. -/
import Derived.Test.YthjimogeimigmaaDoorVen6
namespace Go.Proofs.YthjimogeimigmaaDoor
open Seq2 Go.ChangeShapes Go.WideShapes Go.ChangeAt Go.RowKit
set_option linter.unusedVariables false
set_option linter.unusedSimpArgs false

theorem stored3 {w : World} {p : Nat} {c0 c1 c2 x0 x1 x2 : Value} {t : TypeId} (h : w.heap[p]? = some (.cells #[c0, c1, c2] t (0, 0))) : Stored p (.cells #[x0, x1, x2] t (0, 0)) w (((w.setCell ⟨p, 0, none⟩ x0).setCell ⟨p, 1, none⟩ x1).setCell ⟨p, 2, none⟩ x2) := by
  have h0 := heap_setCell_same _ p 0 _ _ x0 h
  have h1 := heap_setCell_same _ p 1 _ _ x1 h0
  have h2 := heap_setCell_same _ p 2 _ _ x2 h1
  refine ⟨rfl, rfl, rfl, ?_, ?_, fun k hk => ?_⟩
  · simp [World.setCell]
  · rw [h2]; simp
  · rw [Below.heap_setCell _ _ _ _ (by simpa using hk), Below.heap_setCell _ _ _ _ (by simpa using hk), Below.heap_setCell _ _ _ _ (by simpa using hk)]
theorem shaded3 {w : World} {p : Nat} {c0 c1 c2 x : Value} {t : TypeId} (h : w.heap[p]? = some (.cells #[c0, c1, c2] t (0, 0))) : (w.setCell ⟨p, 1, none⟩ x).heap[p]? = some (.cells #[c0, x, c2] t (0, 0)) := by
  rw [heap_setCell_same _ p 1 _ _ x h]; simp
/-- The veneer with the shade n, and the code. -/
def wsR (s : ByteArray) (a b n : Int) : (ByteArray × Int × Int) × Int :=
  if venB s a b then (if inI n 0 100 then (if venB s n b then ((s, n, b), 0) else ((⟨#[]⟩, 0, 0), 6)) else ((⟨#[]⟩, 0, 0), 2)) else ((⟨#[]⟩, 0, 0), 1)
def vnV (z : ByteArray × Int × Int) : Value := .agg #[.string z.1, .int .i64 z.2.1, .int .i64 z.2.2]
set_option maxRecDepth 100000 in
set_option maxHeartbeats 8000000 in
theorem with_spec (s : ByteArray) (a b n : Int) (w : World) : Calls Tryd.prog 31 #[.agg #[.string s, .int .i64 a, .int .i64 b], .int .i64 n] w fun e w' => e = .returned (.tuple #[vnV (wsR s a b n).1, .int .i64 ((wsR s a b n).2)]) ∧ Below w.heap.size w w' := by
  have HA := Lib.hid (two_allocs (w := w) (.cells #[.string s, .int .i64 a, .int .i64 b] 34) (.cells #[.string ⟨#[]⟩, .int .i64 0, .int .i64 0] 34))
  have HV := Lib.hid (old_at (o := .cells #[.string ⟨#[]⟩, .int .i64 0, .int .i64 0] 34) (by simp) (World.alloc_heap_new w (.cells #[.string s, .int .i64 a, .int .i64 b] 34)))
  have HZ := Lib.hid (World.alloc_heap_new (w.alloc (.cells #[.string s, .int .i64 a, .int .i64 b] 34)) (.cells #[.string ⟨#[]⟩, .int .i64 0, .int .i64 0] 34))
  rw [World.size_alloc] at HZ
  obtain ⟨c0, _, c1, _, c2, _⟩ := cells3_of HV.out
  have HC := Lib.hid (show VC _ w.heap.size 0 s a b from ⟨by simp; omega, c0, c1, c2⟩)
  clear c0 c1 c2
  cases hv : venB s a b with
  | false =>
    have HR := Lib.hid (show wsR s a b n = ((⟨#[]⟩, 0, 0), 1) by unfold wsR; rw [hv]; rfl)
    rw [HR.out]
    unfold vnV
    go_enter Tryd.func31, Tryd.ntmps31
    go_wp2_with fail
    refine (ok_ven w.heap.size 0 s a b _ HC.out).mono ?_
    rintro e w1 ⟨rfl, g1⟩
    have hz := (g1.block _ (by simp)).trans HZ.out
    have HG := Lib.hid (bseq HA.out g1)
    clear g1
    rw [hv]
    have hzl := blk_lt3 hz
    obtain ⟨c0, f0, c1, f1, c2, f2⟩ := cells3_of hz
    go_wp2
    have q := (stored3 (x0 := .string ⟨#[]⟩) (x1 := .int .i64 0) (x2 := .int .i64 0) hz).here
    obtain ⟨q0, _, q1, _, q2, _⟩ := cells3_of q
    refine bodyPost_ret (v := .tuple #[.agg #[.string ⟨#[]⟩, .int .i64 0, .int .i64 0], .int .i64 1]) ?_ rfl ⟨rfl, ?_⟩
    · clear hz q c0 c1 c2 f0 f1 f2
      generalize World.setCell _ _ _ = W at *
      simp [results, Tryd.results31, go_sem, q0, q1, q2]
    · have HBX := HG.out
      (repeat (first | exact HBX | refine Below.setCell ?_ (by first | exact Nat.le_refl _ | (dsimp only; omega) | (simp; done) | (simp; omega)) _ | refine Below.alloc ?_ (by first | exact Nat.le_refl _ | omega | (simp; done) | (simp; omega)) _))
  | true =>
  cases hn : inI n 0 100 with
  | false =>
    have HR := Lib.hid (show wsR s a b n = ((⟨#[]⟩, 0, 0), 2) by unfold wsR; rw [hv, hn]; rfl)
    rw [HR.out]
    unfold vnV
    go_enter Tryd.func31, Tryd.ntmps31
    go_wp2_with fail
    refine (ok_ven w.heap.size 0 s a b _ HC.out).mono ?_
    rintro e w1 ⟨rfl, g1⟩
    have hz := (g1.block _ (by simp)).trans HZ.out
    have HG := Lib.hid (bseq HA.out g1)
    have hbx := (g1.block w.heap.size (by simp; omega)).trans HV.out
    have hbl := blk_lt3 hbx
    clear g1
    rw [hv]
    go_wp2_with fail
    refine (in_any _ _ _ _).mono ?_
    rintro e w9 ⟨rfl, rfl⟩
    rw [hn]
    have hzl := blk_lt3 hz
    obtain ⟨c0, f0, c1, f1, c2, f2⟩ := cells3_of hz
    go_wp2
    have q := (stored3 (x0 := .string ⟨#[]⟩) (x1 := .int .i64 0) (x2 := .int .i64 0) hz).here
    obtain ⟨q0, _, q1, _, q2, _⟩ := cells3_of q
    refine bodyPost_ret (v := .tuple #[.agg #[.string ⟨#[]⟩, .int .i64 0, .int .i64 0], .int .i64 2]) ?_ rfl ⟨rfl, ?_⟩
    · clear hz q c0 c1 c2 f0 f1 f2
      generalize World.setCell _ _ _ = W at *
      simp [results, Tryd.results31, go_sem, q0, q1, q2]
    · have HBX := HG.out
      (repeat (first | exact HBX | refine Below.setCell ?_ (by first | exact Nat.le_refl _ | (dsimp only; omega) | (simp; done) | (simp; omega)) _ | refine Below.alloc ?_ (by first | exact Nat.le_refl _ | omega | (simp; done) | (simp; omega)) _))
  | true =>
  cases hv2 : venB s n b with
  | false =>
    have HR := Lib.hid (show wsR s a b n = ((⟨#[]⟩, 0, 0), 6) by unfold wsR; rw [hv, hn, hv2]; rfl)
    rw [HR.out]
    unfold vnV
    go_enter Tryd.func31, Tryd.ntmps31
    go_wp2_with fail
    refine (ok_ven w.heap.size 0 s a b _ HC.out).mono ?_
    rintro e w1 ⟨rfl, g1⟩
    have hz := (g1.block _ (by simp)).trans HZ.out
    have HG := Lib.hid (bseq HA.out g1)
    have hbx := (g1.block w.heap.size (by simp; omega)).trans HV.out
    have hbl := blk_lt3 hbx
    have HBX := Lib.hid hbx
    have HZZ := Lib.hid hz
    obtain ⟨b0, bf0, b1, bf1, b2, bf2⟩ := cells3_of hbx
    clear g1 hz hbx
    rw [hv]
    go_wp2_with fail
    refine (in_any _ _ _ _).mono ?_
    rintro e w9 ⟨rfl, rfl⟩
    rw [hn]
    have HG1 := Lib.hid (show Below w.heap.size w (w1.setCell ⟨w.heap.size, 1, none⟩ (.int .i64 n)) from HG.out.setCell (Nat.le_refl _) _)
    have HS := Lib.hid (shaded3 (x := .int .i64 n) HBX.out)
    have HZ1 := Lib.hid ((Below.heap_setCell w1 ⟨w.heap.size, 1, none⟩ (.int .i64 n) (k := w.heap.size + 1) (by simp)).trans HZZ.out)
    have hc2 : VC (w1.setCell ⟨w.heap.size, 1, none⟩ (.int .i64 n)) w.heap.size 0 s n b := by
      obtain ⟨k0, _, k1, _, k2, _⟩ := cells3_of HS.out
      exact ⟨blk_lt3 HS.out, k0, k1, k2⟩
    go_wp2_with fail
    refine (ok_ven w.heap.size 0 s n b _ hc2).mono ?_
    rintro e w2 ⟨rfl, g2⟩
    have hz := (g2.block _ (blk_lt3 HZ1.out)).trans HZ1.out
    have HG0 := Lib.hid (bseq HG1.out g2)
    have hb2 := (g2.block _ (blk_lt3 HS.out)).trans HS.out
    clear g2 HG b0 bf0 b1 bf1 b2 bf2 hbl hc2
    have HG := HG0
    rw [hv2]
    have hbl2 := blk_lt3 hb2
    obtain ⟨b0, bf0, b1, bf1, b2, bf2⟩ := cells3_of hb2
    have hzl := blk_lt3 hz
    obtain ⟨c0, f0, c1, f1, c2, f2⟩ := cells3_of hz
    go_wp2
    have q := (stored3 (x0 := .string ⟨#[]⟩) (x1 := .int .i64 0) (x2 := .int .i64 0) hz).here
    obtain ⟨q0, _, q1, _, q2, _⟩ := cells3_of q
    refine bodyPost_ret (v := .tuple #[.agg #[.string ⟨#[]⟩, .int .i64 0, .int .i64 0], .int .i64 6]) ?_ rfl ⟨rfl, ?_⟩
    · clear hz q c0 c1 c2 f0 f1 f2
      generalize World.setCell _ _ _ = W at *
      simp [results, Tryd.results31, go_sem, q0, q1, q2]
    · have HBX := HG.out
      (repeat (first | exact HBX | refine Below.setCell ?_ (by first | exact Nat.le_refl _ | (dsimp only; omega) | (simp; done) | (simp; omega)) _ | refine Below.alloc ?_ (by first | exact Nat.le_refl _ | omega | (simp; done) | (simp; omega)) _))
  | true =>
    have HR := Lib.hid (show wsR s a b n = ((s, n, b), 0) by unfold wsR; rw [hv, hn, hv2]; rfl)
    rw [HR.out]
    unfold vnV
    go_enter Tryd.func31, Tryd.ntmps31
    go_wp2_with fail
    refine (ok_ven w.heap.size 0 s a b _ HC.out).mono ?_
    rintro e w1 ⟨rfl, g1⟩
    have hz := (g1.block _ (by simp)).trans HZ.out
    have HG := Lib.hid (bseq HA.out g1)
    have hbx := (g1.block w.heap.size (by simp; omega)).trans HV.out
    have hbl := blk_lt3 hbx
    have HBX := Lib.hid hbx
    have HZZ := Lib.hid hz
    obtain ⟨b0, bf0, b1, bf1, b2, bf2⟩ := cells3_of hbx
    clear g1 hz hbx
    rw [hv]
    go_wp2_with fail
    refine (in_any _ _ _ _).mono ?_
    rintro e w9 ⟨rfl, rfl⟩
    rw [hn]
    have HG1 := Lib.hid (show Below w.heap.size w (w1.setCell ⟨w.heap.size, 1, none⟩ (.int .i64 n)) from HG.out.setCell (Nat.le_refl _) _)
    have HS := Lib.hid (shaded3 (x := .int .i64 n) HBX.out)
    have HZ1 := Lib.hid ((Below.heap_setCell w1 ⟨w.heap.size, 1, none⟩ (.int .i64 n) (k := w.heap.size + 1) (by simp)).trans HZZ.out)
    have hc2 : VC (w1.setCell ⟨w.heap.size, 1, none⟩ (.int .i64 n)) w.heap.size 0 s n b := by
      obtain ⟨k0, _, k1, _, k2, _⟩ := cells3_of HS.out
      exact ⟨blk_lt3 HS.out, k0, k1, k2⟩
    go_wp2_with fail
    refine (ok_ven w.heap.size 0 s n b _ hc2).mono ?_
    rintro e w2 ⟨rfl, g2⟩
    have hz := (g2.block _ (blk_lt3 HZ1.out)).trans HZ1.out
    have HG0 := Lib.hid (bseq HG1.out g2)
    have hb2 := (g2.block _ (blk_lt3 HS.out)).trans HS.out
    clear g2 HG b0 bf0 b1 bf1 b2 bf2 hbl hc2
    have HG := HG0
    rw [hv2]
    have hbl2 := blk_lt3 hb2
    obtain ⟨b0, bf0, b1, bf1, b2, bf2⟩ := cells3_of hb2
    have hzl := blk_lt3 hz
    obtain ⟨c0, f0, c1, f1, c2, f2⟩ := cells3_of hz
    go_wp2
    have q := (stored3 (x0 := .string s) (x1 := .int .i64 n) (x2 := .int .i64 b) hz).here
    obtain ⟨q0, _, q1, _, q2, _⟩ := cells3_of q
    refine bodyPost_ret (v := .tuple #[.agg #[.string s, .int .i64 n, .int .i64 b], .int .i64 0]) ?_ rfl ⟨rfl, ?_⟩
    · clear hz q c0 c1 c2 f0 f1 f2
      generalize World.setCell _ _ _ = W at *
      simp [results, Tryd.results31, go_sem, q0, q1, q2]
    · have HBX := HG.out
      (repeat (first | exact HBX | refine Below.setCell ?_ (by first | exact Nat.le_refl _ | (dsimp only; omega) | (simp; done) | (simp; omega)) _ | refine Below.alloc ?_ (by first | exact Nat.le_refl _ | omega | (simp; done) | (simp; omega)) _))
end Go.Proofs.YthjimogeimigmaaDoor
