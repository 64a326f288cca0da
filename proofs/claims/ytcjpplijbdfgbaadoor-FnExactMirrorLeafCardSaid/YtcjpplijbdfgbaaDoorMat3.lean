/- A copy of a leaf, turned over: impl. -/
import Derived.Test.YtcjpplijbdfgbaaDoorMat2
import Derived.Test.YtcjpplijbdfgbaaDoorSeq3
namespace Go.Proofs.YtcjpplijbdfgbaaDoor
open Seq2 Go.ChangeShapes Go.WideShapes Go.ChangeAt Go.RowKit
set_option linter.unusedVariables false
set_option linter.unusedSimpArgs false

/-- The box of a leaf, and behind it the box of a result. -/
theorem two_lf (w : World) (z : Lf) (sv : Value) : (((w.alloc (.cells #[.string z.id, .string z.fl, .int .i64 z.nu, .string z.ve.1, .int .i64 z.ve.2.1, .int .i64 z.ve.2.2, .int .i64 z.wd, .int .i64 z.ln, sv] 33)).alloc (.cells #[.string ⟨#[]⟩, .string ⟨#[]⟩, .int .i64 0, .string ⟨#[]⟩, .int .i64 0, .int .i64 0, .int .i64 0, .int .i64 0, .slice none 0 0] 33)).heap[w.heap.size]? = some (.cells #[.string z.id, .string z.fl, .int .i64 z.nu, .string z.ve.1, .int .i64 z.ve.2.1, .int .i64 z.ve.2.2, .int .i64 z.wd, .int .i64 z.ln, sv] 33 (0, 0))) ∧ (((w.alloc (.cells #[.string z.id, .string z.fl, .int .i64 z.nu, .string z.ve.1, .int .i64 z.ve.2.1, .int .i64 z.ve.2.2, .int .i64 z.wd, .int .i64 z.ln, sv] 33)).alloc (.cells #[.string ⟨#[]⟩, .string ⟨#[]⟩, .int .i64 0, .string ⟨#[]⟩, .int .i64 0, .int .i64 0, .int .i64 0, .int .i64 0, .slice none 0 0] 33)).heap[w.heap.size + 1]? = some (.cells #[.string ⟨#[]⟩, .string ⟨#[]⟩, .int .i64 0, .string ⟨#[]⟩, .int .i64 0, .int .i64 0, .int .i64 0, .int .i64 0, .slice none 0 0] 33 (0, 0))) := by
  have h1 := (Below.heap_alloc (w.alloc (.cells #[.string z.id, .string z.fl, .int .i64 z.nu, .string z.ve.1, .int .i64 z.ve.2.1, .int .i64 z.ve.2.2, .int .i64 z.wd, .int .i64 z.ln, sv] 33)) (.cells #[.string ⟨#[]⟩, .string ⟨#[]⟩, .int .i64 0, .string ⟨#[]⟩, .int .i64 0, .int .i64 0, .int .i64 0, .int .i64 0, .slice none 0 0] 33) w.heap.size (by simp)).trans (World.alloc_heap_new w (.cells #[.string z.id, .string z.fl, .int .i64 z.nu, .string z.ve.1, .int .i64 z.ve.2.1, .int .i64 z.ve.2.2, .int .i64 z.wd, .int .i64 z.ln, sv] 33))
  have h2 := World.alloc_heap_new (w.alloc (.cells #[.string z.id, .string z.fl, .int .i64 z.nu, .string z.ve.1, .int .i64 z.ve.2.1, .int .i64 z.ve.2.2, .int .i64 z.wd, .int .i64 z.ln, sv] 33)) (.cells #[.string ⟨#[]⟩, .string ⟨#[]⟩, .int .i64 0, .string ⟨#[]⟩, .int .i64 0, .int .i64 0, .int .i64 0, .int .i64 0, .slice none 0 0] 33)
  rw [show (w.alloc (.cells #[.string z.id, .string z.fl, .int .i64 z.nu, .string z.ve.1, .int .i64 z.ve.2.1, .int .i64 z.ve.2.2, .int .i64 z.wd, .int .i64 z.ln, sv] 33)).heap.size = w.heap.size + 1 by simp] at h2
  exact ⟨h1, h2⟩
/-- Another block stays while nine cells are stored. -/
theorem keep_blk9 {w : World} {p q : Nat} {o : Obj} {x0 x1 x2 x3 x4 x5 x6 x7 x8 : Value} (h : w.heap[q]? = some o) (hq : q ≠ p) : (((((((((w.setCell ⟨p, 0, none⟩ x0).setCell ⟨p, 1, none⟩ x1).setCell ⟨p, 2, none⟩ x2).setCell ⟨p, 3, none⟩ x3).setCell ⟨p, 4, none⟩ x4).setCell ⟨p, 5, none⟩ x5).setCell ⟨p, 6, none⟩ x6).setCell ⟨p, 7, none⟩ x7).setCell ⟨p, 8, none⟩ x8).heap[q]? = some o := by
  repeat (rw [Below.heap_setCell _ _ _ _ (by simpa using hq)])
  exact h
set_option maxRecDepth 100000 in
set_option maxHeartbeats 8000000 in
theorem copied_impl (z : Lf) (ao : Option Addr) (n c : Nat) (w : World) (hn : n ≤ 1048576) (hd : BxV w ao n z.df) :
    Calls Tryd.prog 95 #[lfW z (.slice ao n c)] w fun e w' => ∃ (ao2 : Option Addr) (cc : Nat), e = .returned (lfW z (.slice ao2 z.df.length cc)) ∧ OwnBx w' w.heap.size (.slice ao2 z.df.length cc) z.df ∧ Below w.heap.size w w' := by
  have HA := Lib.hid (two_allocs (w := w) (.cells #[.string z.id, .string z.fl, .int .i64 z.nu, .string z.ve.1, .int .i64 z.ve.2.1, .int .i64 z.ve.2.2, .int .i64 z.wd, .int .i64 z.ln, .slice ao n c] 33) (.cells #[.string ⟨#[]⟩, .string ⟨#[]⟩, .int .i64 0, .string ⟨#[]⟩, .int .i64 0, .int .i64 0, .int .i64 0, .int .i64 0, .slice none 0 0] 33))
  have HX := Lib.hid (two_lf w z (.slice ao n c)).1
  have HP := Lib.hid (two_lf w z (.slice ao n c)).2
  have HD := Lib.hid (hd.below HA.out)
  obtain ⟨hxz, c0, f0, c1, f1, c2, f2, c3, f3, c4, f4, c5, f5, c6, f6, c7, f7, c8, f8⟩ := cells9_of HX.out
  clear hd
  unfold lfW
  go_enter Tryd.func95, Tryd.ntmps95
  go_wp2_with fail
  refine (clone_bx ao n c z.df _ hn HD.out).mono ?_
  rintro e w1 ⟨v, rfl, ho, g1⟩
  obtain ⟨ao2, cc, rfl, _⟩ := OwnBx.view ho
  have HG := Lib.hid (bseq HA.out g1)
  have HX1 := Lib.hid ((g1.block _ (blk_lt HX.out)).trans HX.out)
  have HP1 := Lib.hid ((g1.block _ (blk_lt HP.out)).trans HP.out)
  have HO := Lib.hid (own_lower ho HA.out.size)
  have HLT := Lib.hid (show w.heap.size + 1 < ((w.alloc (.cells #[.string z.id, .string z.fl, .int .i64 z.nu, .string z.ve.1, .int .i64 z.ve.2.1, .int .i64 z.ve.2.2, .int .i64 z.wd, .int .i64 z.ln, .slice ao n c] 33)).alloc (.cells #[.string ⟨#[]⟩, .string ⟨#[]⟩, .int .i64 0, .string ⟨#[]⟩, .int .i64 0, .int .i64 0, .int .i64 0, .int .i64 0, .slice none 0 0] 33)).heap.size by simp)
  have HOB := Lib.hid ho
  clear ho g1 hxz c0 f0 c1 f1 c2 f2 c3 f3 c4 f4 c5 f5 c6 f6 c7 f7 c8 f8
  obtain ⟨hxz, c0, f0, c1, f1, c2, f2, c3, f3, c4, f4, c5, f5, c6, f6, c7, f7, c8, f8⟩ := cells9_of HX1.out
  obtain ⟨hpz, d0, e0, d1, e1, d2, e2, d3, e3, d4, e4, d5, e5, d6, e6, d7, e7, d8, e8⟩ := cells9_of HP1.out
  have HP2 := Lib.hid ((Below.heap_setCell w1 ⟨w.heap.size, 8, none⟩ (.slice ao2 z.df.length cc) (w.heap.size + 1) (by simp)).trans HP1.out)
  go_wp2
  have hq := st9 (x0 := .string z.id) (x1 := .string z.fl) (x2 := .int .i64 z.nu) (x3 := .string z.ve.1) (x4 := .int .i64 z.ve.2.1) (x5 := .int .i64 z.ve.2.2) (x6 := .int .i64 z.wd) (x7 := .int .i64 z.ln) (x8 := .slice ao2 z.df.length cc) HP2.out
  have HBL := Lib.hid (bel9 (x0 := .string z.id) (x1 := .string z.fl) (x2 := .int .i64 z.nu) (x3 := .string z.ve.1) (x4 := .int .i64 z.ve.2.1) (x5 := .int .i64 z.ve.2.2) (x6 := .int .i64 z.wd) (x7 := .int .i64 z.ln) (x8 := .slice ao2 z.df.length cc) (p := w.heap.size + 1) (HG.out.setCell (p := ⟨w.heap.size, 8, none⟩) (Nat.le_refl _) (.slice ao2 z.df.length cc)) (by omega))
  have HOF := Lib.hid (own_lower (keep9 (x0 := .string z.id) (x1 := .string z.fl) (x2 := .int .i64 z.nu) (x3 := .string z.ve.1) (x4 := .int .i64 z.ve.2.1) (x5 := .int .i64 z.ve.2.2) (x6 := .int .i64 z.wd) (x7 := .int .i64 z.ln) (x8 := .slice ao2 z.df.length cc) (p := w.heap.size + 1) (keep_set HOB.out ⟨w.heap.size, 8, none⟩ (.slice ao2 z.df.length cc) (Nat.lt_of_succ_lt HLT.out)) HLT.out) HA.out.size)
  obtain ⟨_, q0, _, q1, _, q2, _, q3, _, q4, _, q5, _, q6, _, q7, _, q8, _⟩ := cells9_of hq
  refine bodyPost_ret (v := .agg #[.string z.id, .string z.fl, .int .i64 z.nu, .string z.ve.1, .int .i64 z.ve.2.1, .int .i64 z.ve.2.2, .int .i64 z.wd, .int .i64 z.ln, .slice ao2 z.df.length cc]) ?_ rfl ⟨ao2, cc, rfl, HOF.out, HBL.out⟩
  clear hq c0 f0 c1 f1 c2 f2 c3 f3 c4 f4 c5 f5 c6 f6 c7 f7 c8 f8 d0 e0 d1 e1 d2 e2 d3 e3 d4 e4 d5 e5 d6 e6 d7 e7 d8 e8
  generalize World.setCell _ _ _ = W' at *
  simp [results, Tryd.results95, go_sem, q0, q1, q2, q3, q4, q5, q6, q7, q8]
end Go.Proofs.YtcjpplijbdfgbaaDoor
