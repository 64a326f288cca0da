/- Leaves that a call has made, as results in laws: view, marks. -/
import Derived.Test.YtcjpplijbdfgbaaDoorK20
import Derived.Test.YtcjpplijbdfgbaaDoorLfS
import Derived.Test.YtcjpplijbdfgbaaDoorLea16
import Derived.DataShut
namespace Go.Proofs.YtcjpplijbdfgbaaDoor
open Go.ChangeShapes Go.WideShapes Go.ChangeAt Go.RowKit
set_option linter.unusedVariables false
set_option linter.unusedSimpArgs false

structure LfGood (z : Lf) : Prop where
  out : LfSz z ≤ 1048576 ∧ z.id.size ≤ 9223372036854775807 ∧ z.fl.size ≤ 9223372036854775807 ∧ (Lit.int .i64 z.nu).wf = true ∧ z.ve.1.size ≤ 9223372036854775807 ∧ (Lit.int .i64 z.wd).wf = true ∧ (Lit.int .i64 z.ln).wf = true
theorem LfGood.len {z : Lf} (h : LfGood z) : z.df.length ≤ 1048576 := by
  have := h.out.1
  unfold LfSz BxSz at this
  omega
theorem lf_own {w : World} {base cp : Nat} {ao : Option Addr} {z : Lf} (hg : LfGood z) (h : w.ownsRow base 37 4 (.slice ao z.df.length cp) z.df.length (flatBx z.df)) :
    LfV w (.agg #[.string z.id, .string z.fl, .int .i64 z.nu, .string z.ve.1, .int .i64 z.ve.2.1, .int .i64 z.ve.2.2, .int .i64 z.wd, .int .i64 z.ln, .slice ao z.df.length cp]) z := by
  obtain ⟨ao2, c2, e, hb⟩ := OwnBx.view (w := w) (base := base) (zs := z.df) h
  cases e
  obtain ⟨g1, g2, g3, g4, g5, g6, g7⟩ := hg.out
  exact ⟨_, _, _, rfl, g1, g2, g3, g4, g5, g6, g7, hg.len, hb⟩
theorem lf0_good : LfGood lf0 := ⟨by decide⟩
theorem tm_good {w : World} {v : Value} {z : Lf} {b : Bx} (h : LfL w v z) (hs : LfSz z ≤ 1048576) : LfGood (tmR z b).1 := by
  obtain ⟨ao, n, c, e, q0, q1, q2, q3, q4, q5, _, _⟩ := h.out
  unfold tmR
  cases hB : lfB z with
  | false => exact lf0_good
  | true =>
    rw [if_pos rfl]
    by_cases h1 : boxW b z.wd z.ln = true
    · rw [if_pos h1]
      by_cases h2 : 10 ≤ b.2.2.1
      · rw [if_pos h2]
        by_cases h3 : 10 ≤ b.2.2.2
        · rw [if_pos h3]
          have hb := boxW_iff.1 h1
          obtain ⟨hW, hL, _, _⟩ := lfB_dfz hB
          have hl := tmD_len z b z.df.length
          refine ⟨?_, q0, q1, q2, q3, ?_, ?_⟩
          · unfold LfSz BxSz at hs ⊢
            simp only [tmZ]
            omega
          · exact (Lit.wf_int_iff .i64 _).2 (by simp only [tmZ, IntKind.min, IntKind.max]; first | omega | (simp; omega) | (constructor <;> (simp [IntKind.bits, IntKind.signed]; omega)))
          · exact (Lit.wf_int_iff .i64 _).2 (by simp only [tmZ, IntKind.min, IntKind.max]; first | omega | (simp; omega) | (constructor <;> (simp [IntKind.bits, IntKind.signed]; omega)))
        · rw [if_neg h3]; exact lf0_good
      · rw [if_neg h2]; exact lf0_good
    · rw [if_neg h1]; exact lf0_good
theorem grown_alloc {w w' : World} {o : Obj} {r : Option Nat} (h : (w.alloc o).grownBy w' r) : w.grownBy w' r :=
  ⟨h.os, h.tape, h.output, Nat.le_trans (by simp) h.size, fun k hk hne => (h.block k (by simp; omega) hne).trans (Below.heap_alloc w o k hk)⟩
set_option maxRecDepth 100000 in
set_option maxHeartbeats 4000000 in
theorem markLf_own (base : Nat) (z : Lf) (ao : Option Addr) (cp : Nat) (w : World) (hg : LfGood z) (h : w.ownsRow base 37 4 (.slice ao z.df.length cp) z.df.length (flatBx z.df)) :
    Calls Tryd.prog 17 #[.agg #[.string z.id, .string z.fl, .int .i64 z.nu, .string z.ve.1, .int .i64 z.ve.2.1, .int .i64 z.ve.2.2, .int .i64 z.wd, .int .i64 z.ln, .slice ao z.df.length cp], .int .i64 1] w
      fun e w' => e = .returned (.int .i64 (1 + 4 * (z.df.length : Int))) ∧ w.grownBy w' (Value.slice ao z.df.length cp).ownBlock ∧ w'.ownsRow base 37 4 (.slice ao z.df.length cp) z.df.length (marks 1 (z.df.length * 4)) := by
  have HX := Lib.hid (World.alloc_heap_new w (.cells #[.string z.id, .string z.fl, .int .i64 z.nu, .string z.ve.1, .int .i64 z.ve.2.1, .int .i64 z.ve.2.2, .int .i64 z.wd, .int .i64 z.ln, .slice ao z.df.length cp] 33))
  have HLT := Lib.hid (World.ownsRow.lt h)
  have HO := Lib.hid (h.alloc (.cells #[.string z.id, .string z.fl, .int .i64 z.nu, .string z.ve.1, .int .i64 z.ve.2.1, .int .i64 z.ve.2.2, .int .i64 z.wd, .int .i64 z.ln, .slice ao z.df.length cp] 33))
  have hl := hg.len
  clear h
  go_enter Tryd.func17, Tryd.ntmps17
  go_wp2_with fail
  refine (markBx_own base _ 1 _ _ _ hl (by omega) (by omega) HO.out).mono ?_
  rintro e w1 ⟨rfl, g1, o1⟩
  have HG := Lib.hid (grown_alloc g1)
  have HO1 := Lib.hid o1
  have hx := (g1.block w.heap.size (by simp) (fun e => by have := (HLT.out _ e.symm).2; omega)).trans HX.out
  obtain ⟨hzl, c0, f0, c1, f1, c2, f2, c3, f3, c4, f4, c5, f5, c6, f6, c7, f7, c8, f8⟩ := cells9_of hx
  clear g1 o1 hx
  go_wp2
  go_ret
  exact ⟨rfl, HG.out, HO1.out⟩
set_option maxRecDepth 100000 in
set_option maxHeartbeats 4000000 in
theorem heldLf_own (base : Nat) (z : Lf) (ao : Option Addr) (cp : Nat) (w : World) (hg : LfGood z) (h : w.ownsRow base 37 4 (.slice ao z.df.length cp) z.df.length (marks 1 (z.df.length * 4))) :
    Calls Tryd.prog 18 #[.agg #[.string z.id, .string z.fl, .int .i64 z.nu, .string z.ve.1, .int .i64 z.ve.2.1, .int .i64 z.ve.2.2, .int .i64 z.wd, .int .i64 z.ln, .slice ao z.df.length cp], .int .i64 1] w fun e w' => e = .returned (.int .i64 (1 + 4 * (z.df.length : Int))) ∧ Below w.heap.size w w' := by
  have HO := Lib.hid (h.alloc (.cells #[.string z.id, .string z.fl, .int .i64 z.nu, .string z.ve.1, .int .i64 z.ve.2.1, .int .i64 z.ve.2.2, .int .i64 z.wd, .int .i64 z.ln, .slice ao z.df.length cp] 33))
  have hl := hg.len
  have hd : decide ((1 + 4 * (z.df.length : Int)) < 0) = false := by simp; omega
  clear h
  go_enter Tryd.func18, Tryd.ntmps18
  go_wp2_with fail
  refine (heldBx_own base _ 1 _ _ hl (by omega) (by omega) HO.out).mono ?_
  rintro e w1 ⟨rfl, rfl⟩
  go_wp2
  go_ret
  exact ⟨rfl, one_alloc _⟩
end Go.Proofs.YtcjpplijbdfgbaaDoor
