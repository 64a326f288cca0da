/- Contracts of impl's magnitude and nearestQuotient: the nearest quotient, halves away from 0. -/
import Derived.Test.YthjimogeimigmaaDoorProg
import Derived.Test.YthjimogeimigmaaDoorK1
import Derived.Deep.QuietTactic
import Derived.BigQuiet
import Derived.IntWalk
namespace Go.Proofs.YthjimogeimigmaaDoor
open Go.ChangeShapes Go.WideShapes Go.ChangeAt Go.RowKit

theorem flipW {P : Program} {f : FuncId} {args : Array Value} {w : World} {v : Value} (h : Calls P f args w fun e w' => e = .returned v ∧ w = w') : Calls P f args w fun e w' => e = .returned v ∧ w' = w :=
  h.mono fun _ _ h => ⟨h.1, h.2.symm⟩
theorem wrapU (n : Int) : IntKind.u64.wrap n = n % 18446744073709551616 := by
  simp [IntKind.wrap, IntKind.bits, IntKind.signed]
theorem mag_any (n : Int) (w : World) (h1 : -1000000000000000 ≤ n) (h2 : n ≤ 1000000000000000) : Calls Tryd.prog 93 #[.int .i64 n] w fun e w' => e = .returned (.int .u64 n.natAbs) ∧ w = w' := by
  by_cases h : n < 0
  all_goals
    go_enter Tryd.func93, Tryd.ntmps93
    go_wp2
    go_ret
    refine ⟨ret_int ?_, rfl⟩
    try rw [wrapU, wrapU]
    omega

/-- The nearest quotient, the one farther from 0 of two. -/
def nearI (a b : Int) : Int := if 2 * (a.natAbs % b.natAbs) < b.natAbs then a.tdiv b else if decide (a < 0) = decide (b < 0) then a.tdiv b + 1 else a.tdiv b - 1
theorem rest_wrap (a b : Int) (hb : b ≠ 0) (hb1 : -1000000000000000 ≤ b) (hb2 : b ≤ 1000000000000000) : IntKind.u64.wrap (↑b.natAbs - ↑a.natAbs % ↑b.natAbs) = ((b.natAbs - a.natAbs % b.natAbs : Nat) : Int) ∧ ((a.natAbs : Int) % (b.natAbs : Int)) = ((a.natAbs % b.natAbs : Nat) : Int) ∧ a.natAbs % b.natAbs < b.natAbs := by
  have h1 : a.natAbs % b.natAbs < b.natAbs := Nat.mod_lt _ (by omega)
  have h2 : ((a.natAbs : Int) % (b.natAbs : Int)) = ((a.natAbs % b.natAbs : Nat) : Int) := by simp
  refine ⟨?_, h2, h1⟩
  rw [h2, IntWalk.u64_in _ (by omega)]
  omega
theorem near_lt (a b : Int) (hb : b ≠ 0) (hb1 : -1000000000000000 ≤ b) (hb2 : b ≤ 1000000000000000) (h : (a.natAbs : Int) % (b.natAbs : Int) < IntKind.u64.wrap (↑b.natAbs - ↑a.natAbs % ↑b.natAbs)) : a.tdiv b = nearI a b := by
  obtain ⟨e1, e2, e3⟩ := rest_wrap a b hb hb1 hb2
  rw [e1, e2] at h
  rw [nearI, if_pos (by omega)]
theorem near_ne (a b : Int) (hb : b ≠ 0) (hb1 : -1000000000000000 ≤ b) (hb2 : b ≤ 1000000000000000) (h : IntKind.u64.wrap (↑b.natAbs - ↑a.natAbs % ↑b.natAbs) ≤ (a.natAbs : Int) % (b.natAbs : Int)) (hs : (!decide (a < 0) == decide (b < 0)) = true) : a.tdiv b - 1 = nearI a b := by
  obtain ⟨e1, e2, e3⟩ := rest_wrap a b hb hb1 hb2
  rw [e1, e2] at h
  rw [nearI, if_neg (by omega), if_neg (by simpa using hs)]
theorem near_eq (a b : Int) (hb : b ≠ 0) (hb1 : -1000000000000000 ≤ b) (hb2 : b ≤ 1000000000000000) (h : IntKind.u64.wrap (↑b.natAbs - ↑a.natAbs % ↑b.natAbs) ≤ (a.natAbs : Int) % (b.natAbs : Int)) (hs : (!decide (a < 0) == decide (b < 0)) = false) : a.tdiv b + 1 = nearI a b := by
  obtain ⟨e1, e2, e3⟩ := rest_wrap a b hb hb1 hb2
  rw [e1, e2] at h
  rw [nearI, if_neg (by omega), if_pos (by simpa using hs)]
theorem tdiv_bd (a b : Int) (m : Nat) (h : a.natAbs ≤ m) : -(m : Int) ≤ a.tdiv b ∧ a.tdiv b ≤ m := by
  have h1 : (a.tdiv b).natAbs ≤ a.natAbs := by rw [Int.natAbs_tdiv]; exact Nat.div_le_self _ _
  omega
theorem tmod_bd (a b : Int) (hb : b ≠ 0) : (a.tmod b).natAbs < b.natAbs := by
  rw [Int.natAbs_tmod]; exact Nat.mod_lt _ (by omega)

set_option maxHeartbeats 400000 in
theorem near_any (a b : Int) (w : World) (ha1 : -1000000000000000 ≤ a) (ha2 : a ≤ 1000000000000000) (hb1 : -1000000000000000 ≤ b) (hb2 : b ≤ 1000000000000000) (hb : b ≠ 0) :
    Calls Tryd.prog 80 #[.int .i64 a, .int .i64 b] w fun e w' => e = .returned (.int .i64 (nearI a b)) ∧ ∃ n, w' = w.drewN n := by
  have q1 := tdiv_bd a b 1000000000000000 (by omega)
  have r1 := tmod_bd a b hb
  have hb0 : (b == 0) = false := by rw [beq_eq_false_iff_ne]; exact hb
  have m1 : -1000000000000000 ≤ a.tmod b := by omega
  have m2 : a.tmod b ≤ 1000000000000000 := by omega
  have e1 : IntKind.i64.wrap (a.tdiv b) = a.tdiv b := IntWalk.i64_in _ (by omega)
  have e2 : IntKind.i64.wrap (a.tmod b) = a.tmod b := IntWalk.i64_in _ (by omega)
  go_enter Tryd.func80, Tryd.ntmps80
  go_wp2
  go_quiet ((go_at_call 93; exact Calls.quiet_of_same (flipW (mag_any (a.tmod b) _ m1 m2))))
  have m3 := Lib.hid (And.intro m1 m2)
  clear e2 m1 m2
  go_wp2_with ((with_reducible refine (mag_any _ _ hb1 hb2).mono ?_); rintro e w' ⟨rfl, rfl⟩)
  all_goals
    go_ret
    first
    | exact ⟨ret_int (near_lt a b hb hb1 hb2 ‹_›), _, rfl⟩
    | exact ⟨ret_int (near_ne a b hb hb1 hb2 ‹_› ‹_›), _, rfl⟩
    | exact ⟨ret_int (near_eq a b hb hb1 hb2 ‹_› ‹_›), _, rfl⟩
end Go.Proofs.YthjimogeimigmaaDoor
