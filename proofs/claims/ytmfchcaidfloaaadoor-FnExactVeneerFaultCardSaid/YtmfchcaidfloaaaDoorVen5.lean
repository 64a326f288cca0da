/- Validity of veneers: spec and impl. -/
import Derived.Test.YtmfchcaidfloaaaDoorVen4
namespace Go.Proofs.YtmfchcaidfloaaaDoor
open Seq2 Go.ChangeShapes Go.WideShapes Go.ChangeAt Go.RowKit
set_option linter.unusedVariables false
set_option linter.unusedSimpArgs false

/-- A veneer lies in block q from offset o on. -/
def VC (w : World) (q o : Nat) (s : ByteArray) (a b : Int) : Prop := q < w.heap.size ∧ w.cell? ⟨q, o, none⟩ = some (.string s) ∧ w.cell? ⟨q, o + 1, none⟩ = some (.int .i64 a) ∧ w.cell? ⟨q, o + 2, none⟩ = some (.int .i64 b)
theorem VC.below {w w' : World} {q o : Nat} {s : ByteArray} {a b : Int} (h : VC w q o s a b) (hb : Below w.heap.size w w') : VC w' q o s a b :=
  ⟨Nat.lt_of_lt_of_le h.1 hb.size, (hb.cell (p := ⟨q, o, none⟩) h.1).trans h.2.1, (hb.cell (p := ⟨q, o + 1, none⟩) h.1).trans h.2.2.1, (hb.cell (p := ⟨q, o + 2, none⟩) h.1).trans h.2.2.2⟩
theorem VC.box (w : World) (s : ByteArray) (a b : Int) : VC (w.alloc (.cells #[.string s, .int .i64 a, .int .i64 b] 43)) w.heap.size 0 s a b := by
  obtain ⟨c0, _, c1, _, c2, _⟩ := cells3_of (World.alloc_heap_new w (.cells #[.string s, .int .i64 a, .int .i64 b] 43))
  exact ⟨by simp, c0, c1, c2⟩
def venB (s : ByteArray) (a b : Int) : Bool := decide (ixN s < 10) && (inI a 0 100 && (inI a (spS (ixN s) - 15) (spS (ixN s) + 15) && inI b 0 179))
theorem inI_iff (a lo hi : Int) : inI a lo hi = true ↔ lo ≤ a ∧ a ≤ hi := by unfold inI; simp
theorem venB_ok {s : ByteArray} {a b : Int} (h : venB s a b = true) : ixN s < 10 ∧ 0 ≤ a ∧ a ≤ 100 ∧ 0 ≤ b ∧ b ≤ 179 := by
  simp only [venB, Bool.and_eq_true, decide_eq_true_eq, inI_iff] at h
  omega
set_option maxRecDepth 100000 in
set_option maxHeartbeats 8000000 in
theorem ok_ven (q o : Nat) (s : ByteArray) (a b : Int) (w : World) (hv : VC w q o s a b) : Calls Tryd.prog 33 #[.pointer (some ⟨q, o, none⟩)] w fun e w' => e = .returned (.bool (venB s a b)) ∧ Below w.heap.size w w' := by
  have HV := Lib.hid hv
  have HB := Lib.hid (show venB s a b = (decide (ixN s < 10) && (inI a 0 100 && (inI a (spS (ixN s) - 15) (spS (ixN s) + 15) && inI b 0 179))) from rfl)
  obtain ⟨hq, v0, v1, v2⟩ := hv
  by_cases h : ixN s < 10
  · have HI := Lib.hid (show ixV s = (ixN s : Int) by simp [ixV, h])
    rw [decide_eq_true h, Bool.true_and] at HB
    obtain ⟨k, hk⟩ : ∃ k, ixN s = k := ⟨_, rfl⟩
    rw [hk] at HI HB h
    clear hk
    have hd : decide ((k : Int) < 0) = false := by simp
    have hr := spS_rng k
    have e1 : IntKind.i64.wrap (spS k - 15) = spS k - 15 := IntWalk.i64_in _ (by omega)
    have e2 : IntKind.i64.wrap (spS k + 15) = spS k + 15 := IntWalk.i64_in _ (by omega)
    have HRR := Lib.hid (And.intro e1 e2)
    clear hr e1 e2
    cases hs : inI a 0 100 with
    | false =>
      have HR := Lib.hid (show venB s a b = false by rw [HB.out, hs]; rfl)
      rw [HR.out]
      go_enter Tryd.func33, Tryd.ntmps33
      go_wp2_with fail
      refine (find_ven s _).mono ?_
      rintro e w1 ⟨rfl, g1⟩
      obtain ⟨_, u0, u1, u2⟩ := HV.out.below g1
      have HG := Lib.hid g1
      clear g1
      rw [HI.out]
      go_wp2_with fail
      refine (in_any _ _ _ _).mono ?_
      rintro e w2 ⟨rfl, rfl⟩
      rw [hs]
      go_wp2
      go_ret
      exact ⟨rfl, HG.out⟩
    | true =>
      have HR := Lib.hid (show venB s a b = (inI a (spS k - 15) (spS k + 15) && inI b 0 179) by rw [HB.out, hs]; rfl)
      rw [HR.out]
      cases hs2 : inI a (spS k - 15) (spS k + 15) with
      | false =>
        rw [Bool.false_and]
        go_enter Tryd.func33, Tryd.ntmps33
        go_wp2_with fail
        refine (find_ven s _).mono ?_
        rintro e w1 ⟨rfl, g1⟩
        obtain ⟨hq1, u0, u1, u2⟩ := HV.out.below g1
        have HG := Lib.hid g1
        clear g1 v0 v1 v2
        rw [HI.out]
        go_wp2_with fail
        refine (in_any _ _ _ _).mono ?_
        rintro e w2 ⟨rfl, rfl⟩
        rw [hs]
        go_wp2_with fail
        refine (table_spec _).mono ?_
        rintro e w2 ⟨tb, rfl, tb1, g2⟩
        have HG2 := Lib.hid (bseq HG.out g2)
        obtain ⟨hbs, ht⟩ := tb1
        obtain ⟨c, hc, t0, t1, t2, t3⟩ := ht k h
        clear ht u0 u1 u2
        obtain ⟨hq2, u0, u1, u2⟩ := HV.out.below HG2.out
        clear g2
        obtain ⟨e1, e2⟩ := HRR.out
        go_wp2_with fail
        refine (in_any _ _ _ _).mono ?_
        rintro e w3 ⟨rfl, rfl⟩
        rw [hs2]
        go_wp2
        go_ret
        exact ⟨rfl, HG2.out⟩
      | true =>
        rw [Bool.true_and]
        go_enter Tryd.func33, Tryd.ntmps33
        go_wp2_with fail
        refine (find_ven s _).mono ?_
        rintro e w1 ⟨rfl, g1⟩
        obtain ⟨hq1, u0, u1, u2⟩ := HV.out.below g1
        have HG := Lib.hid g1
        clear g1 v0 v1 v2
        rw [HI.out]
        go_wp2_with fail
        refine (in_any _ _ _ _).mono ?_
        rintro e w2 ⟨rfl, rfl⟩
        rw [hs]
        go_wp2_with fail
        refine (table_spec _).mono ?_
        rintro e w2 ⟨tb, rfl, tb1, g2⟩
        have HG2 := Lib.hid (bseq HG.out g2)
        obtain ⟨hbs, ht⟩ := tb1
        obtain ⟨c, hc, t0, t1, t2, t3⟩ := ht k h
        clear ht u0 u1 u2
        obtain ⟨hq2, u0, u1, u2⟩ := HV.out.below HG2.out
        clear g2
        obtain ⟨e1, e2⟩ := HRR.out
        go_wp2_with fail
        refine (in_any _ _ _ _).mono ?_
        rintro e w3 ⟨rfl, rfl⟩
        rw [hs2]
        go_wp2_with fail
        refine (l07grain _ _).mono ?_
        rintro e w3 ⟨rfl, rfl⟩
        go_wp2
        go_ret
        exact ⟨rfl, HG2.out⟩
  · have HI := Lib.hid (show ixV s = -1 by simp [ixV, h])
    rw [decide_eq_false h, Bool.false_and] at HB
    rw [HB.out]
    go_enter Tryd.func33, Tryd.ntmps33
    go_wp2_with fail
    refine (find_ven s _).mono ?_
    rintro e w1 ⟨rfl, g1⟩
    have HG := Lib.hid g1
    clear g1
    rw [HI.out]
    go_wp2
    go_ret
    exact ⟨rfl, HG.out⟩
end Go.Proofs.YtmfchcaidfloaaaDoor
