/- Is a point inside of a polygon: the passings of its edges; spec. -/
import Derived.Test.YthflkkkpggaalaaWide
import Derived.Test.YthflkkkpggaalaaJorB
import Derived.Test.YthflkkkpggaalaaK5
import Derived.Test.YthflkkkpggaalaaK3
namespace Go.Proofs.Ythflkkkpggaalaa
open Go.ChangeShapes Go.WideShapes Go.ChangeAt Go.RowKit
set_option linter.unusedVariables false
set_option linter.unusedSimpArgs false

def pasI (xa ya xb yb xq yq : Int) : Int := if ya ≤ yq ∧ yq < yb ∧ 0 < sdI xa ya xb yb xq yq then 1 else if yb ≤ yq ∧ yq < ya ∧ sdI xa ya xb yb xq yq < 0 then -1 else 0
theorem sg_pos (v : Int) : (0 < sgI v ↔ 0 < v) ∧ (sgI v < 0 ↔ v < 0) := by unfold sgI; split <;> (try split) <;> omega
theorem pas_cr1 (a b q : P2) : pasI a.1 a.2 b.1 b.2 q.1 q.2 = J.cr1 a b q := by
  unfold pasI J.cr1 J.cx sdI
  simp only [(sg_pos _).1, (sg_pos _).2]
set_option maxRecDepth 100000 in
set_option maxHeartbeats 1000000 in
theorem passing_W (xa ya xb yb xq yq : Int) (w : World) (ha : okW xa ya = true) (hb : okW xb yb = true) (hq : okW xq yq = true) :
    Calls Try.prog 95 #[.agg #[.int .i64 xa, .int .i64 ya, .int .i64 xb, .int .i64 yb], .agg #[.int .i64 xq, .int .i64 yq]] w fun e w' => e = .returned (.int .i64 (pasI xa ya xb yb xq yq)) ∧ Below w.heap.size w w' := by
  have T1 := Lib.hid fun w => side_W xa ya xb yb xq yq w ha hb hq
  have HS := Lib.hid (show pasI xa ya xb yb xq yq = if ya ≤ yq ∧ yq < yb ∧ 0 < sdI xa ya xb yb xq yq then 1 else if yb ≤ yq ∧ yq < ya ∧ sdI xa ya xb yb xq yq < 0 then -1 else 0 from rfl)
  generalize pasI xa ya xb yb xq yq = r at *
  generalize sdI xa ya xb yb xq yq = s at *
  clear ha hb hq
  by_cases h1 : ya ≤ yq
  · by_cases h2 : yq < yb
    · have HR := Lib.hid (And.intro h1 h2)
      go_enter Try.func95, Try.ntmps95
      go_wp2_with fail
      refine (T1.out _).mono ?_
      rintro e w1 ⟨rfl, g1⟩
      have HG1 := Lib.hid g1
      obtain ⟨k1, q1⟩ := bcell g1
      clear g1
      by_cases h3 : 0 < s
      · have H3 := Lib.hid h3
        go_wp2
        go_ret
        exact ⟨ret_int (by rw [HS.out, if_pos (by have := HR.out; have := H3.out; omega)]), bseq (two_allocs _ _) HG1.out⟩
      · have H3 := Lib.hid h3
        go_wp2
        go_ret
        exact ⟨ret_int (by rw [HS.out, if_neg (fun h => by have := H3.out; omega), if_neg (fun h => by have := HR.out; omega)]), bseq (two_allocs _ _) HG1.out⟩
    · have HR := Lib.hid (And.intro h1 h2)
      go_enter Try.func95, Try.ntmps95
      go_wp2
      go_ret
      exact ⟨ret_int (by rw [HS.out, if_neg (fun h => by have := HR.out; omega), if_neg (fun h => by have := HR.out; omega)]), two_allocs _ _⟩
  · by_cases h2 : yb ≤ yq
    · have HR := Lib.hid (And.intro h1 h2)
      go_enter Try.func95, Try.ntmps95
      go_wp2_with fail
      refine (T1.out _).mono ?_
      rintro e w1 ⟨rfl, g1⟩
      have HG1 := Lib.hid g1
      obtain ⟨k1, q1⟩ := bcell g1
      clear g1
      by_cases h3 : s < 0
      · have H3 := Lib.hid h3
        go_wp2
        go_ret
        exact ⟨ret_int (by rw [HS.out, if_neg (fun h => by have := HR.out; omega), if_pos (by have := HR.out; have := H3.out; omega)]), bseq (two_allocs _ _) HG1.out⟩
      · have H3 := Lib.hid h3
        go_wp2
        go_ret
        exact ⟨ret_int (by rw [HS.out, if_neg (fun h => by have := HR.out; omega), if_neg (fun h => by have := H3.out; omega)]), bseq (two_allocs _ _) HG1.out⟩
    · have HR := Lib.hid (And.intro h1 h2)
      go_enter Try.func95, Try.ntmps95
      go_wp2
      go_ret
      exact ⟨ret_int (by rw [HS.out, if_neg (fun h => by have := HR.out; omega), if_neg (fun h => by have := HR.out; omega)]), two_allocs _ _⟩
/-- Is a point on none of the first edges. -/
def offF (zs : List P2) (q : P2) (k : Nat) : Bool := !onP (pt zs k) (pt zs (k + 1)) q
def pasF (zs : List P2) (q : P2) (k : Nat) : Int := pasI (pt zs k).1 (pt zs k).2 (pt zs (k + 1)).1 (pt zs (k + 1)).2 q.1 q.2
/-- Inside or outside, behind some edges: 1 or -1. -/
def insT (zs : List P2) (q : P2) : Nat → Int
  | 0 => -1
  | k + 1 => if pasF zs q k ≠ 0 then - insT zs q k else insT zs q k
def insS (zs : List P2) (q : P2) : Int := if allTo (offF zs q) zs.length then insT zs q zs.length else 0
theorem insT_rng (zs : List P2) (q : P2) (k : Nat) : insT zs q k = 1 ∨ insT zs q k = -1 := by
  induction k with
  | zero => exact Or.inr rfl
  | succ k ih => simp only [insT]; split <;> omega
end Go.Proofs.Ythflkkkpggaalaa
