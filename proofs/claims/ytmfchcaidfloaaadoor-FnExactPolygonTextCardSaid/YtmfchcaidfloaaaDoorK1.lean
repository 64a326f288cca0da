/- Several texts in one: Base, RootMath, SegMath, PtBase, In, PtImpl, PolyMath, Root, SegSpec, SegSpec2, SegSpec3, PolySpec. -/
import Derived.WalkKit
import Derived.ProofKit
import Derived.OpenShut
import Derived.Lib.Hide
import Derived.Below
import Derived.Deep.Quiet
import Derived.Deep.QuietTactic
import Derived.BigQuiet
import Derived.RegionTactic
import Derived.IntWalk
import Derived.Test.YtmfchcaidfloaaaDoorProg
import Derived.LoopTactic
namespace Go.Proofs.YtmfchcaidfloaaaDoor
open Go.ChangeShapes Go.WideShapes Go.ChangeAt Go.RowKit

theorem ret_bool {a b : Bool} (h : a = b) : Ending.returned (.bool a) = .returned (.bool b) := by rw [h]
theorem ret_int {k : IntKind} {a b : Int} (h : a = b) : Ending.returned (.int k a) = .returned (.int k b) := by rw [h]
theorem val_int {k : IntKind} {a b : Int} (h : a = b) : Value.int k a = .int k b := by rw [h]

theorem wf_bd (n : Int) (h : (Lit.int .i64 n).wf = true) : -9223372036854775808 ≤ n ∧ n ≤ 9223372036854775807 := by
  simp only [Lit.wf, Bool.and_eq_true, decide_eq_true_eq] at h
  exact h
def smallI (n : Int) : Bool := decide (97 ≤ n) && decide (n ≤ 122)
def digI (n : Int) : Bool := decide (48 ≤ n) && decide (n ≤ 57)
def inI (n a b : Int) : Bool := decide (a ≤ n) && decide (n ≤ b)

end Go.Proofs.YtmfchcaidfloaaaDoor
namespace Go.Proofs.YtmfchcaidfloaaaDoor
open Go.ChangeShapes Go.WideShapes Go.ChangeAt Go.RowKit

def natRoot : Nat → Nat
  | 0 => 0
  | n + 1 => if (natRoot n + 1) * (natRoot n + 1) ≤ n + 1 then natRoot n + 1 else natRoot n
theorem natRoot_spec (n : Nat) : natRoot n * natRoot n ≤ n ∧ n < (natRoot n + 1) * (natRoot n + 1) := by
  induction n with
  | zero => simp [natRoot]
  | succ n ih =>
    rw [natRoot]
    split
    · rename_i h
      refine ⟨h, ?_⟩
      have e : (natRoot n + 1 + 1) * (natRoot n + 1 + 1) = (natRoot n + 1) * (natRoot n + 1) + 2 * natRoot n + 3 := by
        simp only [Nat.add_mul, Nat.mul_add]; omega
      omega
    · rename_i h
      exact ⟨by omega, by omega⟩
def rootI (n : Int) : Int := natRoot n.toNat

theorem sq_lt {a b : Nat} (h : a < b) : (a + 1) * (a + 1) ≤ b * b := Nat.mul_le_mul h h
theorem root_uniq (n r : Nat) (h1 : r * r ≤ n) (h2 : n < (r + 1) * (r + 1)) : r = natRoot n := by
  obtain ⟨g1, g2⟩ := natRoot_spec n
  rcases Nat.lt_trichotomy r (natRoot n) with h | h | h
  · have := sq_lt h; omega
  · exact h
  · have := sq_lt h; omega
theorem root_of (n r : Int) (hr : 0 ≤ r) (h1 : r = 0 ∨ r * r ≤ n) (h2 : n < (r + 1) * (r + 1)) : r = rootI n := by
  obtain ⟨R, rfl⟩ : ∃ R : Nat, r = R := ⟨r.toNat, by omega⟩
  unfold rootI
  congr 1
  by_cases hn : 0 ≤ n
  · obtain ⟨N, rfl⟩ : ∃ N : Nat, n = N := ⟨n.toNat, by omega⟩
    apply root_uniq
    · rcases h1 with h1 | h1
      · have : R = 0 := by omega
        subst this; omega
      · have h1' : ((R * R : Nat) : Int) ≤ N := by rw [Int.natCast_mul]; exact h1
        simp; omega
    · have h2' : (N : Int) < (((R + 1) * (R + 1) : Nat) : Int) := by rw [Int.natCast_mul, Int.natCast_add]; exact h2
      simp; omega
  · have e : n.toNat = 0 := by omega
    rw [e]
    rcases h1 with h1 | h1
    · simp [natRoot]; omega
    · have : 0 ≤ (R : Int) * R := Int.mul_nonneg (by omega) (by omega)
      omega

end Go.Proofs.YtmfchcaidfloaaaDoor
namespace Go.Proofs.YtmfchcaidfloaaaDoor
theorem mulB (a b : Int) (A B : Int) (h1 : -A ≤ a) (h2 : a ≤ A) (h3 : -B ≤ b) (h4 : b ≤ B) : -(A * B) ≤ a * b ∧ a * b ≤ A * B := by
  have h5 := Int.mul_nonneg (show 0 ≤ A - a by omega) (show 0 ≤ B - b by omega)
  have h6 := Int.mul_nonneg (show 0 ≤ A + a by omega) (show 0 ≤ B + b by omega)
  have h7 := Int.mul_nonneg (show 0 ≤ A - a by omega) (show 0 ≤ B + b by omega)
  have h8 := Int.mul_nonneg (show 0 ≤ A + a by omega) (show 0 ≤ B - b by omega)
  constructor <;> grind
def crI (xa ya xb yb xc yc : Int) : Int := (xb - xa) * (yc - ya) - (yb - ya) * (xc - xa)
def sgI (v : Int) : Int := if 0 < v then 1 else if v < 0 then -1 else 0
def sdI (xa ya xb yb xc yc : Int) : Int := sgI (crI xa ya xb yb xc yc)
def onB (xa ya xb yb xp yp : Int) : Bool := decide (sdI xa ya xb yb xp yp = 0) && inI xp (min xa xb) (max xa xb) && inI yp (min ya yb) (max ya yb)
theorem sg_zero (v : Int) : sgI v = 0 ↔ v = 0 := by unfold sgI; split <;> (try split) <;> omega
theorem sg_neg (v : Int) : sgI (-v) = - sgI v := by unfold sgI; split <;> (try split) <;> (try split) <;> (try split) <;> omega
theorem sq_nonneg (a : Int) : 0 ≤ a * a := by
  rcases Int.le_total 0 a with h | h
  · exact Int.mul_nonneg h h
  · exact Int.mul_nonneg_of_nonpos_of_nonpos h h
/-- Between two numbers: the product of the ways to them is not positive. -/
theorem between (x a b : Int) : inI x (min a b) (max a b) = decide ((a - x) * (b - x) ≤ 0) := by
  rw [Bool.eq_iff_iff]
  simp only [inI, Bool.and_eq_true, decide_eq_true_eq]
  constructor
  · rintro ⟨h1, h2⟩
    rcases Int.lt_trichotomy a x with h | h | h
    · exact Int.mul_nonpos_of_nonpos_of_nonneg (by omega) (by omega)
    · rw [h, Int.sub_self, Int.zero_mul]; omega
    · exact Int.mul_nonpos_of_nonneg_of_nonpos (by omega) (by omega)
  · intro h
    by_cases ha : a < x
    · by_cases hb : b < x
      · have := Int.mul_pos_of_neg_of_neg (show a - x < 0 by omega) (show b - x < 0 by omega); omega
      · omega
    · by_cases hb : x < a
      · by_cases hc : x < b
        · have := Int.mul_pos (show 0 < a - x by omega) (show 0 < b - x by omega); omega
        · omega
      · omega
theorem on_eq (xa ya xb yb xp yp : Int) : onB xa ya xb yb xp yp = (decide (sdI xa ya xb yb xp yp = 0) && decide ((xa - xp) * (xb - xp) + (ya - yp) * (yb - yp) ≤ 0)) := by
  unfold onB
  rw [between, between, Bool.eq_iff_iff]
  simp only [Bool.and_eq_true, decide_eq_true_eq, sdI, sg_zero, and_assoc]
  constructor
  · rintro ⟨h0, h1, h2⟩; exact ⟨h0, by omega⟩
  · rintro ⟨h0, h1⟩
    have hc : ((xa - xp) * (xb - xp)) * ((ya - yp) * (yb - yp)) = ((xa - xp) * (yb - yp)) * ((xa - xp) * (yb - yp)) := by
      unfold crI at h0; grind
    have hs := sq_nonneg ((xa - xp) * (yb - yp))
    rw [← hc] at hs
    generalize (xa - xp) * (xb - xp) = u at *
    generalize (ya - yp) * (yb - yp) = v at *
    refine ⟨h0, ?_, ?_⟩
    · rcases Int.lt_or_le 0 u with h | h
      · have := Int.mul_neg_of_pos_of_neg h (show v < 0 by omega); omega
      · exact h
    · rcases Int.lt_or_le 0 v with h | h
      · have := Int.mul_neg_of_neg_of_pos (show u < 0 by omega) h; omega
      · exact h

def csB (xa ya xb yb xc yc xd yd : Int) : Bool := decide (sdI xa ya xb yb xc yc * sdI xa ya xb yb xd yd < 0) && decide (sdI xc yc xd yd xa ya * sdI xc yc xd yd xb yb < 0)
def tcB (xa ya xb yb xc yc xd yd : Int) : Bool := csB xa ya xb yb xc yc xd yd || onB xa ya xb yb xc yc || onB xa ya xb yb xd yd || onB xc yc xd yd xa ya || onB xc yc xd yd xb yb
def sqI (xa ya xb yb : Int) : Int := (xa - xb) * (xa - xb) + (ya - yb) * (ya - yb)
def alI (xa ya xb yb xp yp : Int) : Int := (xb - xa) * (xp - xa) + (yb - ya) * (yp - ya)
def farI (xa ya xb yb xp yp : Int) : Int := if alI xa ya xb yb xp yp ≤ 0 then rootI (sqI xa ya xp yp) else if sqI xa ya xb yb ≤ alI xa ya xb yb xp yp then rootI (sqI xb yb xp yp)
  else rootI (crI xa ya xb yb xp yp * crI xa ya xb yb xp yp / sqI xa ya xb yb)
def gapI (xa ya xb yb xc yc xd yd : Int) : Int := if tcB xa ya xb yb xc yc xd yd then 0 else min (min (farI xa ya xb yb xc yc) (farI xa ya xb yb xd yd)) (min (farI xc yc xd yd xa ya) (farI xc yc xd yd xb yb))

theorem sd_swap (xa ya xb yb xc yc : Int) : sdI xb yb xa ya xc yc = - sdI xa ya xb yb xc yc := by
  unfold sdI
  rw [← sg_neg]
  congr 1
  unfold crI
  grind
theorem on_swap (xa ya xb yb xp yp : Int) : onB xb yb xa ya xp yp = onB xa ya xb yb xp yp := by
  unfold onB
  rw [sd_swap, Int.min_comm xb, Int.max_comm xb, Int.min_comm yb, Int.max_comm yb]
  congr 2
  rw [decide_eq_decide]
  omega
theorem cs_swap (xa ya xb yb xc yc xd yd : Int) : csB xd yd xc yc xa ya xb yb = csB xa ya xb yb xc yc xd yd := by
  unfold csB
  rw [sd_swap xc yc xd yd xa ya, sd_swap xc yc xd yd xb yb, Int.neg_mul_neg, Bool.and_comm, Int.mul_comm (sdI xa ya xb yb xd yd)]
theorem cs_swap2 (xa ya xb yb xc yc xd yd : Int) : csB xc yc xd yd xb yb xa ya = csB xa ya xb yb xc yc xd yd := by
  unfold csB
  rw [sd_swap xa ya xb yb xc yc, sd_swap xa ya xb yb xd yd, Int.neg_mul_neg, Bool.and_comm, Int.mul_comm (sdI xc yc xd yd xb yb)]
theorem tc_swap (xa ya xb yb xc yc xd yd : Int) : tcB xd yd xc yc xb yb xa ya = tcB xa ya xb yb xc yc xd yd := by
  unfold tcB
  rw [show csB xd yd xc yc xb yb xa ya = csB xa ya xb yb xc yc xd yd by unfold csB; rw [sd_swap xc yc xd yd xa ya, sd_swap xc yc xd yd xb yb, sd_swap xa ya xb yb xc yc, sd_swap xa ya xb yb xd yd, Int.neg_mul_neg, Int.neg_mul_neg, Bool.and_comm, Int.mul_comm (sdI xa ya xb yb xd yd), Int.mul_comm (sdI xc yc xd yd xb yb)], on_swap xc yc xd yd xb yb, on_swap xc yc xd yd xa ya, on_swap xa ya xb yb xd yd, on_swap xa ya xb yb xc yc]
  cases csB xa ya xb yb xc yc xd yd <;> cases onB xa ya xb yb xc yc <;> cases onB xa ya xb yb xd yd <;> cases onB xc yc xd yd xa ya <;> cases onB xc yc xd yd xb yb <;> rfl
theorem tc_swap2 (xa ya xb yb xc yc xd yd : Int) : tcB xc yc xd yd xb yb xa ya = tcB xa ya xb yb xc yc xd yd := by
  unfold tcB
  rw [cs_swap2, on_swap xa ya xb yb xd yd, on_swap xa ya xb yb xc yc]
  cases csB xa ya xb yb xc yc xd yd <;> cases onB xa ya xb yb xc yc <;> cases onB xa ya xb yb xd yd <;> cases onB xc yc xd yd xa ya <;> cases onB xc yc xd yd xb yb <;> rfl
theorem sq_swap (xa ya xb yb : Int) : sqI xb yb xa ya = sqI xa ya xb yb := by unfold sqI; grind
theorem al_swap (xa ya xb yb xp yp : Int) : alI xb yb xa ya xp yp = sqI xa ya xb yb - alI xa ya xb yb xp yp := by unfold alI sqI; grind
theorem cr_swap (xa ya xb yb xp yp : Int) : crI xb yb xa ya xp yp = - crI xa ya xb yb xp yp := by unfold crI; grind
theorem sq_zero (xa ya xb yb : Int) (h : sqI xa ya xb yb = 0) : xa = xb ∧ ya = yb := by
  unfold sqI at h
  have h1 := sq_nonneg (xa - xb)
  have h2 := sq_nonneg (ya - yb)
  have h3 : (xa - xb) * (xa - xb) = 0 := by omega
  have h4 : (ya - yb) * (ya - yb) = 0 := by omega
  rcases Int.mul_eq_zero.1 h3 with h5 | h5 <;> rcases Int.mul_eq_zero.1 h4 with h6 | h6 <;> omega
theorem far_swap (xa ya xb yb xp yp : Int) : farI xb yb xa ya xp yp = farI xa ya xb yb xp yp := by
  unfold farI
  rw [al_swap, sq_swap xa ya xb yb, cr_swap, Int.neg_mul_neg]
  by_cases h1 : alI xa ya xb yb xp yp ≤ 0
  · by_cases h2 : sqI xa ya xb yb ≤ alI xa ya xb yb xp yp
    · have h3 : 0 ≤ sqI xa ya xb yb := by unfold sqI; have := sq_nonneg (xa - xb); have := sq_nonneg (ya - yb); omega
      obtain ⟨rfl, rfl⟩ := sq_zero xa ya xb yb (by omega)
      rw [if_pos (by omega), if_pos h1]
    · rw [if_neg (by omega), if_pos (by omega), if_pos h1]
  · by_cases h2 : sqI xa ya xb yb ≤ alI xa ya xb yb xp yp
    · rw [if_pos (by omega), if_neg h1, if_pos h2]
    · rw [if_neg (by omega), if_neg (by omega), if_neg h1, if_neg h2]
theorem gap_swap (xa ya xb yb xc yc xd yd : Int) : gapI xc yc xd yd xb yb xa ya = gapI xa ya xb yb xc yc xd yd := by
  unfold gapI
  rw [tc_swap2, far_swap xa ya xb yb xc yc, far_swap xa ya xb yb xd yd]
  split
  · rfl
  · omega
theorem on_far (xa ya xb yb xp yp : Int) (h : onB xa ya xb yb xp yp = true) : farI xa ya xb yb xp yp = 0 := by
  have r0 : rootI 0 = 0 := rfl
  have hz : ∀ x y : Int, sqI x y x y = 0 := fun x y => by unfold sqI; simp
  unfold onB at h
  rw [between, between] at h
  simp only [Bool.and_eq_true, decide_eq_true_eq, sdI, sg_zero] at h
  obtain ⟨⟨h0, h1⟩, h2⟩ := h
  have hx := sq_nonneg (xa - xp)
  have hy := sq_nonneg (ya - yp)
  have kx := sq_nonneg (xb - xp)
  have ky := sq_nonneg (yb - yp)
  unfold farI
  split
  · rename_i h
    have : sqI xa ya xp yp = 0 := by
      unfold alI at h; unfold sqI
      have e : (xb - xa) * (xp - xa) + (yb - ya) * (yp - ya) = (xa - xp) * (xa - xp) + (ya - yp) * (ya - yp) - ((xa - xp) * (xb - xp) + (ya - yp) * (yb - yp)) := by grind
      omega
    rw [this]; rfl
  · split
    · rename_i h
      have : sqI xb yb xp yp = 0 := by
        unfold alI at h; unfold sqI at *
        have e : (xa - xb) * (xa - xb) + (ya - yb) * (ya - yb) - ((xb - xa) * (xp - xa) + (yb - ya) * (yp - ya)) = (xb - xp) * (xb - xp) + (yb - yp) * (yb - yp) - ((xa - xp) * (xb - xp) + (ya - yp) * (yb - yp)) := by grind
        omega
      rw [this]; rfl
    · rw [h0]; simp [r0]
/-- The integer nearest to n / d, the greater one of two. -/
def qhI (n d : Int) : Int := if d < 0 then (2 * (-n) + (-d)) / (2 * (-d)) else (2 * n + d) / (2 * d)
def rrI (xa ya xb yb xc yc xd yd : Int) : Int := (xb - xa) * (yd - yc) - (yb - ya) * (xd - xc)
def ttI (xa ya xc yc xd yd : Int) : Int := (xc - xa) * (yd - yc) - (yc - ya) * (xd - xc)
def uuI (xa ya xb yb xc yc : Int) : Int := (xc - xa) * (yb - ya) - (yc - ya) * (xb - xa)
def cpX (xa ya xb yb xc yc xd yd : Int) : Int := xa + qhI ((xb - xa) * ttI xa ya xc yc xd yd) (rrI xa ya xb yb xc yc xd yd)
def cpY (xa ya xb yb xc yc xd yd : Int) : Int := ya + qhI ((yb - ya) * ttI xa ya xc yc xd yd) (rrI xa ya xb yb xc yc xd yd)

theorem sg_mul (x y : Int) (h : sgI x * sgI y < 0) : (0 < x ∧ y < 0) ∨ (x < 0 ∧ 0 < y) := by
  unfold sgI at h
  by_cases h1 : 0 < x <;> by_cases h2 : 0 < y <;> by_cases h3 : x < 0 <;> by_cases h4 : y < 0 <;> simp [h1, h2, h3, h4] at h <;> omega
theorem abs_sq (x : Int) : x ≤ x * x ∧ -x ≤ x * x := by
  rcases Int.lt_trichotomy x 0 with h | h | h
  · have := Int.mul_nonneg_of_nonpos_of_nonpos (show x ≤ 0 by omega) (show x + 1 ≤ 0 by omega)
    rw [Int.mul_add] at this
    omega
  · subst h; simp
  · have := Int.mul_nonneg (show 0 ≤ x by omega) (show 0 ≤ x - 1 by omega)
    rw [Int.mul_sub] at this
    omega
/-- A rest of at most R, times x, is at most R times the size of x. -/
theorem ex_le (R e x : Int) (h1 : -R ≤ e) (h2 : e ≤ R) : e * x ≤ R * x ∨ e * x ≤ R * (-x) := by
  rcases Int.le_total 0 x with h | h
  · exact Or.inl (Int.mul_le_mul_of_nonneg_right h2 h)
  · right
    have := Int.mul_le_mul_of_nonneg_right (show -e ≤ R by omega) (show 0 ≤ -x by omega)
    rw [Int.neg_mul_neg] at this
    exact this
theorem ways_zero (R wx wy ex ey : Int) (hR : 0 < R) (e1 : -R ≤ ex) (e2 : ex ≤ R) (e3 : -R ≤ ey) (e4 : ey ≤ R) (h : 2 * R * (wx * wx + wy * wy) ≤ ex * wx + ey * wy) : wx * wx + wy * wy = 0 := by
  have hx := ex_le R ex wx e1 e2
  have hy := ex_le R ey wy e3 e4
  have ax := abs_sq wx
  have ay := abs_sq wy
  have sx := sq_nonneg wx
  have sy := sq_nonneg wy
  have bx : R * wx ≤ R * (wx * wx) := Int.mul_le_mul_of_nonneg_left ax.1 (by omega)
  have cx : R * (-wx) ≤ R * (wx * wx) := Int.mul_le_mul_of_nonneg_left ax.2 (by omega)
  have by_ : R * wy ≤ R * (wy * wy) := Int.mul_le_mul_of_nonneg_left ay.1 (by omega)
  have cy : R * (-wy) ≤ R * (wy * wy) := Int.mul_le_mul_of_nonneg_left ay.2 (by omega)
  have e : 2 * R * (wx * wx + wy * wy) = 2 * (R * (wx * wx)) + 2 * (R * (wy * wy)) := by grind
  have px : 0 ≤ R * (wx * wx) := Int.mul_nonneg (by omega) sx
  have py : 0 ≤ R * (wy * wy) := Int.mul_nonneg (by omega) sy
  have q : R * (wx * wx) + R * (wy * wy) = 0 := by omega
  rw [← Int.mul_add] at q
  rcases Int.mul_eq_zero.1 q with h | h
  · omega
  · exact h
theorem height_lt (R sx sy ex ey h : Int) (hR : 0 < R) (e1 : -R ≤ ex) (e2 : ex ≤ R) (e3 : -R ≤ ey) (e4 : ey ≤ R) (hh : 2 * R * h = sx * ey - sy * ex) (hL : 0 < sx * sx + sy * sy) : h * h < sx * sx + sy * sy := by
  -- 2 |h| is at most |sx| + |sy|
  have k : ∀ a b : Int, (2 * h ≤ a + b ∧ -(a + b) ≤ 2 * h) → a * a = sx * sx → b * b = sy * sy → h * h < sx * sx + sy * sy := by
    intro a b ⟨h1, h2⟩ ha hb
    have m := Int.mul_nonneg (show 0 ≤ a + b - 2 * h by omega) (show 0 ≤ a + b + 2 * h by omega)
    have n := sq_nonneg (a - b)
    have e5 : (a + b - 2 * h) * (a + b + 2 * h) = a * a + b * b + 2 * (a * b) - 4 * (h * h) := by grind
    have e6 : (a - b) * (a - b) = a * a + b * b - 2 * (a * b) := by grind
    have := sq_nonneg h
    omega
  have lin : ∀ a b : Int, 2 * R * h ≤ R * (a + b) → -(R * (a + b)) ≤ 2 * R * h → (2 * h ≤ a + b ∧ -(a + b) ≤ 2 * h) := by
    intro a b h1 h2
    constructor
    · refine Int.le_of_mul_le_mul_left (a := R) ?_ hR
      rw [← Int.mul_assoc, Int.mul_comm R 2]; exact h1
    · refine Int.le_of_mul_le_mul_left (a := R) ?_ hR
      rw [← Int.mul_assoc, Int.mul_comm R 2, Int.mul_neg]; exact h2
  have up : ∀ s e : Int, -R ≤ e → e ≤ R → ∀ a, (a = s ∨ a = -s) → 0 ≤ a → s * e ≤ R * a ∧ -(R * a) ≤ s * e := by
    intro s e g1 g2 a ha h0
    have p1 := Int.mul_le_mul_of_nonneg_right g2 h0
    have p2 := Int.mul_le_mul_of_nonneg_right g1 h0
    rcases ha with rfl | rfl
    · rw [Int.mul_comm a e]; rw [Int.neg_mul] at p2; exact ⟨p1, p2⟩
    · rw [Int.neg_mul] at p2
      have e7 : e * -s = -(s * e) := by grind
      rw [e7] at p1 p2
      constructor <;> omega
  obtain ⟨a, ha, ha0⟩ : ∃ a : Int, (a = sx ∨ a = -sx) ∧ 0 ≤ a := by
    rcases Int.le_total 0 sx with h | h
    · exact ⟨sx, Or.inl rfl, h⟩
    · exact ⟨-sx, Or.inr rfl, by omega⟩
  obtain ⟨b, hb, hb0⟩ : ∃ b : Int, (b = sy ∨ b = -sy) ∧ 0 ≤ b := by
    rcases Int.le_total 0 sy with h | h
    · exact ⟨sy, Or.inl rfl, h⟩
    · exact ⟨-sy, Or.inr rfl, by omega⟩
  have u1 := up sx ey e3 e4 a ha ha0
  have u2 := up sy ex e1 e2 b hb hb0
  refine k a b (lin a b ?_ ?_) ?_ ?_
  · rw [hh, Int.mul_add]; omega
  · rw [hh, Int.mul_add]; omega
  · rcases ha with rfl | rfl
    · rfl
    · rw [Int.neg_mul_neg]
  · rcases hb with rfl | rfl
    · rfl
    · rw [Int.neg_mul_neg]
theorem near_far (xa ya xb yb xp yp R T ex ey : Int) (hR : 0 < R) (hT0 : 0 ≤ T) (hT1 : T ≤ R) (e1 : -R ≤ ex) (e2 : ex ≤ R) (e3 : -R ≤ ey) (e4 : ey ≤ R)
    (hx : 2 * R * (xp - xa) = 2 * T * (xb - xa) + ex) (hy : 2 * R * (yp - ya) = 2 * T * (yb - ya) + ey) : farI xa ya xb yb xp yp = 0 := by
  have r0 : rootI 0 = 0 := rfl
  unfold farI
  split
  · rename_i h
    have q : (xp - xa) * (xp - xa) + (yp - ya) * (yp - ya) = 0 := by
      refine ways_zero R _ _ ex ey hR e1 e2 e3 e4 ?_
      have m := Int.mul_nonneg hT0 (show 0 ≤ -(alI xa ya xb yb xp yp) by omega)
      have e : 2 * R * ((xp - xa) * (xp - xa) + (yp - ya) * (yp - ya)) = ex * (xp - xa) + ey * (yp - ya) - 2 * (T * -(alI xa ya xb yb xp yp)) := by
        unfold alI; grind
      omega
    have : sqI xa ya xp yp = 0 := by rw [← sq_swap]; exact q
    rw [this, r0]
  · split
    · rename_i h
      have q : (xp - xb) * (xp - xb) + (yp - yb) * (yp - yb) = 0 := by
        refine ways_zero R _ _ ex ey hR e1 e2 e3 e4 ?_
        have m := Int.mul_nonneg (show 0 ≤ R - T by omega) (show 0 ≤ alI xa ya xb yb xp yp - sqI xa ya xb yb by omega)
        have e : 2 * R * ((xp - xb) * (xp - xb) + (yp - yb) * (yp - yb)) = ex * (xp - xb) + ey * (yp - yb) - 2 * ((R - T) * (alI xa ya xb yb xp yp - sqI xa ya xb yb)) := by
          unfold alI sqI; grind
        omega
      have : sqI xb yb xp yp = 0 := by rw [← sq_swap]; exact q
      rw [this, r0]
    · rename_i h1 h2
      have hl : sqI xa ya xb yb = (xb - xa) * (xb - xa) + (yb - ya) * (yb - ya) := by unfold sqI; grind
      have hL : 0 < (xb - xa) * (xb - xa) + (yb - ya) * (yb - ya) := by omega
      have hc : 2 * R * crI xa ya xb yb xp yp = (xb - xa) * ey - (yb - ya) * ex := by unfold crI; grind
      have := height_lt R (xb - xa) (yb - ya) ex ey _ hR e1 e2 e3 e4 hc hL
      rw [Int.ediv_eq_zero_of_lt (sq_nonneg _) (by omega), r0]
theorem qh_rest (n d : Int) (h : 0 < d) : ∃ e, 2 * d * ((2 * n + d) / (2 * d)) = 2 * n + e ∧ -d ≤ e ∧ e ≤ d := by
  have h1 := Int.mul_ediv_add_emod (2 * n + d) (2 * d)
  have h2 := Int.emod_nonneg (2 * n + d) (show 2 * d ≠ 0 by omega)
  have h3 := Int.emod_lt_of_pos (2 * n + d) (show 0 < 2 * d by omega)
  exact ⟨d - (2 * n + d) % (2 * d), by omega, by omega, by omega⟩
theorem cross_near (xa ya xb yb xc yc xd yd : Int) (h : csB xa ya xb yb xc yc xd yd = true) :
    farI xa ya xb yb (cpX xa ya xb yb xc yc xd yd) (cpY xa ya xb yb xc yc xd yd) = 0 ∧ farI xc yc xd yd (cpX xa ya xb yb xc yc xd yd) (cpY xa ya xb yb xc yc xd yd) = 0 := by
  unfold csB at h
  rw [Bool.and_eq_true] at h
  have h1 := sg_mul _ _ (of_decide_eq_true h.1)
  have h2 := sg_mul _ _ (of_decide_eq_true h.2)
  rw [show crI xa ya xb yb xc yc = -(uuI xa ya xb yb xc yc) by unfold crI uuI; grind, show crI xa ya xb yb xd yd = rrI xa ya xb yb xc yc xd yd - uuI xa ya xb yb xc yc by unfold crI uuI rrI; grind] at h1
  rw [show crI xc yc xd yd xa ya = ttI xa ya xc yc xd yd by unfold crI ttI; grind, show crI xc yc xd yd xb yb = ttI xa ya xc yc xd yd - rrI xa ya xb yb xc yc xd yd by unfold crI ttI rrI; grind] at h2
  have ix : (xb - xa) * ttI xa ya xc yc xd yd - rrI xa ya xb yb xc yc xd yd * (xc - xa) = (xd - xc) * uuI xa ya xb yb xc yc := by unfold ttI rrI uuI; grind
  have iy : (yb - ya) * ttI xa ya xc yc xd yd - rrI xa ya xb yb xc yc xd yd * (yc - ya) = (yd - yc) * uuI xa ya xb yb xc yc := by unfold ttI rrI uuI; grind
  unfold cpX cpY
  generalize ttI xa ya xc yc xd yd = t at *
  generalize rrI xa ya xb yb xc yc xd yd = r at *
  generalize uuI xa ya xb yb xc yc = u at *
  unfold qhI
  by_cases hr : r < 0
  · rw [if_pos hr, if_pos hr]
    obtain ⟨ex, hx, e1, e2⟩ := qh_rest (-((xb - xa) * t)) (-r) (by omega)
    obtain ⟨ey, hy, e3, e4⟩ := qh_rest (-((yb - ya) * t)) (-r) (by omega)
    generalize (2 * -((xb - xa) * t) + -r) / (2 * -r) = qx at *
    generalize (2 * -((yb - ya) * t) + -r) / (2 * -r) = qy at *
    constructor
    · refine near_far _ _ _ _ _ _ (-r) (-t) ex ey (by omega) (by omega) (by omega) e1 e2 e3 e4 ?_ ?_ <;> grind
    · refine near_far _ _ _ _ _ _ (-r) (-u) ex ey (by omega) (by omega) (by omega) e1 e2 e3 e4 ?_ ?_ <;> grind
  · rw [if_neg hr, if_neg hr]
    obtain ⟨ex, hx, e1, e2⟩ := qh_rest ((xb - xa) * t) r (by omega)
    obtain ⟨ey, hy, e3, e4⟩ := qh_rest ((yb - ya) * t) r (by omega)
    generalize (2 * ((xb - xa) * t) + r) / (2 * r) = qx at *
    generalize (2 * ((yb - ya) * t) + r) / (2 * r) = qy at *
    constructor
    · refine near_far _ _ _ _ _ _ r t ex ey (by omega) (by omega) (by omega) e1 e2 e3 e4 ?_ ?_ <;> grind
    · refine near_far _ _ _ _ _ _ r u ex ey (by omega) (by omega) (by omega) e1 e2 e3 e4 ?_ ?_ <;> grind
theorem side_rng (xa ya xb yb xp yp : Int) : -1 ≤ sdI xa ya xb yb xp yp ∧ sdI xa ya xb yb xp yp ≤ 1 := by
  unfold sdI sgI; split <;> (try split) <;> omega
end Go.Proofs.YtmfchcaidfloaaaDoor
namespace Go.Proofs.YtmfchcaidfloaaaDoor
open Go.ChangeShapes Go.WideShapes Go.ChangeAt Go.RowKit

/-- What Below says of cells and marks. -/
theorem bcell {B : Nat} {W w1 : World} (hb : Below B W w1) : (∀ b o, b < B → w1.cell? ⟨b, o, none⟩ = W.cell? ⟨b, o, none⟩) ∧ (∀ b o, b < B → w1.frozen? ⟨b, o, none⟩ = W.frozen? ⟨b, o, none⟩) :=
  ⟨fun b o h => hb.cell (p := ⟨b, o, none⟩) h, fun b o h => hb.frozen (p := ⟨b, o, none⟩) h⟩
/-- The walk of the order of the text, behind a structure: so that nothing unfolds it. -/
structure WQ (P : Program) (ops : Array Oper) (C : World → Prop) (Q : Act → Prop) (l : List Oper) (a : Act) : Prop where
  out : wpQuiet P ops C Q l a
/-- A region that draws its order and leaves all that lies below the size as it was: one walk of the order of the text. -/
theorem wp_region_below {P : Program} {id : Nat} {Q : Exit → Act → World → Prop} {a : Act} {w : World} {l : List Oper} (hm : P.follows .mixedOrders = true) (hB : Region.lexB .any l.toArray = true)
    (h : WQ P l.toArray (fun w' => Below w.heap.size w w') (fun a' => ∀ w', Below w.heap.size w w' → Q .normal a' w') l a) : (Code.region id l.toArray true).wp P Q a w :=
  wp_region_quiet (C := fun w' => Below w.heap.size w w') hm hB ⟨rfl, rfl, rfl, Nat.le_refl _, fun _ _ => rfl⟩ (by simpa using h.out)
theorem wq_nil {P : Program} {ops : Array Oper} {C : World → Prop} {Q : Act → Prop} {a : Act} (h : Q a) : WQ P ops C Q [] a := ⟨h⟩
/-- One operation that yields a value. -/
theorem wq_val {P : Program} {ops : Array Oper} {C : World → Prop} {Q : Act → Prop} {o : Oper} {rest : List Oper} {a : Act} (hw : Region.wanted o (yielded ops a.tmps) = true)
    (h : ∃ v, (∀ w1, C w1 → (execOp a.eval o).run P w1 = .ok (.value v) w1) ∧ WQ P ops C Q rest (a.put o.dst v)) : WQ P ops C Q (o :: rest) a := by
  obtain ⟨v, h1, h2⟩ := h
  refine ⟨?_⟩
  unfold wpQuiet
  rw [if_pos hw]
  refine ⟨v, fun w hw => ?_, h2.out⟩
  unfold Oper.quietAt
  rw [h1 w hw]
  exact ⟨rfl, rfl⟩
/-- One call. -/
theorem wq_call {P : Program} {ops : Array Oper} {C : World → Prop} {Q : Act → Prop} {o : Oper} {rest : List Oper} {a : Act} (f : FuncId) (hw : Region.wanted o (yielded ops a.tmps) = true)
    (h : ∃ args, (∀ w1, C w1 → (execOp a.eval o).run P w1 = .ok (.enter f args) w1) ∧ ∃ v, (∀ w1, C w1 → Calls P f args w1 fun e w2 => e = .returned v ∧ C w2) ∧ WQ P ops C Q rest (a.put o.dst v)) : WQ P ops C Q (o :: rest) a := by
  obtain ⟨args, h1, v, h2, h3⟩ := h
  refine ⟨?_⟩
  unfold wpQuiet
  rw [if_pos hw]
  refine ⟨v, fun w hw => ?_, h3.out⟩
  unfold Oper.quietAt
  rw [h1 w hw]
  exact ⟨rfl, h2 w hw⟩
/-- One operation whose guard says no. -/
theorem wq_skip {P : Program} {ops : Array Oper} {C : World → Prop} {Q : Act → Prop} {o : Oper} {rest : List Oper} {a : Act} (hw : Region.wanted o (yielded ops a.tmps) = false)
    (h : WQ P ops C Q rest (a.put o.dst undef)) : WQ P ops C Q (o :: rest) a := by
  refine ⟨?_⟩
  unfold wpQuiet
  rw [if_neg (by simp [hw])]
  exact h.out
theorem bseq {a b c : World} (h : Below a.heap.size a b) (k : Below b.heap.size b c) : Below a.heap.size a c := h.trans (k.mono h.size)
theorem one_alloc {w : World} (o1 : Obj) : Below w.heap.size w (w.alloc o1) := (Below.refl _ _).alloc (Nat.le_refl _) _
theorem two_allocs {w : World} (o1 o2 : Obj) : Below w.heap.size w ((w.alloc o1).alloc o2) := ((Below.refl _ _).alloc (Nat.le_refl _) _).alloc (by simp) _
theorem three_allocs {w : World} (o1 o2 o3 : Obj) : Below w.heap.size w (((w.alloc o1).alloc o2).alloc o3) := (two_allocs _ _).alloc (two_allocs _ _).size _
theorem four_allocs {w : World} (o1 o2 o3 o4 : Obj) : Below w.heap.size w ((((w.alloc o1).alloc o2).alloc o3).alloc o4) := (three_allocs _ _ _).alloc (three_allocs _ _ _).size _
theorem five_allocs {w : World} (o1 o2 o3 o4 o5 : Obj) : Below w.heap.size w (((((w.alloc o1).alloc o2).alloc o3).alloc o4).alloc o5) := (four_allocs _ _ _ _).alloc (four_allocs _ _ _ _).size _
/-- A contract that makes memory, met in a world of the class. -/
theorem calls_below {P : Program} {f : FuncId} {args : Array Value} {w w1 : World} {v : Value} (hb : Below w.heap.size w w1)
    (h : Calls P f args w1 fun e w' => e = .returned v ∧ Below w1.heap.size w1 w') : Calls P f args w1 fun e w'' => e = .returned v ∧ Below w.heap.size w w'' :=
  h.mono fun _ _ ⟨he, h2⟩ => ⟨he, hb.trans (h2.mono hb.size)⟩
theorem calls_below_same {P : Program} {f : FuncId} {args : Array Value} {w w1 : World} {v : Value} (hb : Below w.heap.size w w1)
    (h : Calls P f args w1 fun e w' => e = .returned v ∧ w1 = w') : Calls P f args w1 fun e w'' => e = .returned v ∧ Below w.heap.size w w'' :=
  h.mono fun _ _ ⟨he, h2⟩ => ⟨he, h2 ▸ hb⟩
/-- == on two structs of two cells. -/
theorem eql2 (p q : Prop) [Decidable p] [Decidable q] (w : World) : (if p then if q then Result.ok (Next.value (.bool true)) w else Result.ok (Next.value (.bool false)) w else Result.ok (Next.value (.bool false)) w) = Result.ok (Next.value (.bool (decide p && decide q))) w := by
  by_cases hp : p <;> by_cases hq : q <;> simp [hp, hq]
end Go.Proofs.YtmfchcaidfloaaaDoor
namespace Go.Proofs.YtmfchcaidfloaaaDoor
open Go.ChangeShapes Go.WideShapes Go.ChangeAt Go.RowKit

theorem in_any (n a b : Int) (w : World) : Calls Tryd.prog 55 #[.int .i64 n, .int .i64 a, .int .i64 b] w fun e w' => e = .returned (.bool (inI n a b)) ∧ w = w' := by
  by_cases h1 : a ≤ n <;> by_cases h2 : n ≤ b
  all_goals
    have hs : inI n a b = (decide (a ≤ n) && decide (n ≤ b)) := rfl
    simp only [h1, h2, decide_true, decide_false, Bool.and_true, Bool.and_false] at hs
    rw [hs]; clear hs
    go_enter Tryd.func55, Tryd.ntmps55
    go_wp2
    go_ret
    exact ⟨rfl, rfl⟩
end Go.Proofs.YtmfchcaidfloaaaDoor
namespace Go.Proofs.YtmfchcaidfloaaaDoor
open Go.ChangeShapes Go.WideShapes Go.ChangeAt Go.RowKit
def okI (x y : Int) : Bool := inI x 0 20000 && inI y 0 20000
theorem ok_bd {x y : Int} (h : okI x y = true) : 0 ≤ x ∧ x ≤ 20000 ∧ 0 ≤ y ∧ y ≤ 20000 := by
  simp [okI, inI] at h; omega

theorem ok_spec (x y : Int) (w : World) : Calls Tryd.prog 85 #[.agg #[.int .i64 x, .int .i64 y]] w fun e w' => e = .returned (.bool (okI x y)) ∧ Below w.heap.size w w' := by
  have hs : okI x y = (inI x 0 20000 && inI y 0 20000) := rfl
  cases hx : inI x 0 20000
  · rw [hx, Bool.false_and] at hs; rw [hs]; clear hs
    go_enter Tryd.func85, Tryd.ntmps85
    go_wp2_with ((with_reducible refine (in_any _ _ _ _).mono ?_); rintro e w' ⟨rfl, rfl⟩)
    go_ret
    exact ⟨rfl, (Below.refl _ _).alloc (Nat.le_refl _) _⟩
  · cases hy : inI y 0 20000
    all_goals
      rw [hx, hy] at hs; simp only [Bool.true_and] at hs; rw [hs]; clear hs
      go_enter Tryd.func85, Tryd.ntmps85
      go_wp2_with ((with_reducible refine (in_any _ _ _ _).mono ?_); rintro e w' ⟨rfl, rfl⟩)
      go_ret
      exact ⟨rfl, (Below.refl _ _).alloc (Nat.le_refl _) _⟩
theorem valid_impl (x y : Int) (w : World) : Calls Tryd.prog 57 #[.agg #[.int .i64 x, .int .i64 y]] w fun e w' => e = .returned (.bool (okI x y)) ∧ Below w.heap.size w w' := by
  have hs : okI x y = ((decide (0 ≤ x) && decide (x ≤ 20000)) && (decide (0 ≤ y) && decide (y ≤ 20000))) := rfl
  cases h1 : decide (0 ≤ x)
  · simp only [h1, Bool.false_and] at hs
    rw [hs]; clear hs
    go_enter Tryd.func57, Tryd.ntmps57
    go_wp2
    go_ret
    exact ⟨rfl, (Below.refl _ _).alloc (Nat.le_refl _) _⟩
  cases h2 : decide (x ≤ 20000)
  · simp only [h1, h2, Bool.false_and, Bool.and_false] at hs
    rw [hs]; clear hs
    go_enter Tryd.func57, Tryd.ntmps57
    go_wp2
    go_ret
    exact ⟨rfl, (Below.refl _ _).alloc (Nat.le_refl _) _⟩
  cases h3 : decide (0 ≤ y) <;> cases h4 : decide (y ≤ 20000)
  all_goals
    simp only [h1, h2, h3, h4, Bool.and_false, Bool.and_true] at hs
    rw [hs]; clear hs
    go_enter Tryd.func57, Tryd.ntmps57
    go_wp2
    go_ret
    exact ⟨rfl, (Below.refl _ _).alloc (Nat.le_refl _) _⟩

/-- A row of points lies at the start of the block b. -/
def PtsAt (w : World) (b : Nat) (zs : List (Int × Int)) : Prop := b < w.heap.size ∧ ∀ j, j < zs.length → w.cell? ⟨b, j * 2, none⟩ = some (.int .i64 (zs.getD j (0, 0)).1) ∧ w.cell? ⟨b, j * 2 + 1, none⟩ = some (.int .i64 (zs.getD j (0, 0)).2)
theorem PtsAt.below {B b : Nat} {w w' : World} {zs : List (Int × Int)} (h : PtsAt w b zs) (hb : Below B w w') (hB : b < B) : PtsAt w' b zs :=
  ⟨Nat.lt_of_lt_of_le h.1 hb.size, fun j hj => ⟨(hb.cell (p := ⟨b, j * 2, none⟩) hB).trans (h.2 j hj).1, (hb.cell (p := ⟨b, j * 2 + 1, none⟩) hB).trans (h.2 j hj).2⟩⟩
def allOk (zs : List (Int × Int)) : Bool := zs.all fun p => okI p.1 p.2
theorem allOk_bad (zs : List (Int × Int)) (k : Nat) (h : k < zs.length) (hk : okI (zs.getD k (0, 0)).1 (zs.getD k (0, 0)).2 = false) : allOk zs = false := by
  unfold allOk
  rw [List.all_eq_false]
  have e : zs.getD k (0, 0) = zs[k] := by simp [h]
  rw [e] at hk
  exact ⟨zs[k], List.getElem_mem h, by simp [hk]⟩
theorem allOk_snoc (zs : List (Int × Int)) (k : Nat) (h : k < zs.length) (ha : allOk (zs.take k) = true) (hk : okI (zs.getD k (0, 0)).1 (zs.getD k (0, 0)).2 = true) : allOk (zs.take (k + 1)) = true := by
  unfold allOk at *
  have e : zs.getD k (0, 0) = zs[k] := by simp [h]
  rw [e] at hk
  rw [List.take_succ_eq_append_getElem h, List.all_append, ha]
  simp [hk]
theorem allOk_end (zs : List (Int × Int)) (k : Nat) (h : zs.length ≤ k) (ha : allOk (zs.take k) = true) : allOk zs = true := by
  rw [List.take_of_length_le h] at ha; exact ha

set_option maxHeartbeats 1000000 in
theorem allValid_any (b len cap : Nat) (zs : List (Int × Int)) (w : World) (hz : len = zs.length) (hl : len ≤ 1000) (hp : PtsAt w b zs) :
    Calls Tryd.prog 111 #[.slice (some ⟨b, 0, none⟩) len cap] w fun e w' => e = .returned (.bool (allOk zs)) ∧ Below w.heap.size w w' := by
  have HZ := Lib.hid hz
  have HP := Lib.hid hp
  clear hz hp
  go_enter Tryd.func111, Tryd.ntmps111
  go_wp2
  go_loopw [7] (fun i wr => ∃ k : Nat, k ≤ len ∧ i = .int .i64 k ∧ Hid (allOk (zs.take k) = true) ∧ Hid (Below w.heap.size w wr)) (fun i _ => len - (intOf i).toNat)
  case atStart => exact ⟨0, by omega, rfl, Lib.hid (by simp [allOk]), Lib.hid (Below.refl _ _)⟩
  case round =>
    obtain ⟨k, hk, rfl, ha, hb⟩ := hrel
    by_cases hlt : k < len
    · have hkz : k < zs.length := by have := HZ.out; omega
      have hc := (HP.out.below hb.out HP.out.1).2 k hkz
      obtain ⟨hc1, hc2⟩ := hc
      have HS := Lib.hid (allOk_snoc zs k hkz ha.out)
      have HBad := Lib.hid (allOk_bad zs k hkz)
      generalize (zs.getD k (0, 0)).1 = x at *
      generalize (zs.getD k (0, 0)).2 = y at *
      cases ho : okI x y
      · go_wp2_with fail
        refine (valid_impl _ _ _).mono ?_
        rintro e w1 ⟨rfl, hb1⟩
        have HB1 := Lib.hid hb1
        clear hb1
        go_wp2
        go_ret
        exact ⟨ret_bool (HBad.out ho).symm, (bseq (hb.out.alloc hb.out.size _) HB1.out)⟩
      · go_wp2_with fail
        refine (valid_impl _ _ _).mono ?_
        rintro e w1 ⟨rfl, hb1⟩
        have HB1 := Lib.hid hb1
        clear hb1
        go_wp2
        go_roundw
        case rel => exact ⟨k + 1, by omega, by go_num, Lib.hid (HS.out ho), Lib.hid (bseq (hb.out.alloc hb.out.size _) HB1.out)⟩
        case measure => simp [intOf]; omega
    · go_wp2
      go_ret
      exact ⟨ret_bool (allOk_end zs k (by have := HZ.out; omega) ha.out).symm, hb.out⟩

theorem minus_any (px py qx qy : Int) (w : World) (h1 : -20000 ≤ px ∧ px ≤ 20000) (h2 : -20000 ≤ py ∧ py ≤ 20000) (h3 : -20000 ≤ qx ∧ qx ≤ 20000) (h4 : -20000 ≤ qy ∧ qy ≤ 20000) :
    Calls Tryd.prog 151 #[.agg #[.int .i64 px, .int .i64 py], .agg #[.int .i64 qx, .int .i64 qy]] w fun e w' => e = .returned (.agg #[.int .i64 (px - qx), .int .i64 (py - qy)]) ∧ Below w.heap.size w w' := by
  go_enter Tryd.func151, Tryd.ntmps151
  go_wp2
  exact bodyPost_ret (v := .agg #[.int .i64 (px - qx), .int .i64 (py - qy)]) (by simp [results, Tryd.results151, go_sem]) rfl ⟨rfl, (two_allocs _ _).alloc (by simp; omega) _⟩
theorem cross_any (px py qx qy : Int) (w : World) (h1 : -20000 ≤ px ∧ px ≤ 20000) (h2 : -20000 ≤ py ∧ py ≤ 20000) (h3 : -20000 ≤ qx ∧ qx ≤ 20000) (h4 : -20000 ≤ qy ∧ qy ≤ 20000) :
    Calls Tryd.prog 133 #[.agg #[.int .i64 px, .int .i64 py], .agg #[.int .i64 qx, .int .i64 qy]] w fun e w' => e = .returned (.int .i64 (px * qy - py * qx)) ∧ Below w.heap.size w w' := by
  have m1 := mulB px qy 20000 20000 h1.1 h1.2 h4.1 h4.2
  have m2 := mulB py qx 20000 20000 h2.1 h2.2 h3.1 h3.2
  go_enter Tryd.func133, Tryd.ntmps133
  go_wp2
  go_ret
  exact ⟨rfl, two_allocs _ _⟩
theorem dot_any (px py qx qy : Int) (w : World) (h1 : -20000 ≤ px ∧ px ≤ 20000) (h2 : -20000 ≤ py ∧ py ≤ 20000) (h3 : -20000 ≤ qx ∧ qx ≤ 20000) (h4 : -20000 ≤ qy ∧ qy ≤ 20000) :
    Calls Tryd.prog 152 #[.agg #[.int .i64 px, .int .i64 py], .agg #[.int .i64 qx, .int .i64 qy]] w fun e w' => e = .returned (.int .i64 (px * qx + py * qy)) ∧ Below w.heap.size w w' := by
  have m1 := mulB px qx 20000 20000 h1.1 h1.2 h3.1 h3.2
  have m2 := mulB py qy 20000 20000 h2.1 h2.2 h4.1 h4.2
  go_enter Tryd.func152, Tryd.ntmps152
  go_wp2
  go_ret
  exact ⟨rfl, two_allocs _ _⟩
theorem nan_any (n : Int) (w : World) : Calls Tryd.prog 183 #[.int .i64 n] w fun e w' => e = .returned (.bool false) ∧ w = w' := by
  go_enter Tryd.func183, Tryd.ntmps183
  go_wp2
  go_ret
  exact ⟨rfl, rfl⟩
theorem cmp_any (n : Int) (w : World) : Calls Tryd.prog 174 #[.int .i64 n, .int .i64 0] w fun e w' => e = .returned (.int .i64 (sgI n)) ∧ w = w' := by
  have hs : sgI n = if 0 < n then 1 else if n < 0 then -1 else 0 := rfl
  rcases Int.lt_trichotomy n 0 with h | h | h
  · rw [if_neg (by omega), if_pos h] at hs
    rw [hs]; clear hs
    go_enter Tryd.func174, Tryd.ntmps174
    go_wp2_with ((with_reducible refine (nan_any _ _).mono ?_); rintro e w' ⟨rfl, rfl⟩)
    go_ret
    exact ⟨rfl, rfl⟩
  · subst h
    go_enter Tryd.func174, Tryd.ntmps174
    go_wp2_with ((with_reducible refine (nan_any _ _).mono ?_); rintro e w' ⟨rfl, rfl⟩)
    go_ret
    exact ⟨rfl, rfl⟩
  · rw [if_pos h] at hs
    rw [hs]; clear hs
    go_enter Tryd.func174, Tryd.ntmps174
    go_wp2_with ((with_reducible refine (nan_any _ _).mono ?_); rintro e w' ⟨rfl, rfl⟩)
    go_ret
    exact ⟨rfl, rfl⟩
def in20 (x : Int) : Prop := -20000 ≤ x ∧ x ≤ 20000
theorem step_any (xa ya xb yb : Int) (w : World) (ha : okI xa ya = true) (hb : okI xb yb = true) :
    Calls Tryd.prog 175 #[.agg #[.int .i64 xa, .int .i64 ya, .int .i64 xb, .int .i64 yb]] w fun e w' => e = .returned (.agg #[.int .i64 (xb - xa), .int .i64 (yb - ya)]) ∧ Below w.heap.size w w' := by
  have h1 := ok_bd ha
  have h2 := ok_bd hb
  clear ha hb
  go_enter Tryd.func175, Tryd.ntmps175
  go_wp2_with fail
  refine (minus_any _ _ _ _ _ (by omega) (by omega) (by omega) (by omega)).mono ?_
  rintro e w1 ⟨rfl, hb1⟩
  obtain ⟨hc, hf⟩ := bcell hb1
  have HB1 := Lib.hid hb1
  clear hb1
  go_wp2
  exact bodyPost_ret (v := .agg #[.int .i64 (xb - xa), .int .i64 (yb - ya)]) (by simp [results, Tryd.results175, go_sem, hc]) rfl ⟨rfl, ((bseq (two_allocs _ _) HB1.out).setCell (by simp) _).setCell (by simp) _⟩
theorem side_any (xa ya xb yb xp yp : Int) (w : World) (ha : okI xa ya = true) (hb : okI xb yb = true) (hp : okI xp yp = true) :
    Calls Tryd.prog 150 #[.agg #[.int .i64 xa, .int .i64 ya, .int .i64 xb, .int .i64 yb], .agg #[.int .i64 xp, .int .i64 yp]] w fun e w' => e = .returned (.int .i64 (sdI xa ya xb yb xp yp)) ∧ Below w.heap.size w w' := by
  have h1 := ok_bd ha
  have h2 := ok_bd hb
  have h3 := ok_bd hp
  have HA := Lib.hid ha
  have HB := Lib.hid hb
  clear ha hb hp
  have HE : sgI ((xb - xa) * (yp - ya) - (yb - ya) * (xp - xa)) = sdI xa ya xb yb xp yp := rfl
  have HE' := Lib.hid HE
  clear HE
  go_enter Tryd.func150, Tryd.ntmps150
  go_wp2
  refine wp_region_below (by kernel_rfl) (by kernel_rfl) ?_
  (refine wq_val (by go_simp) ?_; apply Exists.intro; refine ⟨fun w1 hw1 => ?_, ?_⟩; (obtain ⟨hc, hf⟩ := bcell hw1; clear hw1; go_simp; (try with_reducible rfl)); (try simp only [Act.put, List.setIfInBounds_toArray, List.set_cons_zero, List.set_cons_succ]))
  (refine wq_call 175 (by go_simp) ?_; apply Exists.intro; refine ⟨fun w1 hw1 => ?_, ?_⟩; (clear hw1; go_simp; (try with_reducible rfl)); apply Exists.intro; refine ⟨fun w1 hw1 => ?_, ?_⟩; (exact calls_below hw1 (step_any _ _ _ _ _ HA.out HB.out)); (try simp only [Act.put, List.setIfInBounds_toArray, List.set_cons_zero, List.set_cons_succ]))
  (refine wq_val (by go_simp) ?_; apply Exists.intro; refine ⟨fun w1 hw1 => ?_, ?_⟩; (obtain ⟨hc, hf⟩ := bcell hw1; clear hw1; go_simp; (try with_reducible rfl)); (try simp only [Act.put, List.setIfInBounds_toArray, List.set_cons_zero, List.set_cons_succ]))
  (refine wq_val (by go_simp) ?_; apply Exists.intro; refine ⟨fun w1 hw1 => ?_, ?_⟩; (obtain ⟨hc, hf⟩ := bcell hw1; clear hw1; go_simp; (try with_reducible rfl)); (try simp only [Act.put, List.setIfInBounds_toArray, List.set_cons_zero, List.set_cons_succ]))
  (refine wq_val (by go_simp) ?_; apply Exists.intro; refine ⟨fun w1 hw1 => ?_, ?_⟩; (obtain ⟨hc, hf⟩ := bcell hw1; clear hw1; go_simp; (try with_reducible rfl)); (try simp only [Act.put, List.setIfInBounds_toArray, List.set_cons_zero, List.set_cons_succ]))
  (refine wq_call 151 (by go_simp) ?_; apply Exists.intro; refine ⟨fun w1 hw1 => ?_, ?_⟩; (clear hw1; go_simp; (try with_reducible rfl)); apply Exists.intro; refine ⟨fun w1 hw1 => ?_, ?_⟩; (exact calls_below hw1 (minus_any _ _ _ _ _ (by omega) (by omega) (by omega) (by omega))); (try simp only [Act.put, List.setIfInBounds_toArray, List.set_cons_zero, List.set_cons_succ]))
  (refine wq_call 133 (by go_simp) ?_; apply Exists.intro; refine ⟨fun w1 hw1 => ?_, ?_⟩; (clear hw1; go_simp; (try with_reducible rfl)); apply Exists.intro; refine ⟨fun w1 hw1 => ?_, ?_⟩; (exact calls_below hw1 (cross_any _ _ _ _ _ (by omega) (by omega) (by omega) (by omega))); (try simp only [Act.put, List.setIfInBounds_toArray, List.set_cons_zero, List.set_cons_succ]))
  (refine wq_call 174 (by go_simp) ?_; apply Exists.intro; refine ⟨fun w1 hw1 => ?_, ?_⟩; (clear hw1; go_simp; (try with_reducible rfl)); apply Exists.intro; refine ⟨fun w1 hw1 => ?_, ?_⟩; (exact calls_below_same hw1 (cmp_any _ _)); (try simp only [Act.put, List.setIfInBounds_toArray, List.set_cons_zero, List.set_cons_succ]))
  (refine wq_val (by go_simp) ?_; apply Exists.intro; refine ⟨fun w1 hw1 => ?_, ?_⟩; (obtain ⟨hc, hf⟩ := bcell hw1; clear hw1; go_simp; (try with_reducible rfl)); (try simp only [Act.put, List.setIfInBounds_toArray, List.set_cons_zero, List.set_cons_succ]))
  refine wq_nil ?_
  intro w1 hb1
  have HB1 := Lib.hid hb1
  clear hb1
  go_wp2
  go_ret
  exact ⟨ret_int HE'.out, bseq (two_allocs _ _) HB1.out⟩
end Go.Proofs.YtmfchcaidfloaaaDoor
namespace Go.Proofs.YtmfchcaidfloaaaDoor

abbrev P2 := Int × Int
/-- The point with an index, going around. -/
def pt (zs : List P2) (k : Nat) : P2 := zs.getD (k % zs.length) (0, 0)
def allTo (f : Nat → Bool) : Nat → Bool
  | 0 => true
  | k + 1 => allTo f k && f k
def sumTo (f : Nat → Int) : Nat → Int
  | 0 => 0
  | k + 1 => sumTo f k + f k
theorem allTo_iff (f : Nat → Bool) (n : Nat) : allTo f n = true ↔ ∀ j, j < n → f j = true := by
  induction n with
  | zero => simp [allTo]
  | succ n ih =>
    simp only [allTo, Bool.and_eq_true, ih]
    constructor
    · rintro ⟨h1, h2⟩ j hj
      rcases Nat.lt_succ_iff_lt_or_eq.1 hj with h | rfl
      · exact h1 j h
      · exact h2
    · intro h
      exact ⟨fun j hj => h j (by omega), h n (by omega)⟩
theorem allTo_bad {f : Nat → Bool} {n k : Nat} (hk : k < n) (h : f k = false) : allTo f n = false := by
  rw [Bool.eq_false_iff]
  intro hc
  rw [(allTo_iff f n).1 hc k hk] at h
  cases h
theorem allTo_ok {f : Nat → Bool} {n : Nat} (h : ∀ j, j < n → f j = true) : allTo f n = true := (allTo_iff f n).2 h
theorem allTo_congr {f g : Nat → Bool} {n : Nat} (h : ∀ j, j < n → f j = g j) : allTo f n = allTo g n := by
  rw [Bool.eq_iff_iff, allTo_iff, allTo_iff]
  exact ⟨fun a j hj => by rw [← h j hj]; exact a j hj, fun a j hj => by rw [h j hj]; exact a j hj⟩
theorem sumTo_bd {f : Nat → Int} {n : Nat} {M : Int} (h : ∀ j, j < n → -M ≤ f j ∧ f j ≤ M) : -(n * M) ≤ sumTo f n ∧ sumTo f n ≤ n * M := by
  induction n with
  | zero => simp [sumTo]
  | succ n ih =>
    have h1 := ih (fun j hj => h j (by omega))
    have h2 := h n (by omega)
    have e : ((n + 1 : Nat) : Int) * M = n * M + M := by rw [Int.natCast_add, Int.add_mul]; simp
    simp only [sumTo]
    omega
theorem sumTo_congr {f g : Nat → Int} {n : Nat} (h : ∀ j, j < n → f j = g j) : sumTo f n = sumTo g n := by
  induction n with
  | zero => rfl
  | succ n ih => simp only [sumTo]; rw [ih (fun j hj => h j (by omega)), h n (by omega)]

def onP (a b p : P2) : Bool := onB a.1 a.2 b.1 b.2 p.1 p.2
def tcP (a b c d : P2) : Bool := tcB a.1 a.2 b.1 b.2 c.1 c.2 d.1 d.2
def crP (a b : P2) : Int := a.1 * b.2 - a.2 * b.1
def okP (a : P2) : Bool := okI a.1 a.2
def eqP (a b : P2) : Bool := decide (a.1 = b.1) && decide (a.2 = b.2)
def goOk (zs : List P2) (k : Nat) : Bool := !(eqP (pt zs k) (pt zs (k + 1)) || onP (pt zs k) (pt zs (k + 1)) (pt zs (k + 2)) || onP (pt zs (k + 1)) (pt zs (k + 2)) (pt zs k))
def cellOk (zs : List P2) (i k : Nat) : Bool := !(decide (i + 2 ≤ k) && decide ((k + 1) % zs.length ≠ i) && tcP (pt zs i) (pt zs (i + 1)) (pt zs k) (pt zs (k + 1)))
def goB (zs : List P2) : Bool := allTo (goOk zs) zs.length
def apB (zs : List P2) : Bool := allTo (fun i => allTo (cellOk zs i) zs.length) zs.length
def areaI (zs : List P2) : Int := sumTo (fun k => crP (pt zs k) (pt zs (k + 1))) zs.length
def polyB (zs : List P2) : Bool := decide (3 ≤ zs.length) && decide (zs.length ≤ 24) && allOk zs && goB zs && apB zs && decide (0 < areaI zs)

theorem eqP_iff (a b : P2) : eqP a b = true ↔ a = b := by
  obtain ⟨a1, a2⟩ := a
  obtain ⟨b1, b2⟩ := b
  simp [eqP]
theorem allOk_at {zs : List P2} (h : allOk zs = true) (k : Nat) (hk : k < zs.length) : okI (zs.getD k (0, 0)).1 (zs.getD k (0, 0)).2 = true := by
  unfold allOk at h
  rw [List.all_eq_true] at h
  have e : zs.getD k (0, 0) = zs[k] := by simp [hk]
  rw [e]
  exact h _ (List.getElem_mem hk)
theorem pt_ok {zs : List P2} (h : allOk zs = true) (h0 : 0 < zs.length) (k : Nat) : okI (pt zs k).1 (pt zs k).2 = true := allOk_at h _ (Nat.mod_lt _ h0)
theorem pt_lt {zs : List P2} {k : Nat} (h : k < zs.length) : pt zs k = zs.getD k (0, 0) := by rw [pt, Nat.mod_eq_of_lt h]
theorem cr_bd {a b : P2} (ha : okI a.1 a.2 = true) (hb : okI b.1 b.2 = true) : -400000000 ≤ crP a b ∧ crP a b ≤ 400000000 := by
  have h1 := ok_bd ha
  have h2 := ok_bd hb
  have m1 := mulB a.1 b.2 20000 20000 (by omega) (by omega) (by omega) (by omega)
  have m2 := mulB a.2 b.1 20000 20000 (by omega) (by omega) (by omega) (by omega)
  have p1 := Int.mul_nonneg (show 0 ≤ a.1 by omega) (show 0 ≤ b.2 by omega)
  have p2 := Int.mul_nonneg (show 0 ≤ a.2 by omega) (show 0 ≤ b.1 by omega)
  unfold crP
  omega
theorem area_bd {zs : List P2} (h : allOk zs = true) (h0 : 0 < zs.length) (k : Nat) : -(k * 400000000) ≤ sumTo (fun k => crP (pt zs k) (pt zs (k + 1))) k ∧ sumTo (fun k => crP (pt zs k) (pt zs (k + 1))) k ≤ k * 400000000 :=
  sumTo_bd fun j _ => cr_bd (pt_ok h h0 j) (pt_ok h h0 (j + 1))
theorem poly_len {zs : List P2} (h : ¬ (3 ≤ zs.length ∧ zs.length ≤ 24)) : polyB zs = false := by
  unfold polyB
  rw [show (decide (3 ≤ zs.length) && decide (zs.length ≤ 24)) = false by simp; omega]
  rfl
theorem poly_ok {zs : List P2} (h : polyB zs = true) : 3 ≤ zs.length ∧ zs.length ≤ 24 ∧ allOk zs = true ∧ goB zs = true ∧ apB zs = true ∧ 0 < areaI zs := by
  unfold polyB at h
  simp only [Bool.and_eq_true, decide_eq_true_eq] at h
  exact ⟨h.1.1.1.1.1, h.1.1.1.1.2, h.1.1.1.2, h.1.1.2, h.1.2, h.2⟩
theorem poly_of {zs : List P2} (h1 : 3 ≤ zs.length) (h2 : zs.length ≤ 24) (h3 : allOk zs = true) : polyB zs = (goB zs && apB zs && decide (0 < areaI zs)) := by
  unfold polyB
  rw [decide_eq_true h1, decide_eq_true h2, h3]
  rfl
theorem poly_bad {zs : List P2} (h3 : allOk zs = false) : polyB zs = false := by
  unfold polyB
  rw [h3]
  simp
end Go.Proofs.YtmfchcaidfloaaaDoor
namespace Go.Proofs.YtmfchcaidfloaaaDoor
open Go.ChangeShapes Go.WideShapes Go.ChangeAt Go.RowKit

def RootInv (n lo hi : Int) : Prop := (lo = 0 ∨ lo * lo ≤ n) ∧ n < (hi + 1) * (hi + 1)

theorem sq_bd (m : Int) (h0 : 0 ≤ m) (h1 : m ≤ 3037000499) : 0 ≤ m * m ∧ m * m ≤ 9223372030926249001 := by
  refine ⟨Int.mul_nonneg h0 h0, ?_⟩
  have := Int.mul_le_mul h1 h1 h0 (by omega)
  omega

end Go.Proofs.YtmfchcaidfloaaaDoor
namespace Go.Proofs.YtmfchcaidfloaaaDoor
open Go.ChangeShapes Go.WideShapes Go.ChangeAt Go.RowKit

def ok4 (xa ya xb yb xc yc xd yd : Int) : Bool := okI xa ya && okI xb yb && okI xc yc && okI xd yd
theorem cross_spec (xa ya xb yb xc yc : Int) (w : World) (ha : okI xa ya = true) (hb : okI xb yb = true) (hc : okI xc yc = true) :
    Calls Tryd.prog 126 #[.agg #[.int .i64 xa, .int .i64 ya], .agg #[.int .i64 xb, .int .i64 yb], .agg #[.int .i64 xc, .int .i64 yc]] w fun e w' => e = .returned (.int .i64 (crI xa ya xb yb xc yc)) ∧ Below w.heap.size w w' := by
  have ba := ok_bd ha
  have bb := ok_bd hb
  have bc := ok_bd hc
  have HA := Lib.hid ha
  have HB := Lib.hid hb
  have HC := Lib.hid hc
  clear ha hb hc
  have m1 := mulB (xb - xa) (yc - ya) 20000 20000 (by omega) (by omega) (by omega) (by omega)
  have m2 := mulB (yb - ya) (xc - xa) 20000 20000 (by omega) (by omega) (by omega) (by omega)
  go_enter Tryd.func126, Tryd.ntmps126
  go_wp2
  go_ret
  exact ⟨rfl, three_allocs _ _ _⟩
theorem cr_rng (xa ya xb yb xc yc : Int) (ha : okI xa ya = true) (hb : okI xb yb = true) (hc : okI xc yc = true) : -800000000 ≤ crI xa ya xb yb xc yc ∧ crI xa ya xb yb xc yc ≤ 800000000 := by
  have ba := ok_bd ha
  have bb := ok_bd hb
  have bc := ok_bd hc
  clear ha hb hc
  have m1 := mulB (xb - xa) (yc - ya) 20000 20000 (by omega) (by omega) (by omega) (by omega)
  have m2 := mulB (yb - ya) (xc - xa) 20000 20000 (by omega) (by omega) (by omega) (by omega)
  unfold crI
  omega
theorem side_spec (xa ya xb yb xc yc : Int) (w : World) (ha : okI xa ya = true) (hb : okI xb yb = true) (hc : okI xc yc = true) :
    Calls Tryd.prog 109 #[.agg #[.int .i64 xa, .int .i64 ya], .agg #[.int .i64 xb, .int .i64 yb], .agg #[.int .i64 xc, .int .i64 yc]] w fun e w' => e = .returned (.int .i64 (sdI xa ya xb yb xc yc)) ∧ Below w.heap.size w w' := by
  have hs : sdI xa ya xb yb xc yc = if 0 < crI xa ya xb yb xc yc then 1 else if crI xa ya xb yb xc yc < 0 then -1 else 0 := rfl
  have hx := cross_spec xa ya xb yb xc yc
  by_cases h1 : 0 < crI xa ya xb yb xc yc
  · rw [if_pos h1] at hs
    rw [hs]; clear hs
    have HX := Lib.hid hx
    clear hx
    go_enter Tryd.func109, Tryd.ntmps109
    go_wp2_with fail
    refine (HX.out _ ha hb hc).mono ?_
    rintro e w1 ⟨rfl, g1⟩
    obtain ⟨k1, q1⟩ := bcell g1
    have HW1 := Lib.hid g1
    clear g1
    clear k1 q1
    go_wp2
    go_ret
    exact ⟨rfl, bseq (three_allocs _ _ _) HW1.out⟩
  by_cases h2 : crI xa ya xb yb xc yc < 0
  · rw [if_neg h1, if_pos h2] at hs
    rw [hs]; clear hs
    have HX := Lib.hid hx
    clear hx
    go_enter Tryd.func109, Tryd.ntmps109
    go_wp2_with fail
    refine (HX.out _ ha hb hc).mono ?_
    rintro e w1 ⟨rfl, g1⟩
    obtain ⟨k1, q1⟩ := bcell g1
    have HW1 := Lib.hid g1
    clear g1
    clear k1 q1
    go_wp2
    go_ret
    exact ⟨rfl, bseq (three_allocs _ _ _) HW1.out⟩
  · rw [if_neg h1, if_neg h2] at hs
    rw [hs]; clear hs
    have HX := Lib.hid hx
    clear hx
    go_enter Tryd.func109, Tryd.ntmps109
    go_wp2_with fail
    refine (HX.out _ ha hb hc).mono ?_
    rintro e w1 ⟨rfl, g1⟩
    obtain ⟨k1, q1⟩ := bcell g1
    have HW1 := Lib.hid g1
    clear g1
    clear k1 q1
    go_wp2
    go_ret
    exact ⟨rfl, bseq (three_allocs _ _ _) HW1.out⟩
theorem min_spec (x y : Int) (w : World) : Calls Tryd.prog 104 #[.int .i64 x, .int .i64 y] w fun e w' => e = .returned (.int .i64 (min x y)) ∧ w = w' := by
  by_cases h : x < y
  · rw [show min x y = x by omega]
    go_enter Tryd.func104, Tryd.ntmps104
    go_wp2
    go_ret
    exact ⟨rfl, rfl⟩
  · rw [show min x y = y by omega]
    go_enter Tryd.func104, Tryd.ntmps104
    go_wp2
    go_ret
    exact ⟨rfl, rfl⟩
theorem max_spec (x y : Int) (w : World) : Calls Tryd.prog 69 #[.int .i64 x, .int .i64 y] w fun e w' => e = .returned (.int .i64 (max x y)) ∧ w = w' := by
  by_cases h : y < x
  · rw [show max x y = x by omega]
    go_enter Tryd.func69, Tryd.ntmps69
    go_wp2
    go_ret
    exact ⟨rfl, rfl⟩
  · rw [show max x y = y by omega]
    go_enter Tryd.func69, Tryd.ntmps69
    go_wp2
    go_ret
    exact ⟨rfl, rfl⟩
end Go.Proofs.YtmfchcaidfloaaaDoor
namespace Go.Proofs.YtmfchcaidfloaaaDoor
open Go.ChangeShapes Go.WideShapes Go.ChangeAt Go.RowKit

set_option maxHeartbeats 2000000 in
theorem on_no0 (xa ya xb yb xp yp : Int) (w : World) (ha : okI xa ya = true) (hb : okI xb yb = true) (hp : okI xp yp = true) (h0 : (sdI xa ya xb yb xp yp == 0) = false) :
    Calls Tryd.prog 86 #[.agg #[.int .i64 xa, .int .i64 ya], .agg #[.int .i64 xb, .int .i64 yb], .agg #[.int .i64 xp, .int .i64 yp]] w fun e w' => e = .returned (.bool false) ∧ Below w.heap.size w w' := by
  have HA := Lib.hid ha
  have HB := Lib.hid hb
  have HP := Lib.hid hp
  clear ha hb hp
  go_enter Tryd.func86, Tryd.ntmps86
  go_wp2
  refine wp_region_below (by kernel_rfl) (by kernel_rfl) ?_
  (refine wq_val (by go_simp) ?_; apply Exists.intro; refine ⟨fun w1 hw1 => ?_, ?_⟩; (obtain ⟨hc, hf⟩ := bcell hw1; clear hw1; go_simp; (try with_reducible rfl)); (try simp only [Act.put, List.setIfInBounds_toArray, List.set_cons_zero, List.set_cons_succ]))
  (refine wq_val (by go_simp) ?_; apply Exists.intro; refine ⟨fun w1 hw1 => ?_, ?_⟩; (obtain ⟨hc, hf⟩ := bcell hw1; clear hw1; go_simp; (try with_reducible rfl)); (try simp only [Act.put, List.setIfInBounds_toArray, List.set_cons_zero, List.set_cons_succ]))
  (refine wq_val (by go_simp) ?_; apply Exists.intro; refine ⟨fun w1 hw1 => ?_, ?_⟩; (obtain ⟨hc, hf⟩ := bcell hw1; clear hw1; go_simp; (try with_reducible rfl)); (try simp only [Act.put, List.setIfInBounds_toArray, List.set_cons_zero, List.set_cons_succ]))
  (refine wq_call 109 (by go_simp) ?_; apply Exists.intro; refine ⟨fun w1 hw1 => ?_, ?_⟩; (clear hw1; go_simp; (try with_reducible rfl)); apply Exists.intro; refine ⟨fun w1 hw1 => ?_, ?_⟩; (exact calls_below hw1 (side_spec _ _ _ _ _ _ _ HA.out HB.out HP.out)); (try simp only [Act.put, List.setIfInBounds_toArray, List.set_cons_zero, List.set_cons_succ]))
  (refine wq_val (by go_simp) ?_; apply Exists.intro; refine ⟨fun w1 hw1 => ?_, ?_⟩; (obtain ⟨hc, hf⟩ := bcell hw1; clear hw1; go_simp; (try with_reducible rfl)); (try simp only [Act.put, List.setIfInBounds_toArray, List.set_cons_zero, List.set_cons_succ]))
  (refine wq_val (by go_simp) ?_; apply Exists.intro; refine ⟨fun w1 hw1 => ?_, ?_⟩; (obtain ⟨hc, hf⟩ := bcell hw1; clear hw1; go_simp; (try with_reducible rfl)); (try simp only [Act.put, List.setIfInBounds_toArray, List.set_cons_zero, List.set_cons_succ]))
  (refine wq_skip (by go_simp) ?_; (try simp only [Act.put, List.setIfInBounds_toArray, List.set_cons_zero, List.set_cons_succ]))
  (refine wq_skip (by go_simp) ?_; (try simp only [Act.put, List.setIfInBounds_toArray, List.set_cons_zero, List.set_cons_succ]))
  (refine wq_skip (by go_simp) ?_; (try simp only [Act.put, List.setIfInBounds_toArray, List.set_cons_zero, List.set_cons_succ]))
  (refine wq_skip (by go_simp) ?_; (try simp only [Act.put, List.setIfInBounds_toArray, List.set_cons_zero, List.set_cons_succ]))
  (refine wq_skip (by go_simp) ?_; (try simp only [Act.put, List.setIfInBounds_toArray, List.set_cons_zero, List.set_cons_succ]))
  (refine wq_skip (by go_simp) ?_; (try simp only [Act.put, List.setIfInBounds_toArray, List.set_cons_zero, List.set_cons_succ]))
  (refine wq_skip (by go_simp) ?_; (try simp only [Act.put, List.setIfInBounds_toArray, List.set_cons_zero, List.set_cons_succ]))
  (refine wq_skip (by go_simp) ?_; (try simp only [Act.put, List.setIfInBounds_toArray, List.set_cons_zero, List.set_cons_succ]))
  (refine wq_skip (by go_simp) ?_; (try simp only [Act.put, List.setIfInBounds_toArray, List.set_cons_zero, List.set_cons_succ]))
  (refine wq_skip (by go_simp) ?_; (try simp only [Act.put, List.setIfInBounds_toArray, List.set_cons_zero, List.set_cons_succ]))
  (refine wq_skip (by go_simp) ?_; (try simp only [Act.put, List.setIfInBounds_toArray, List.set_cons_zero, List.set_cons_succ]))
  (refine wq_skip (by go_simp) ?_; (try simp only [Act.put, List.setIfInBounds_toArray, List.set_cons_zero, List.set_cons_succ]))
  (refine wq_skip (by go_simp) ?_; (try simp only [Act.put, List.setIfInBounds_toArray, List.set_cons_zero, List.set_cons_succ]))
  (refine wq_val (by go_simp) ?_; apply Exists.intro; refine ⟨fun w1 hw1 => ?_, ?_⟩; (obtain ⟨hc, hf⟩ := bcell hw1; clear hw1; go_simp; (try with_reducible rfl)); (try simp only [Act.put, List.setIfInBounds_toArray, List.set_cons_zero, List.set_cons_succ]))
  (refine wq_val (by go_simp) ?_; apply Exists.intro; refine ⟨fun w1 hw1 => ?_, ?_⟩; (obtain ⟨hc, hf⟩ := bcell hw1; clear hw1; go_simp; (try with_reducible rfl)); (try simp only [Act.put, List.setIfInBounds_toArray, List.set_cons_zero, List.set_cons_succ]))
  (refine wq_skip (by go_simp) ?_; (try simp only [Act.put, List.setIfInBounds_toArray, List.set_cons_zero, List.set_cons_succ]))
  (refine wq_skip (by go_simp) ?_; (try simp only [Act.put, List.setIfInBounds_toArray, List.set_cons_zero, List.set_cons_succ]))
  (refine wq_skip (by go_simp) ?_; (try simp only [Act.put, List.setIfInBounds_toArray, List.set_cons_zero, List.set_cons_succ]))
  (refine wq_skip (by go_simp) ?_; (try simp only [Act.put, List.setIfInBounds_toArray, List.set_cons_zero, List.set_cons_succ]))
  (refine wq_skip (by go_simp) ?_; (try simp only [Act.put, List.setIfInBounds_toArray, List.set_cons_zero, List.set_cons_succ]))
  (refine wq_skip (by go_simp) ?_; (try simp only [Act.put, List.setIfInBounds_toArray, List.set_cons_zero, List.set_cons_succ]))
  (refine wq_skip (by go_simp) ?_; (try simp only [Act.put, List.setIfInBounds_toArray, List.set_cons_zero, List.set_cons_succ]))
  (refine wq_skip (by go_simp) ?_; (try simp only [Act.put, List.setIfInBounds_toArray, List.set_cons_zero, List.set_cons_succ]))
  (refine wq_skip (by go_simp) ?_; (try simp only [Act.put, List.setIfInBounds_toArray, List.set_cons_zero, List.set_cons_succ]))
  (refine wq_skip (by go_simp) ?_; (try simp only [Act.put, List.setIfInBounds_toArray, List.set_cons_zero, List.set_cons_succ]))
  (refine wq_skip (by go_simp) ?_; (try simp only [Act.put, List.setIfInBounds_toArray, List.set_cons_zero, List.set_cons_succ]))
  (refine wq_skip (by go_simp) ?_; (try simp only [Act.put, List.setIfInBounds_toArray, List.set_cons_zero, List.set_cons_succ]))
  (refine wq_skip (by go_simp) ?_; (try simp only [Act.put, List.setIfInBounds_toArray, List.set_cons_zero, List.set_cons_succ]))
  (refine wq_val (by go_simp) ?_; apply Exists.intro; refine ⟨fun w1 hw1 => ?_, ?_⟩; (obtain ⟨hc, hf⟩ := bcell hw1; clear hw1; go_simp; (try with_reducible rfl)); (try simp only [Act.put, List.setIfInBounds_toArray, List.set_cons_zero, List.set_cons_succ]))
  (refine wq_val (by go_simp) ?_; apply Exists.intro; refine ⟨fun w1 hw1 => ?_, ?_⟩; (obtain ⟨hc, hf⟩ := bcell hw1; clear hw1; go_simp; (try with_reducible rfl)); (try simp only [Act.put, List.setIfInBounds_toArray, List.set_cons_zero, List.set_cons_succ]))
  refine wq_nil ?_
  intro w1 hb1
  have HB1 := Lib.hid hb1
  clear hb1
  go_wp2
  go_ret
  exact ⟨rfl, bseq (three_allocs _ _ _) HB1.out⟩
set_option maxHeartbeats 2000000 in
theorem on_no1 (xa ya xb yb xp yp : Int) (w : World) (ha : okI xa ya = true) (hb : okI xb yb = true) (hp : okI xp yp = true) (h0 : (sdI xa ya xb yb xp yp == 0) = true) (h1 : inI xp (min xa xb) (max xa xb) = false) :
    Calls Tryd.prog 86 #[.agg #[.int .i64 xa, .int .i64 ya], .agg #[.int .i64 xb, .int .i64 yb], .agg #[.int .i64 xp, .int .i64 yp]] w fun e w' => e = .returned (.bool false) ∧ Below w.heap.size w w' := by
  have HA := Lib.hid ha
  have HB := Lib.hid hb
  have HP := Lib.hid hp
  clear ha hb hp
  go_enter Tryd.func86, Tryd.ntmps86
  go_wp2
  refine wp_region_below (by kernel_rfl) (by kernel_rfl) ?_
  (refine wq_val (by go_simp) ?_; apply Exists.intro; refine ⟨fun w1 hw1 => ?_, ?_⟩; (obtain ⟨hc, hf⟩ := bcell hw1; clear hw1; go_simp; (try with_reducible rfl)); (try simp only [Act.put, List.setIfInBounds_toArray, List.set_cons_zero, List.set_cons_succ]))
  (refine wq_val (by go_simp) ?_; apply Exists.intro; refine ⟨fun w1 hw1 => ?_, ?_⟩; (obtain ⟨hc, hf⟩ := bcell hw1; clear hw1; go_simp; (try with_reducible rfl)); (try simp only [Act.put, List.setIfInBounds_toArray, List.set_cons_zero, List.set_cons_succ]))
  (refine wq_val (by go_simp) ?_; apply Exists.intro; refine ⟨fun w1 hw1 => ?_, ?_⟩; (obtain ⟨hc, hf⟩ := bcell hw1; clear hw1; go_simp; (try with_reducible rfl)); (try simp only [Act.put, List.setIfInBounds_toArray, List.set_cons_zero, List.set_cons_succ]))
  (refine wq_call 109 (by go_simp) ?_; apply Exists.intro; refine ⟨fun w1 hw1 => ?_, ?_⟩; (clear hw1; go_simp; (try with_reducible rfl)); apply Exists.intro; refine ⟨fun w1 hw1 => ?_, ?_⟩; (exact calls_below hw1 (side_spec _ _ _ _ _ _ _ HA.out HB.out HP.out)); (try simp only [Act.put, List.setIfInBounds_toArray, List.set_cons_zero, List.set_cons_succ]))
  (refine wq_val (by go_simp) ?_; apply Exists.intro; refine ⟨fun w1 hw1 => ?_, ?_⟩; (obtain ⟨hc, hf⟩ := bcell hw1; clear hw1; go_simp; (try with_reducible rfl)); (try simp only [Act.put, List.setIfInBounds_toArray, List.set_cons_zero, List.set_cons_succ]))
  (refine wq_val (by go_simp) ?_; apply Exists.intro; refine ⟨fun w1 hw1 => ?_, ?_⟩; (obtain ⟨hc, hf⟩ := bcell hw1; clear hw1; go_simp; (try with_reducible rfl)); (try simp only [Act.put, List.setIfInBounds_toArray, List.set_cons_zero, List.set_cons_succ]))
  (refine wq_val (by go_simp) ?_; apply Exists.intro; refine ⟨fun w1 hw1 => ?_, ?_⟩; (obtain ⟨hc, hf⟩ := bcell hw1; clear hw1; go_simp; (try with_reducible rfl)); (try simp only [Act.put, List.setIfInBounds_toArray, List.set_cons_zero, List.set_cons_succ]))
  (refine wq_val (by go_simp) ?_; apply Exists.intro; refine ⟨fun w1 hw1 => ?_, ?_⟩; (obtain ⟨hc, hf⟩ := bcell hw1; clear hw1; go_simp; (try with_reducible rfl)); (try simp only [Act.put, List.setIfInBounds_toArray, List.set_cons_zero, List.set_cons_succ]))
  (refine wq_val (by go_simp) ?_; apply Exists.intro; refine ⟨fun w1 hw1 => ?_, ?_⟩; (obtain ⟨hc, hf⟩ := bcell hw1; clear hw1; go_simp; (try with_reducible rfl)); (try simp only [Act.put, List.setIfInBounds_toArray, List.set_cons_zero, List.set_cons_succ]))
  (refine wq_val (by go_simp) ?_; apply Exists.intro; refine ⟨fun w1 hw1 => ?_, ?_⟩; (obtain ⟨hc, hf⟩ := bcell hw1; clear hw1; go_simp; (try with_reducible rfl)); (try simp only [Act.put, List.setIfInBounds_toArray, List.set_cons_zero, List.set_cons_succ]))
  (refine wq_val (by go_simp) ?_; apply Exists.intro; refine ⟨fun w1 hw1 => ?_, ?_⟩; (obtain ⟨hc, hf⟩ := bcell hw1; clear hw1; go_simp; (try with_reducible rfl)); (try simp only [Act.put, List.setIfInBounds_toArray, List.set_cons_zero, List.set_cons_succ]))
  (refine wq_val (by go_simp) ?_; apply Exists.intro; refine ⟨fun w1 hw1 => ?_, ?_⟩; (obtain ⟨hc, hf⟩ := bcell hw1; clear hw1; go_simp; (try with_reducible rfl)); (try simp only [Act.put, List.setIfInBounds_toArray, List.set_cons_zero, List.set_cons_succ]))
  (refine wq_call 104 (by go_simp) ?_; apply Exists.intro; refine ⟨fun w1 hw1 => ?_, ?_⟩; (clear hw1; go_simp; (try with_reducible rfl)); apply Exists.intro; refine ⟨fun w1 hw1 => ?_, ?_⟩; (exact calls_below_same hw1 (min_spec _ _ _)); (try simp only [Act.put, List.setIfInBounds_toArray, List.set_cons_zero, List.set_cons_succ]))
  (refine wq_val (by go_simp) ?_; apply Exists.intro; refine ⟨fun w1 hw1 => ?_, ?_⟩; (obtain ⟨hc, hf⟩ := bcell hw1; clear hw1; go_simp; (try with_reducible rfl)); (try simp only [Act.put, List.setIfInBounds_toArray, List.set_cons_zero, List.set_cons_succ]))
  (refine wq_val (by go_simp) ?_; apply Exists.intro; refine ⟨fun w1 hw1 => ?_, ?_⟩; (obtain ⟨hc, hf⟩ := bcell hw1; clear hw1; go_simp; (try with_reducible rfl)); (try simp only [Act.put, List.setIfInBounds_toArray, List.set_cons_zero, List.set_cons_succ]))
  (refine wq_val (by go_simp) ?_; apply Exists.intro; refine ⟨fun w1 hw1 => ?_, ?_⟩; (obtain ⟨hc, hf⟩ := bcell hw1; clear hw1; go_simp; (try with_reducible rfl)); (try simp only [Act.put, List.setIfInBounds_toArray, List.set_cons_zero, List.set_cons_succ]))
  (refine wq_val (by go_simp) ?_; apply Exists.intro; refine ⟨fun w1 hw1 => ?_, ?_⟩; (obtain ⟨hc, hf⟩ := bcell hw1; clear hw1; go_simp; (try with_reducible rfl)); (try simp only [Act.put, List.setIfInBounds_toArray, List.set_cons_zero, List.set_cons_succ]))
  (refine wq_call 69 (by go_simp) ?_; apply Exists.intro; refine ⟨fun w1 hw1 => ?_, ?_⟩; (clear hw1; go_simp; (try with_reducible rfl)); apply Exists.intro; refine ⟨fun w1 hw1 => ?_, ?_⟩; (exact calls_below_same hw1 (max_spec _ _ _)); (try simp only [Act.put, List.setIfInBounds_toArray, List.set_cons_zero, List.set_cons_succ]))
  (refine wq_call 55 (by go_simp) ?_; apply Exists.intro; refine ⟨fun w1 hw1 => ?_, ?_⟩; (clear hw1; go_simp; (try with_reducible rfl)); apply Exists.intro; refine ⟨fun w1 hw1 => ?_, ?_⟩; (exact calls_below_same hw1 (in_any _ _ _ _)); (try simp only [Act.put, List.setIfInBounds_toArray, List.set_cons_zero, List.set_cons_succ]))
  (refine wq_val (by go_simp) ?_; apply Exists.intro; refine ⟨fun w1 hw1 => ?_, ?_⟩; (obtain ⟨hc, hf⟩ := bcell hw1; clear hw1; go_simp; (try with_reducible rfl)); (try simp only [Act.put, List.setIfInBounds_toArray, List.set_cons_zero, List.set_cons_succ]))
  (refine wq_val (by go_simp) ?_; apply Exists.intro; refine ⟨fun w1 hw1 => ?_, ?_⟩; (obtain ⟨hc, hf⟩ := bcell hw1; clear hw1; go_simp; (try with_reducible rfl)); (try simp only [Act.put, List.setIfInBounds_toArray, List.set_cons_zero, List.set_cons_succ]))
  (refine wq_skip (by go_simp) ?_; (try simp only [Act.put, List.setIfInBounds_toArray, List.set_cons_zero, List.set_cons_succ]))
  (refine wq_skip (by go_simp) ?_; (try simp only [Act.put, List.setIfInBounds_toArray, List.set_cons_zero, List.set_cons_succ]))
  (refine wq_skip (by go_simp) ?_; (try simp only [Act.put, List.setIfInBounds_toArray, List.set_cons_zero, List.set_cons_succ]))
  (refine wq_skip (by go_simp) ?_; (try simp only [Act.put, List.setIfInBounds_toArray, List.set_cons_zero, List.set_cons_succ]))
  (refine wq_skip (by go_simp) ?_; (try simp only [Act.put, List.setIfInBounds_toArray, List.set_cons_zero, List.set_cons_succ]))
  (refine wq_skip (by go_simp) ?_; (try simp only [Act.put, List.setIfInBounds_toArray, List.set_cons_zero, List.set_cons_succ]))
  (refine wq_skip (by go_simp) ?_; (try simp only [Act.put, List.setIfInBounds_toArray, List.set_cons_zero, List.set_cons_succ]))
  (refine wq_skip (by go_simp) ?_; (try simp only [Act.put, List.setIfInBounds_toArray, List.set_cons_zero, List.set_cons_succ]))
  (refine wq_skip (by go_simp) ?_; (try simp only [Act.put, List.setIfInBounds_toArray, List.set_cons_zero, List.set_cons_succ]))
  (refine wq_skip (by go_simp) ?_; (try simp only [Act.put, List.setIfInBounds_toArray, List.set_cons_zero, List.set_cons_succ]))
  (refine wq_skip (by go_simp) ?_; (try simp only [Act.put, List.setIfInBounds_toArray, List.set_cons_zero, List.set_cons_succ]))
  (refine wq_skip (by go_simp) ?_; (try simp only [Act.put, List.setIfInBounds_toArray, List.set_cons_zero, List.set_cons_succ]))
  (refine wq_skip (by go_simp) ?_; (try simp only [Act.put, List.setIfInBounds_toArray, List.set_cons_zero, List.set_cons_succ]))
  (refine wq_val (by go_simp) ?_; apply Exists.intro; refine ⟨fun w1 hw1 => ?_, ?_⟩; (obtain ⟨hc, hf⟩ := bcell hw1; clear hw1; go_simp; (try with_reducible rfl)); (try simp only [Act.put, List.setIfInBounds_toArray, List.set_cons_zero, List.set_cons_succ]))
  (refine wq_val (by go_simp) ?_; apply Exists.intro; refine ⟨fun w1 hw1 => ?_, ?_⟩; (obtain ⟨hc, hf⟩ := bcell hw1; clear hw1; go_simp; (try with_reducible rfl)); (try simp only [Act.put, List.setIfInBounds_toArray, List.set_cons_zero, List.set_cons_succ]))
  refine wq_nil ?_
  intro w1 hb1
  have HB1 := Lib.hid hb1
  clear hb1
  go_wp2
  go_ret
  exact ⟨rfl, bseq (three_allocs _ _ _) HB1.out⟩
set_option maxHeartbeats 2000000 in
theorem on_no2 (xa ya xb yb xp yp : Int) (w : World) (ha : okI xa ya = true) (hb : okI xb yb = true) (hp : okI xp yp = true) (h0 : (sdI xa ya xb yb xp yp == 0) = true) (h1 : inI xp (min xa xb) (max xa xb) = true) (h2 : inI yp (min ya yb) (max ya yb) = false) :
    Calls Tryd.prog 86 #[.agg #[.int .i64 xa, .int .i64 ya], .agg #[.int .i64 xb, .int .i64 yb], .agg #[.int .i64 xp, .int .i64 yp]] w fun e w' => e = .returned (.bool false) ∧ Below w.heap.size w w' := by
  have HA := Lib.hid ha
  have HB := Lib.hid hb
  have HP := Lib.hid hp
  clear ha hb hp
  go_enter Tryd.func86, Tryd.ntmps86
  go_wp2
  refine wp_region_below (by kernel_rfl) (by kernel_rfl) ?_
  (refine wq_val (by go_simp) ?_; apply Exists.intro; refine ⟨fun w1 hw1 => ?_, ?_⟩; (obtain ⟨hc, hf⟩ := bcell hw1; clear hw1; go_simp; (try with_reducible rfl)); (try simp only [Act.put, List.setIfInBounds_toArray, List.set_cons_zero, List.set_cons_succ]))
  (refine wq_val (by go_simp) ?_; apply Exists.intro; refine ⟨fun w1 hw1 => ?_, ?_⟩; (obtain ⟨hc, hf⟩ := bcell hw1; clear hw1; go_simp; (try with_reducible rfl)); (try simp only [Act.put, List.setIfInBounds_toArray, List.set_cons_zero, List.set_cons_succ]))
  (refine wq_val (by go_simp) ?_; apply Exists.intro; refine ⟨fun w1 hw1 => ?_, ?_⟩; (obtain ⟨hc, hf⟩ := bcell hw1; clear hw1; go_simp; (try with_reducible rfl)); (try simp only [Act.put, List.setIfInBounds_toArray, List.set_cons_zero, List.set_cons_succ]))
  (refine wq_call 109 (by go_simp) ?_; apply Exists.intro; refine ⟨fun w1 hw1 => ?_, ?_⟩; (clear hw1; go_simp; (try with_reducible rfl)); apply Exists.intro; refine ⟨fun w1 hw1 => ?_, ?_⟩; (exact calls_below hw1 (side_spec _ _ _ _ _ _ _ HA.out HB.out HP.out)); (try simp only [Act.put, List.setIfInBounds_toArray, List.set_cons_zero, List.set_cons_succ]))
  (refine wq_val (by go_simp) ?_; apply Exists.intro; refine ⟨fun w1 hw1 => ?_, ?_⟩; (obtain ⟨hc, hf⟩ := bcell hw1; clear hw1; go_simp; (try with_reducible rfl)); (try simp only [Act.put, List.setIfInBounds_toArray, List.set_cons_zero, List.set_cons_succ]))
  (refine wq_val (by go_simp) ?_; apply Exists.intro; refine ⟨fun w1 hw1 => ?_, ?_⟩; (obtain ⟨hc, hf⟩ := bcell hw1; clear hw1; go_simp; (try with_reducible rfl)); (try simp only [Act.put, List.setIfInBounds_toArray, List.set_cons_zero, List.set_cons_succ]))
  (refine wq_val (by go_simp) ?_; apply Exists.intro; refine ⟨fun w1 hw1 => ?_, ?_⟩; (obtain ⟨hc, hf⟩ := bcell hw1; clear hw1; go_simp; (try with_reducible rfl)); (try simp only [Act.put, List.setIfInBounds_toArray, List.set_cons_zero, List.set_cons_succ]))
  (refine wq_val (by go_simp) ?_; apply Exists.intro; refine ⟨fun w1 hw1 => ?_, ?_⟩; (obtain ⟨hc, hf⟩ := bcell hw1; clear hw1; go_simp; (try with_reducible rfl)); (try simp only [Act.put, List.setIfInBounds_toArray, List.set_cons_zero, List.set_cons_succ]))
  (refine wq_val (by go_simp) ?_; apply Exists.intro; refine ⟨fun w1 hw1 => ?_, ?_⟩; (obtain ⟨hc, hf⟩ := bcell hw1; clear hw1; go_simp; (try with_reducible rfl)); (try simp only [Act.put, List.setIfInBounds_toArray, List.set_cons_zero, List.set_cons_succ]))
  (refine wq_val (by go_simp) ?_; apply Exists.intro; refine ⟨fun w1 hw1 => ?_, ?_⟩; (obtain ⟨hc, hf⟩ := bcell hw1; clear hw1; go_simp; (try with_reducible rfl)); (try simp only [Act.put, List.setIfInBounds_toArray, List.set_cons_zero, List.set_cons_succ]))
  (refine wq_val (by go_simp) ?_; apply Exists.intro; refine ⟨fun w1 hw1 => ?_, ?_⟩; (obtain ⟨hc, hf⟩ := bcell hw1; clear hw1; go_simp; (try with_reducible rfl)); (try simp only [Act.put, List.setIfInBounds_toArray, List.set_cons_zero, List.set_cons_succ]))
  (refine wq_val (by go_simp) ?_; apply Exists.intro; refine ⟨fun w1 hw1 => ?_, ?_⟩; (obtain ⟨hc, hf⟩ := bcell hw1; clear hw1; go_simp; (try with_reducible rfl)); (try simp only [Act.put, List.setIfInBounds_toArray, List.set_cons_zero, List.set_cons_succ]))
  (refine wq_call 104 (by go_simp) ?_; apply Exists.intro; refine ⟨fun w1 hw1 => ?_, ?_⟩; (clear hw1; go_simp; (try with_reducible rfl)); apply Exists.intro; refine ⟨fun w1 hw1 => ?_, ?_⟩; (exact calls_below_same hw1 (min_spec _ _ _)); (try simp only [Act.put, List.setIfInBounds_toArray, List.set_cons_zero, List.set_cons_succ]))
  (refine wq_val (by go_simp) ?_; apply Exists.intro; refine ⟨fun w1 hw1 => ?_, ?_⟩; (obtain ⟨hc, hf⟩ := bcell hw1; clear hw1; go_simp; (try with_reducible rfl)); (try simp only [Act.put, List.setIfInBounds_toArray, List.set_cons_zero, List.set_cons_succ]))
  (refine wq_val (by go_simp) ?_; apply Exists.intro; refine ⟨fun w1 hw1 => ?_, ?_⟩; (obtain ⟨hc, hf⟩ := bcell hw1; clear hw1; go_simp; (try with_reducible rfl)); (try simp only [Act.put, List.setIfInBounds_toArray, List.set_cons_zero, List.set_cons_succ]))
  (refine wq_val (by go_simp) ?_; apply Exists.intro; refine ⟨fun w1 hw1 => ?_, ?_⟩; (obtain ⟨hc, hf⟩ := bcell hw1; clear hw1; go_simp; (try with_reducible rfl)); (try simp only [Act.put, List.setIfInBounds_toArray, List.set_cons_zero, List.set_cons_succ]))
  (refine wq_val (by go_simp) ?_; apply Exists.intro; refine ⟨fun w1 hw1 => ?_, ?_⟩; (obtain ⟨hc, hf⟩ := bcell hw1; clear hw1; go_simp; (try with_reducible rfl)); (try simp only [Act.put, List.setIfInBounds_toArray, List.set_cons_zero, List.set_cons_succ]))
  (refine wq_call 69 (by go_simp) ?_; apply Exists.intro; refine ⟨fun w1 hw1 => ?_, ?_⟩; (clear hw1; go_simp; (try with_reducible rfl)); apply Exists.intro; refine ⟨fun w1 hw1 => ?_, ?_⟩; (exact calls_below_same hw1 (max_spec _ _ _)); (try simp only [Act.put, List.setIfInBounds_toArray, List.set_cons_zero, List.set_cons_succ]))
  (refine wq_call 55 (by go_simp) ?_; apply Exists.intro; refine ⟨fun w1 hw1 => ?_, ?_⟩; (clear hw1; go_simp; (try with_reducible rfl)); apply Exists.intro; refine ⟨fun w1 hw1 => ?_, ?_⟩; (exact calls_below_same hw1 (in_any _ _ _ _)); (try simp only [Act.put, List.setIfInBounds_toArray, List.set_cons_zero, List.set_cons_succ]))
  (refine wq_val (by go_simp) ?_; apply Exists.intro; refine ⟨fun w1 hw1 => ?_, ?_⟩; (obtain ⟨hc, hf⟩ := bcell hw1; clear hw1; go_simp; (try with_reducible rfl)); (try simp only [Act.put, List.setIfInBounds_toArray, List.set_cons_zero, List.set_cons_succ]))
  (refine wq_val (by go_simp) ?_; apply Exists.intro; refine ⟨fun w1 hw1 => ?_, ?_⟩; (obtain ⟨hc, hf⟩ := bcell hw1; clear hw1; go_simp; (try with_reducible rfl)); (try simp only [Act.put, List.setIfInBounds_toArray, List.set_cons_zero, List.set_cons_succ]))
  (refine wq_val (by go_simp) ?_; apply Exists.intro; refine ⟨fun w1 hw1 => ?_, ?_⟩; (obtain ⟨hc, hf⟩ := bcell hw1; clear hw1; go_simp; (try with_reducible rfl)); (try simp only [Act.put, List.setIfInBounds_toArray, List.set_cons_zero, List.set_cons_succ]))
  (refine wq_val (by go_simp) ?_; apply Exists.intro; refine ⟨fun w1 hw1 => ?_, ?_⟩; (obtain ⟨hc, hf⟩ := bcell hw1; clear hw1; go_simp; (try with_reducible rfl)); (try simp only [Act.put, List.setIfInBounds_toArray, List.set_cons_zero, List.set_cons_succ]))
  (refine wq_val (by go_simp) ?_; apply Exists.intro; refine ⟨fun w1 hw1 => ?_, ?_⟩; (obtain ⟨hc, hf⟩ := bcell hw1; clear hw1; go_simp; (try with_reducible rfl)); (try simp only [Act.put, List.setIfInBounds_toArray, List.set_cons_zero, List.set_cons_succ]))
  (refine wq_val (by go_simp) ?_; apply Exists.intro; refine ⟨fun w1 hw1 => ?_, ?_⟩; (obtain ⟨hc, hf⟩ := bcell hw1; clear hw1; go_simp; (try with_reducible rfl)); (try simp only [Act.put, List.setIfInBounds_toArray, List.set_cons_zero, List.set_cons_succ]))
  (refine wq_val (by go_simp) ?_; apply Exists.intro; refine ⟨fun w1 hw1 => ?_, ?_⟩; (obtain ⟨hc, hf⟩ := bcell hw1; clear hw1; go_simp; (try with_reducible rfl)); (try simp only [Act.put, List.setIfInBounds_toArray, List.set_cons_zero, List.set_cons_succ]))
  (refine wq_val (by go_simp) ?_; apply Exists.intro; refine ⟨fun w1 hw1 => ?_, ?_⟩; (obtain ⟨hc, hf⟩ := bcell hw1; clear hw1; go_simp; (try with_reducible rfl)); (try simp only [Act.put, List.setIfInBounds_toArray, List.set_cons_zero, List.set_cons_succ]))
  (refine wq_call 104 (by go_simp) ?_; apply Exists.intro; refine ⟨fun w1 hw1 => ?_, ?_⟩; (clear hw1; go_simp; (try with_reducible rfl)); apply Exists.intro; refine ⟨fun w1 hw1 => ?_, ?_⟩; (exact calls_below_same hw1 (min_spec _ _ _)); (try simp only [Act.put, List.setIfInBounds_toArray, List.set_cons_zero, List.set_cons_succ]))
  (refine wq_val (by go_simp) ?_; apply Exists.intro; refine ⟨fun w1 hw1 => ?_, ?_⟩; (obtain ⟨hc, hf⟩ := bcell hw1; clear hw1; go_simp; (try with_reducible rfl)); (try simp only [Act.put, List.setIfInBounds_toArray, List.set_cons_zero, List.set_cons_succ]))
  (refine wq_val (by go_simp) ?_; apply Exists.intro; refine ⟨fun w1 hw1 => ?_, ?_⟩; (obtain ⟨hc, hf⟩ := bcell hw1; clear hw1; go_simp; (try with_reducible rfl)); (try simp only [Act.put, List.setIfInBounds_toArray, List.set_cons_zero, List.set_cons_succ]))
  (refine wq_val (by go_simp) ?_; apply Exists.intro; refine ⟨fun w1 hw1 => ?_, ?_⟩; (obtain ⟨hc, hf⟩ := bcell hw1; clear hw1; go_simp; (try with_reducible rfl)); (try simp only [Act.put, List.setIfInBounds_toArray, List.set_cons_zero, List.set_cons_succ]))
  (refine wq_val (by go_simp) ?_; apply Exists.intro; refine ⟨fun w1 hw1 => ?_, ?_⟩; (obtain ⟨hc, hf⟩ := bcell hw1; clear hw1; go_simp; (try with_reducible rfl)); (try simp only [Act.put, List.setIfInBounds_toArray, List.set_cons_zero, List.set_cons_succ]))
  (refine wq_call 69 (by go_simp) ?_; apply Exists.intro; refine ⟨fun w1 hw1 => ?_, ?_⟩; (clear hw1; go_simp; (try with_reducible rfl)); apply Exists.intro; refine ⟨fun w1 hw1 => ?_, ?_⟩; (exact calls_below_same hw1 (max_spec _ _ _)); (try simp only [Act.put, List.setIfInBounds_toArray, List.set_cons_zero, List.set_cons_succ]))
  (refine wq_call 55 (by go_simp) ?_; apply Exists.intro; refine ⟨fun w1 hw1 => ?_, ?_⟩; (clear hw1; go_simp; (try with_reducible rfl)); apply Exists.intro; refine ⟨fun w1 hw1 => ?_, ?_⟩; (exact calls_below_same hw1 (in_any _ _ _ _)); (try simp only [Act.put, List.setIfInBounds_toArray, List.set_cons_zero, List.set_cons_succ]))
  (refine wq_val (by go_simp) ?_; apply Exists.intro; refine ⟨fun w1 hw1 => ?_, ?_⟩; (obtain ⟨hc, hf⟩ := bcell hw1; clear hw1; go_simp; (try with_reducible rfl)); (try simp only [Act.put, List.setIfInBounds_toArray, List.set_cons_zero, List.set_cons_succ]))
  (refine wq_val (by go_simp) ?_; apply Exists.intro; refine ⟨fun w1 hw1 => ?_, ?_⟩; (obtain ⟨hc, hf⟩ := bcell hw1; clear hw1; go_simp; (try with_reducible rfl)); (try simp only [Act.put, List.setIfInBounds_toArray, List.set_cons_zero, List.set_cons_succ]))
  refine wq_nil ?_
  intro w1 hb1
  have HB1 := Lib.hid hb1
  clear hb1
  go_wp2
  go_ret
  exact ⟨rfl, bseq (three_allocs _ _ _) HB1.out⟩
set_option maxHeartbeats 2000000 in
theorem on_yes (xa ya xb yb xp yp : Int) (w : World) (ha : okI xa ya = true) (hb : okI xb yb = true) (hp : okI xp yp = true) (h0 : (sdI xa ya xb yb xp yp == 0) = true) (h1 : inI xp (min xa xb) (max xa xb) = true) (h2 : inI yp (min ya yb) (max ya yb) = true) :
    Calls Tryd.prog 86 #[.agg #[.int .i64 xa, .int .i64 ya], .agg #[.int .i64 xb, .int .i64 yb], .agg #[.int .i64 xp, .int .i64 yp]] w fun e w' => e = .returned (.bool true) ∧ Below w.heap.size w w' := by
  have HA := Lib.hid ha
  have HB := Lib.hid hb
  have HP := Lib.hid hp
  clear ha hb hp
  go_enter Tryd.func86, Tryd.ntmps86
  go_wp2
  refine wp_region_below (by kernel_rfl) (by kernel_rfl) ?_
  (refine wq_val (by go_simp) ?_; apply Exists.intro; refine ⟨fun w1 hw1 => ?_, ?_⟩; (obtain ⟨hc, hf⟩ := bcell hw1; clear hw1; go_simp; (try with_reducible rfl)); (try simp only [Act.put, List.setIfInBounds_toArray, List.set_cons_zero, List.set_cons_succ]))
  (refine wq_val (by go_simp) ?_; apply Exists.intro; refine ⟨fun w1 hw1 => ?_, ?_⟩; (obtain ⟨hc, hf⟩ := bcell hw1; clear hw1; go_simp; (try with_reducible rfl)); (try simp only [Act.put, List.setIfInBounds_toArray, List.set_cons_zero, List.set_cons_succ]))
  (refine wq_val (by go_simp) ?_; apply Exists.intro; refine ⟨fun w1 hw1 => ?_, ?_⟩; (obtain ⟨hc, hf⟩ := bcell hw1; clear hw1; go_simp; (try with_reducible rfl)); (try simp only [Act.put, List.setIfInBounds_toArray, List.set_cons_zero, List.set_cons_succ]))
  (refine wq_call 109 (by go_simp) ?_; apply Exists.intro; refine ⟨fun w1 hw1 => ?_, ?_⟩; (clear hw1; go_simp; (try with_reducible rfl)); apply Exists.intro; refine ⟨fun w1 hw1 => ?_, ?_⟩; (exact calls_below hw1 (side_spec _ _ _ _ _ _ _ HA.out HB.out HP.out)); (try simp only [Act.put, List.setIfInBounds_toArray, List.set_cons_zero, List.set_cons_succ]))
  (refine wq_val (by go_simp) ?_; apply Exists.intro; refine ⟨fun w1 hw1 => ?_, ?_⟩; (obtain ⟨hc, hf⟩ := bcell hw1; clear hw1; go_simp; (try with_reducible rfl)); (try simp only [Act.put, List.setIfInBounds_toArray, List.set_cons_zero, List.set_cons_succ]))
  (refine wq_val (by go_simp) ?_; apply Exists.intro; refine ⟨fun w1 hw1 => ?_, ?_⟩; (obtain ⟨hc, hf⟩ := bcell hw1; clear hw1; go_simp; (try with_reducible rfl)); (try simp only [Act.put, List.setIfInBounds_toArray, List.set_cons_zero, List.set_cons_succ]))
  (refine wq_val (by go_simp) ?_; apply Exists.intro; refine ⟨fun w1 hw1 => ?_, ?_⟩; (obtain ⟨hc, hf⟩ := bcell hw1; clear hw1; go_simp; (try with_reducible rfl)); (try simp only [Act.put, List.setIfInBounds_toArray, List.set_cons_zero, List.set_cons_succ]))
  (refine wq_val (by go_simp) ?_; apply Exists.intro; refine ⟨fun w1 hw1 => ?_, ?_⟩; (obtain ⟨hc, hf⟩ := bcell hw1; clear hw1; go_simp; (try with_reducible rfl)); (try simp only [Act.put, List.setIfInBounds_toArray, List.set_cons_zero, List.set_cons_succ]))
  (refine wq_val (by go_simp) ?_; apply Exists.intro; refine ⟨fun w1 hw1 => ?_, ?_⟩; (obtain ⟨hc, hf⟩ := bcell hw1; clear hw1; go_simp; (try with_reducible rfl)); (try simp only [Act.put, List.setIfInBounds_toArray, List.set_cons_zero, List.set_cons_succ]))
  (refine wq_val (by go_simp) ?_; apply Exists.intro; refine ⟨fun w1 hw1 => ?_, ?_⟩; (obtain ⟨hc, hf⟩ := bcell hw1; clear hw1; go_simp; (try with_reducible rfl)); (try simp only [Act.put, List.setIfInBounds_toArray, List.set_cons_zero, List.set_cons_succ]))
  (refine wq_val (by go_simp) ?_; apply Exists.intro; refine ⟨fun w1 hw1 => ?_, ?_⟩; (obtain ⟨hc, hf⟩ := bcell hw1; clear hw1; go_simp; (try with_reducible rfl)); (try simp only [Act.put, List.setIfInBounds_toArray, List.set_cons_zero, List.set_cons_succ]))
  (refine wq_val (by go_simp) ?_; apply Exists.intro; refine ⟨fun w1 hw1 => ?_, ?_⟩; (obtain ⟨hc, hf⟩ := bcell hw1; clear hw1; go_simp; (try with_reducible rfl)); (try simp only [Act.put, List.setIfInBounds_toArray, List.set_cons_zero, List.set_cons_succ]))
  (refine wq_call 104 (by go_simp) ?_; apply Exists.intro; refine ⟨fun w1 hw1 => ?_, ?_⟩; (clear hw1; go_simp; (try with_reducible rfl)); apply Exists.intro; refine ⟨fun w1 hw1 => ?_, ?_⟩; (exact calls_below_same hw1 (min_spec _ _ _)); (try simp only [Act.put, List.setIfInBounds_toArray, List.set_cons_zero, List.set_cons_succ]))
  (refine wq_val (by go_simp) ?_; apply Exists.intro; refine ⟨fun w1 hw1 => ?_, ?_⟩; (obtain ⟨hc, hf⟩ := bcell hw1; clear hw1; go_simp; (try with_reducible rfl)); (try simp only [Act.put, List.setIfInBounds_toArray, List.set_cons_zero, List.set_cons_succ]))
  (refine wq_val (by go_simp) ?_; apply Exists.intro; refine ⟨fun w1 hw1 => ?_, ?_⟩; (obtain ⟨hc, hf⟩ := bcell hw1; clear hw1; go_simp; (try with_reducible rfl)); (try simp only [Act.put, List.setIfInBounds_toArray, List.set_cons_zero, List.set_cons_succ]))
  (refine wq_val (by go_simp) ?_; apply Exists.intro; refine ⟨fun w1 hw1 => ?_, ?_⟩; (obtain ⟨hc, hf⟩ := bcell hw1; clear hw1; go_simp; (try with_reducible rfl)); (try simp only [Act.put, List.setIfInBounds_toArray, List.set_cons_zero, List.set_cons_succ]))
  (refine wq_val (by go_simp) ?_; apply Exists.intro; refine ⟨fun w1 hw1 => ?_, ?_⟩; (obtain ⟨hc, hf⟩ := bcell hw1; clear hw1; go_simp; (try with_reducible rfl)); (try simp only [Act.put, List.setIfInBounds_toArray, List.set_cons_zero, List.set_cons_succ]))
  (refine wq_call 69 (by go_simp) ?_; apply Exists.intro; refine ⟨fun w1 hw1 => ?_, ?_⟩; (clear hw1; go_simp; (try with_reducible rfl)); apply Exists.intro; refine ⟨fun w1 hw1 => ?_, ?_⟩; (exact calls_below_same hw1 (max_spec _ _ _)); (try simp only [Act.put, List.setIfInBounds_toArray, List.set_cons_zero, List.set_cons_succ]))
  (refine wq_call 55 (by go_simp) ?_; apply Exists.intro; refine ⟨fun w1 hw1 => ?_, ?_⟩; (clear hw1; go_simp; (try with_reducible rfl)); apply Exists.intro; refine ⟨fun w1 hw1 => ?_, ?_⟩; (exact calls_below_same hw1 (in_any _ _ _ _)); (try simp only [Act.put, List.setIfInBounds_toArray, List.set_cons_zero, List.set_cons_succ]))
  (refine wq_val (by go_simp) ?_; apply Exists.intro; refine ⟨fun w1 hw1 => ?_, ?_⟩; (obtain ⟨hc, hf⟩ := bcell hw1; clear hw1; go_simp; (try with_reducible rfl)); (try simp only [Act.put, List.setIfInBounds_toArray, List.set_cons_zero, List.set_cons_succ]))
  (refine wq_val (by go_simp) ?_; apply Exists.intro; refine ⟨fun w1 hw1 => ?_, ?_⟩; (obtain ⟨hc, hf⟩ := bcell hw1; clear hw1; go_simp; (try with_reducible rfl)); (try simp only [Act.put, List.setIfInBounds_toArray, List.set_cons_zero, List.set_cons_succ]))
  (refine wq_val (by go_simp) ?_; apply Exists.intro; refine ⟨fun w1 hw1 => ?_, ?_⟩; (obtain ⟨hc, hf⟩ := bcell hw1; clear hw1; go_simp; (try with_reducible rfl)); (try simp only [Act.put, List.setIfInBounds_toArray, List.set_cons_zero, List.set_cons_succ]))
  (refine wq_val (by go_simp) ?_; apply Exists.intro; refine ⟨fun w1 hw1 => ?_, ?_⟩; (obtain ⟨hc, hf⟩ := bcell hw1; clear hw1; go_simp; (try with_reducible rfl)); (try simp only [Act.put, List.setIfInBounds_toArray, List.set_cons_zero, List.set_cons_succ]))
  (refine wq_val (by go_simp) ?_; apply Exists.intro; refine ⟨fun w1 hw1 => ?_, ?_⟩; (obtain ⟨hc, hf⟩ := bcell hw1; clear hw1; go_simp; (try with_reducible rfl)); (try simp only [Act.put, List.setIfInBounds_toArray, List.set_cons_zero, List.set_cons_succ]))
  (refine wq_val (by go_simp) ?_; apply Exists.intro; refine ⟨fun w1 hw1 => ?_, ?_⟩; (obtain ⟨hc, hf⟩ := bcell hw1; clear hw1; go_simp; (try with_reducible rfl)); (try simp only [Act.put, List.setIfInBounds_toArray, List.set_cons_zero, List.set_cons_succ]))
  (refine wq_val (by go_simp) ?_; apply Exists.intro; refine ⟨fun w1 hw1 => ?_, ?_⟩; (obtain ⟨hc, hf⟩ := bcell hw1; clear hw1; go_simp; (try with_reducible rfl)); (try simp only [Act.put, List.setIfInBounds_toArray, List.set_cons_zero, List.set_cons_succ]))
  (refine wq_val (by go_simp) ?_; apply Exists.intro; refine ⟨fun w1 hw1 => ?_, ?_⟩; (obtain ⟨hc, hf⟩ := bcell hw1; clear hw1; go_simp; (try with_reducible rfl)); (try simp only [Act.put, List.setIfInBounds_toArray, List.set_cons_zero, List.set_cons_succ]))
  (refine wq_call 104 (by go_simp) ?_; apply Exists.intro; refine ⟨fun w1 hw1 => ?_, ?_⟩; (clear hw1; go_simp; (try with_reducible rfl)); apply Exists.intro; refine ⟨fun w1 hw1 => ?_, ?_⟩; (exact calls_below_same hw1 (min_spec _ _ _)); (try simp only [Act.put, List.setIfInBounds_toArray, List.set_cons_zero, List.set_cons_succ]))
  (refine wq_val (by go_simp) ?_; apply Exists.intro; refine ⟨fun w1 hw1 => ?_, ?_⟩; (obtain ⟨hc, hf⟩ := bcell hw1; clear hw1; go_simp; (try with_reducible rfl)); (try simp only [Act.put, List.setIfInBounds_toArray, List.set_cons_zero, List.set_cons_succ]))
  (refine wq_val (by go_simp) ?_; apply Exists.intro; refine ⟨fun w1 hw1 => ?_, ?_⟩; (obtain ⟨hc, hf⟩ := bcell hw1; clear hw1; go_simp; (try with_reducible rfl)); (try simp only [Act.put, List.setIfInBounds_toArray, List.set_cons_zero, List.set_cons_succ]))
  (refine wq_val (by go_simp) ?_; apply Exists.intro; refine ⟨fun w1 hw1 => ?_, ?_⟩; (obtain ⟨hc, hf⟩ := bcell hw1; clear hw1; go_simp; (try with_reducible rfl)); (try simp only [Act.put, List.setIfInBounds_toArray, List.set_cons_zero, List.set_cons_succ]))
  (refine wq_val (by go_simp) ?_; apply Exists.intro; refine ⟨fun w1 hw1 => ?_, ?_⟩; (obtain ⟨hc, hf⟩ := bcell hw1; clear hw1; go_simp; (try with_reducible rfl)); (try simp only [Act.put, List.setIfInBounds_toArray, List.set_cons_zero, List.set_cons_succ]))
  (refine wq_call 69 (by go_simp) ?_; apply Exists.intro; refine ⟨fun w1 hw1 => ?_, ?_⟩; (clear hw1; go_simp; (try with_reducible rfl)); apply Exists.intro; refine ⟨fun w1 hw1 => ?_, ?_⟩; (exact calls_below_same hw1 (max_spec _ _ _)); (try simp only [Act.put, List.setIfInBounds_toArray, List.set_cons_zero, List.set_cons_succ]))
  (refine wq_call 55 (by go_simp) ?_; apply Exists.intro; refine ⟨fun w1 hw1 => ?_, ?_⟩; (clear hw1; go_simp; (try with_reducible rfl)); apply Exists.intro; refine ⟨fun w1 hw1 => ?_, ?_⟩; (exact calls_below_same hw1 (in_any _ _ _ _)); (try simp only [Act.put, List.setIfInBounds_toArray, List.set_cons_zero, List.set_cons_succ]))
  (refine wq_val (by go_simp) ?_; apply Exists.intro; refine ⟨fun w1 hw1 => ?_, ?_⟩; (obtain ⟨hc, hf⟩ := bcell hw1; clear hw1; go_simp; (try with_reducible rfl)); (try simp only [Act.put, List.setIfInBounds_toArray, List.set_cons_zero, List.set_cons_succ]))
  (refine wq_val (by go_simp) ?_; apply Exists.intro; refine ⟨fun w1 hw1 => ?_, ?_⟩; (obtain ⟨hc, hf⟩ := bcell hw1; clear hw1; go_simp; (try with_reducible rfl)); (try simp only [Act.put, List.setIfInBounds_toArray, List.set_cons_zero, List.set_cons_succ]))
  refine wq_nil ?_
  intro w1 hb1
  have HB1 := Lib.hid hb1
  clear hb1
  go_wp2
  go_ret
  exact ⟨rfl, bseq (three_allocs _ _ _) HB1.out⟩
theorem on_spec (xa ya xb yb xp yp : Int) (w : World) (ha : okI xa ya = true) (hb : okI xb yb = true) (hp : okI xp yp = true) :
    Calls Tryd.prog 86 #[.agg #[.int .i64 xa, .int .i64 ya], .agg #[.int .i64 xb, .int .i64 yb], .agg #[.int .i64 xp, .int .i64 yp]] w fun e w' => e = .returned (.bool (onB xa ya xb yb xp yp)) ∧ Below w.heap.size w w' := by
  cases h0 : (sdI xa ya xb yb xp yp == 0)
  · rw [show onB xa ya xb yb xp yp = false by unfold onB; rw [show decide (sdI xa ya xb yb xp yp = 0) = false by simpa using h0]; rfl]
    exact on_no0 _ _ _ _ _ _ w ha hb hp h0
  have h3 : decide (sdI xa ya xb yb xp yp = 0) = true := by simpa using h0
  cases h1 : inI xp (min xa xb) (max xa xb)
  · rw [show onB xa ya xb yb xp yp = false by unfold onB; rw [h3, h1]; rfl]
    exact on_no1 _ _ _ _ _ _ w ha hb hp h0 h1
  cases h2 : inI yp (min ya yb) (max ya yb)
  · rw [show onB xa ya xb yb xp yp = false by unfold onB; rw [h3, h1, h2]; rfl]
    exact on_no2 _ _ _ _ _ _ w ha hb hp h0 h1 h2
  · rw [show onB xa ya xb yb xp yp = true by unfold onB; rw [h3, h1, h2]; rfl]
    exact on_yes _ _ _ _ _ _ w ha hb hp h0 h1 h2
set_option maxHeartbeats 2000000 in
theorem crs_no0 (xa ya xb yb xc yc xd yd : Int) (w : World) (ha : okI xa ya = true) (hb : okI xb yb = true) (hc : okI xc yc = true) (hd : okI xd yd = true) (h0 : decide (sdI xa ya xb yb xc yc * sdI xa ya xb yb xd yd < 0) = false) :
    Calls Tryd.prog 110 #[.agg #[.int .i64 xa, .int .i64 ya], .agg #[.int .i64 xb, .int .i64 yb], .agg #[.int .i64 xc, .int .i64 yc], .agg #[.int .i64 xd, .int .i64 yd]] w fun e w' => e = .returned (.bool false) ∧ Below w.heap.size w w' := by
  have e1 : IntKind.i64.wrap (sdI xa ya xb yb xc yc * sdI xa ya xb yb xd yd) = sdI xa ya xb yb xc yc * sdI xa ya xb yb xd yd := IntWalk.i64_in _ (by have r1 := side_rng xa ya xb yb xc yc; have r2 := side_rng xa ya xb yb xd yd; have := mulB _ _ 1 1 r1.1 r1.2 r2.1 r2.2; omega)
  have e2 : IntKind.i64.wrap (sdI xc yc xd yd xa ya * sdI xc yc xd yd xb yb) = sdI xc yc xd yd xa ya * sdI xc yc xd yd xb yb := IntWalk.i64_in _ (by have r1 := side_rng xc yc xd yd xa ya; have r2 := side_rng xc yc xd yd xb yb; have := mulB _ _ 1 1 r1.1 r1.2 r2.1 r2.2; omega)
  have HA := Lib.hid ha
  have HB := Lib.hid hb
  have HC := Lib.hid hc
  have HD := Lib.hid hd
  clear ha hb hc hd
  go_enter Tryd.func110, Tryd.ntmps110
  go_wp2
  refine wp_region_below (by kernel_rfl) (by kernel_rfl) ?_
  (refine wq_val (by go_simp) ?_; apply Exists.intro; refine ⟨fun w1 hw1 => ?_, ?_⟩; (obtain ⟨hc, hf⟩ := bcell hw1; clear hw1; go_simp; (try with_reducible rfl)); (try simp only [Act.put, List.setIfInBounds_toArray, List.set_cons_zero, List.set_cons_succ]))
  (refine wq_val (by go_simp) ?_; apply Exists.intro; refine ⟨fun w1 hw1 => ?_, ?_⟩; (obtain ⟨hc, hf⟩ := bcell hw1; clear hw1; go_simp; (try with_reducible rfl)); (try simp only [Act.put, List.setIfInBounds_toArray, List.set_cons_zero, List.set_cons_succ]))
  (refine wq_val (by go_simp) ?_; apply Exists.intro; refine ⟨fun w1 hw1 => ?_, ?_⟩; (obtain ⟨hc, hf⟩ := bcell hw1; clear hw1; go_simp; (try with_reducible rfl)); (try simp only [Act.put, List.setIfInBounds_toArray, List.set_cons_zero, List.set_cons_succ]))
  (refine wq_call 109 (by go_simp) ?_; apply Exists.intro; refine ⟨fun w1 hw1 => ?_, ?_⟩; (clear hw1; go_simp; (try with_reducible rfl)); apply Exists.intro; refine ⟨fun w1 hw1 => ?_, ?_⟩; (exact calls_below hw1 (side_spec _ _ _ _ _ _ _ HA.out HB.out HC.out)); (try simp only [Act.put, List.setIfInBounds_toArray, List.set_cons_zero, List.set_cons_succ]))
  (refine wq_val (by go_simp) ?_; apply Exists.intro; refine ⟨fun w1 hw1 => ?_, ?_⟩; (obtain ⟨hc, hf⟩ := bcell hw1; clear hw1; go_simp; (try with_reducible rfl)); (try simp only [Act.put, List.setIfInBounds_toArray, List.set_cons_zero, List.set_cons_succ]))
  (refine wq_val (by go_simp) ?_; apply Exists.intro; refine ⟨fun w1 hw1 => ?_, ?_⟩; (obtain ⟨hc, hf⟩ := bcell hw1; clear hw1; go_simp; (try with_reducible rfl)); (try simp only [Act.put, List.setIfInBounds_toArray, List.set_cons_zero, List.set_cons_succ]))
  (refine wq_val (by go_simp) ?_; apply Exists.intro; refine ⟨fun w1 hw1 => ?_, ?_⟩; (obtain ⟨hc, hf⟩ := bcell hw1; clear hw1; go_simp; (try with_reducible rfl)); (try simp only [Act.put, List.setIfInBounds_toArray, List.set_cons_zero, List.set_cons_succ]))
  (refine wq_call 109 (by go_simp) ?_; apply Exists.intro; refine ⟨fun w1 hw1 => ?_, ?_⟩; (clear hw1; go_simp; (try with_reducible rfl)); apply Exists.intro; refine ⟨fun w1 hw1 => ?_, ?_⟩; (exact calls_below hw1 (side_spec _ _ _ _ _ _ _ HA.out HB.out HD.out)); (try simp only [Act.put, List.setIfInBounds_toArray, List.set_cons_zero, List.set_cons_succ]))
  (refine wq_val (by go_simp) ?_; apply Exists.intro; refine ⟨fun w1 hw1 => ?_, ?_⟩; (obtain ⟨hc, hf⟩ := bcell hw1; clear hw1; go_simp; (try with_reducible rfl)); (try simp only [Act.put, List.setIfInBounds_toArray, List.set_cons_zero, List.set_cons_succ]))
  (refine wq_val (by go_simp) ?_; apply Exists.intro; refine ⟨fun w1 hw1 => ?_, ?_⟩; (obtain ⟨hc, hf⟩ := bcell hw1; clear hw1; go_simp; (try with_reducible rfl)); (try simp only [Act.put, List.setIfInBounds_toArray, List.set_cons_zero, List.set_cons_succ]))
  (refine wq_val (by go_simp) ?_; apply Exists.intro; refine ⟨fun w1 hw1 => ?_, ?_⟩; (obtain ⟨hc, hf⟩ := bcell hw1; clear hw1; go_simp; (try with_reducible rfl)); (try simp only [Act.put, List.setIfInBounds_toArray, List.set_cons_zero, List.set_cons_succ]))
  (refine wq_skip (by go_simp) ?_; (try simp only [Act.put, List.setIfInBounds_toArray, List.set_cons_zero, List.set_cons_succ]))
  (refine wq_skip (by go_simp) ?_; (try simp only [Act.put, List.setIfInBounds_toArray, List.set_cons_zero, List.set_cons_succ]))
  (refine wq_skip (by go_simp) ?_; (try simp only [Act.put, List.setIfInBounds_toArray, List.set_cons_zero, List.set_cons_succ]))
  (refine wq_skip (by go_simp) ?_; (try simp only [Act.put, List.setIfInBounds_toArray, List.set_cons_zero, List.set_cons_succ]))
  (refine wq_skip (by go_simp) ?_; (try simp only [Act.put, List.setIfInBounds_toArray, List.set_cons_zero, List.set_cons_succ]))
  (refine wq_skip (by go_simp) ?_; (try simp only [Act.put, List.setIfInBounds_toArray, List.set_cons_zero, List.set_cons_succ]))
  (refine wq_skip (by go_simp) ?_; (try simp only [Act.put, List.setIfInBounds_toArray, List.set_cons_zero, List.set_cons_succ]))
  (refine wq_skip (by go_simp) ?_; (try simp only [Act.put, List.setIfInBounds_toArray, List.set_cons_zero, List.set_cons_succ]))
  (refine wq_skip (by go_simp) ?_; (try simp only [Act.put, List.setIfInBounds_toArray, List.set_cons_zero, List.set_cons_succ]))
  (refine wq_skip (by go_simp) ?_; (try simp only [Act.put, List.setIfInBounds_toArray, List.set_cons_zero, List.set_cons_succ]))
  (refine wq_val (by go_simp) ?_; apply Exists.intro; refine ⟨fun w1 hw1 => ?_, ?_⟩; (obtain ⟨hc, hf⟩ := bcell hw1; clear hw1; go_simp; (try with_reducible rfl)); (try simp only [Act.put, List.setIfInBounds_toArray, List.set_cons_zero, List.set_cons_succ]))
  (refine wq_val (by go_simp) ?_; apply Exists.intro; refine ⟨fun w1 hw1 => ?_, ?_⟩; (obtain ⟨hc, hf⟩ := bcell hw1; clear hw1; go_simp; (try with_reducible rfl)); (try simp only [Act.put, List.setIfInBounds_toArray, List.set_cons_zero, List.set_cons_succ]))
  refine wq_nil ?_
  intro w1 hb1
  have HB1 := Lib.hid hb1
  clear hb1
  go_wp2
  go_ret
  exact ⟨rfl, bseq (four_allocs _ _ _ _) HB1.out⟩
set_option maxHeartbeats 2000000 in
theorem crs_no1 (xa ya xb yb xc yc xd yd : Int) (w : World) (ha : okI xa ya = true) (hb : okI xb yb = true) (hc : okI xc yc = true) (hd : okI xd yd = true) (h0 : decide (sdI xa ya xb yb xc yc * sdI xa ya xb yb xd yd < 0) = true) (h1 : decide (sdI xc yc xd yd xa ya * sdI xc yc xd yd xb yb < 0) = false) :
    Calls Tryd.prog 110 #[.agg #[.int .i64 xa, .int .i64 ya], .agg #[.int .i64 xb, .int .i64 yb], .agg #[.int .i64 xc, .int .i64 yc], .agg #[.int .i64 xd, .int .i64 yd]] w fun e w' => e = .returned (.bool false) ∧ Below w.heap.size w w' := by
  have e1 : IntKind.i64.wrap (sdI xa ya xb yb xc yc * sdI xa ya xb yb xd yd) = sdI xa ya xb yb xc yc * sdI xa ya xb yb xd yd := IntWalk.i64_in _ (by have r1 := side_rng xa ya xb yb xc yc; have r2 := side_rng xa ya xb yb xd yd; have := mulB _ _ 1 1 r1.1 r1.2 r2.1 r2.2; omega)
  have e2 : IntKind.i64.wrap (sdI xc yc xd yd xa ya * sdI xc yc xd yd xb yb) = sdI xc yc xd yd xa ya * sdI xc yc xd yd xb yb := IntWalk.i64_in _ (by have r1 := side_rng xc yc xd yd xa ya; have r2 := side_rng xc yc xd yd xb yb; have := mulB _ _ 1 1 r1.1 r1.2 r2.1 r2.2; omega)
  have HA := Lib.hid ha
  have HB := Lib.hid hb
  have HC := Lib.hid hc
  have HD := Lib.hid hd
  clear ha hb hc hd
  go_enter Tryd.func110, Tryd.ntmps110
  go_wp2
  refine wp_region_below (by kernel_rfl) (by kernel_rfl) ?_
  (refine wq_val (by go_simp) ?_; apply Exists.intro; refine ⟨fun w1 hw1 => ?_, ?_⟩; (obtain ⟨hc, hf⟩ := bcell hw1; clear hw1; go_simp; (try with_reducible rfl)); (try simp only [Act.put, List.setIfInBounds_toArray, List.set_cons_zero, List.set_cons_succ]))
  (refine wq_val (by go_simp) ?_; apply Exists.intro; refine ⟨fun w1 hw1 => ?_, ?_⟩; (obtain ⟨hc, hf⟩ := bcell hw1; clear hw1; go_simp; (try with_reducible rfl)); (try simp only [Act.put, List.setIfInBounds_toArray, List.set_cons_zero, List.set_cons_succ]))
  (refine wq_val (by go_simp) ?_; apply Exists.intro; refine ⟨fun w1 hw1 => ?_, ?_⟩; (obtain ⟨hc, hf⟩ := bcell hw1; clear hw1; go_simp; (try with_reducible rfl)); (try simp only [Act.put, List.setIfInBounds_toArray, List.set_cons_zero, List.set_cons_succ]))
  (refine wq_call 109 (by go_simp) ?_; apply Exists.intro; refine ⟨fun w1 hw1 => ?_, ?_⟩; (clear hw1; go_simp; (try with_reducible rfl)); apply Exists.intro; refine ⟨fun w1 hw1 => ?_, ?_⟩; (exact calls_below hw1 (side_spec _ _ _ _ _ _ _ HA.out HB.out HC.out)); (try simp only [Act.put, List.setIfInBounds_toArray, List.set_cons_zero, List.set_cons_succ]))
  (refine wq_val (by go_simp) ?_; apply Exists.intro; refine ⟨fun w1 hw1 => ?_, ?_⟩; (obtain ⟨hc, hf⟩ := bcell hw1; clear hw1; go_simp; (try with_reducible rfl)); (try simp only [Act.put, List.setIfInBounds_toArray, List.set_cons_zero, List.set_cons_succ]))
  (refine wq_val (by go_simp) ?_; apply Exists.intro; refine ⟨fun w1 hw1 => ?_, ?_⟩; (obtain ⟨hc, hf⟩ := bcell hw1; clear hw1; go_simp; (try with_reducible rfl)); (try simp only [Act.put, List.setIfInBounds_toArray, List.set_cons_zero, List.set_cons_succ]))
  (refine wq_val (by go_simp) ?_; apply Exists.intro; refine ⟨fun w1 hw1 => ?_, ?_⟩; (obtain ⟨hc, hf⟩ := bcell hw1; clear hw1; go_simp; (try with_reducible rfl)); (try simp only [Act.put, List.setIfInBounds_toArray, List.set_cons_zero, List.set_cons_succ]))
  (refine wq_call 109 (by go_simp) ?_; apply Exists.intro; refine ⟨fun w1 hw1 => ?_, ?_⟩; (clear hw1; go_simp; (try with_reducible rfl)); apply Exists.intro; refine ⟨fun w1 hw1 => ?_, ?_⟩; (exact calls_below hw1 (side_spec _ _ _ _ _ _ _ HA.out HB.out HD.out)); (try simp only [Act.put, List.setIfInBounds_toArray, List.set_cons_zero, List.set_cons_succ]))
  (refine wq_val (by go_simp) ?_; apply Exists.intro; refine ⟨fun w1 hw1 => ?_, ?_⟩; (obtain ⟨hc, hf⟩ := bcell hw1; clear hw1; go_simp; (try with_reducible rfl)); (try simp only [Act.put, List.setIfInBounds_toArray, List.set_cons_zero, List.set_cons_succ]))
  (refine wq_val (by go_simp) ?_; apply Exists.intro; refine ⟨fun w1 hw1 => ?_, ?_⟩; (obtain ⟨hc, hf⟩ := bcell hw1; clear hw1; go_simp; (try with_reducible rfl)); (try simp only [Act.put, List.setIfInBounds_toArray, List.set_cons_zero, List.set_cons_succ]))
  (refine wq_val (by go_simp) ?_; apply Exists.intro; refine ⟨fun w1 hw1 => ?_, ?_⟩; (obtain ⟨hc, hf⟩ := bcell hw1; clear hw1; go_simp; (try with_reducible rfl)); (try simp only [Act.put, List.setIfInBounds_toArray, List.set_cons_zero, List.set_cons_succ]))
  (refine wq_val (by go_simp) ?_; apply Exists.intro; refine ⟨fun w1 hw1 => ?_, ?_⟩; (obtain ⟨hc, hf⟩ := bcell hw1; clear hw1; go_simp; (try with_reducible rfl)); (try simp only [Act.put, List.setIfInBounds_toArray, List.set_cons_zero, List.set_cons_succ]))
  (refine wq_val (by go_simp) ?_; apply Exists.intro; refine ⟨fun w1 hw1 => ?_, ?_⟩; (obtain ⟨hc, hf⟩ := bcell hw1; clear hw1; go_simp; (try with_reducible rfl)); (try simp only [Act.put, List.setIfInBounds_toArray, List.set_cons_zero, List.set_cons_succ]))
  (refine wq_val (by go_simp) ?_; apply Exists.intro; refine ⟨fun w1 hw1 => ?_, ?_⟩; (obtain ⟨hc, hf⟩ := bcell hw1; clear hw1; go_simp; (try with_reducible rfl)); (try simp only [Act.put, List.setIfInBounds_toArray, List.set_cons_zero, List.set_cons_succ]))
  (refine wq_call 109 (by go_simp) ?_; apply Exists.intro; refine ⟨fun w1 hw1 => ?_, ?_⟩; (clear hw1; go_simp; (try with_reducible rfl)); apply Exists.intro; refine ⟨fun w1 hw1 => ?_, ?_⟩; (exact calls_below hw1 (side_spec _ _ _ _ _ _ _ HC.out HD.out HA.out)); (try simp only [Act.put, List.setIfInBounds_toArray, List.set_cons_zero, List.set_cons_succ]))
  (refine wq_val (by go_simp) ?_; apply Exists.intro; refine ⟨fun w1 hw1 => ?_, ?_⟩; (obtain ⟨hc, hf⟩ := bcell hw1; clear hw1; go_simp; (try with_reducible rfl)); (try simp only [Act.put, List.setIfInBounds_toArray, List.set_cons_zero, List.set_cons_succ]))
  (refine wq_val (by go_simp) ?_; apply Exists.intro; refine ⟨fun w1 hw1 => ?_, ?_⟩; (obtain ⟨hc, hf⟩ := bcell hw1; clear hw1; go_simp; (try with_reducible rfl)); (try simp only [Act.put, List.setIfInBounds_toArray, List.set_cons_zero, List.set_cons_succ]))
  (refine wq_val (by go_simp) ?_; apply Exists.intro; refine ⟨fun w1 hw1 => ?_, ?_⟩; (obtain ⟨hc, hf⟩ := bcell hw1; clear hw1; go_simp; (try with_reducible rfl)); (try simp only [Act.put, List.setIfInBounds_toArray, List.set_cons_zero, List.set_cons_succ]))
  (refine wq_call 109 (by go_simp) ?_; apply Exists.intro; refine ⟨fun w1 hw1 => ?_, ?_⟩; (clear hw1; go_simp; (try with_reducible rfl)); apply Exists.intro; refine ⟨fun w1 hw1 => ?_, ?_⟩; (exact calls_below hw1 (side_spec _ _ _ _ _ _ _ HC.out HD.out HB.out)); (try simp only [Act.put, List.setIfInBounds_toArray, List.set_cons_zero, List.set_cons_succ]))
  (refine wq_val (by go_simp) ?_; apply Exists.intro; refine ⟨fun w1 hw1 => ?_, ?_⟩; (obtain ⟨hc, hf⟩ := bcell hw1; clear hw1; go_simp; (try with_reducible rfl)); (try simp only [Act.put, List.setIfInBounds_toArray, List.set_cons_zero, List.set_cons_succ]))
  (refine wq_val (by go_simp) ?_; apply Exists.intro; refine ⟨fun w1 hw1 => ?_, ?_⟩; (obtain ⟨hc, hf⟩ := bcell hw1; clear hw1; go_simp; (try with_reducible rfl)); (try simp only [Act.put, List.setIfInBounds_toArray, List.set_cons_zero, List.set_cons_succ]))
  (refine wq_val (by go_simp) ?_; apply Exists.intro; refine ⟨fun w1 hw1 => ?_, ?_⟩; (obtain ⟨hc, hf⟩ := bcell hw1; clear hw1; go_simp; (try with_reducible rfl)); (try simp only [Act.put, List.setIfInBounds_toArray, List.set_cons_zero, List.set_cons_succ]))
  (refine wq_val (by go_simp) ?_; apply Exists.intro; refine ⟨fun w1 hw1 => ?_, ?_⟩; (obtain ⟨hc, hf⟩ := bcell hw1; clear hw1; go_simp; (try with_reducible rfl)); (try simp only [Act.put, List.setIfInBounds_toArray, List.set_cons_zero, List.set_cons_succ]))
  refine wq_nil ?_
  intro w1 hb1
  have HB1 := Lib.hid hb1
  clear hb1
  go_wp2
  go_ret
  exact ⟨rfl, bseq (four_allocs _ _ _ _) HB1.out⟩
set_option maxHeartbeats 2000000 in
theorem crs_yes (xa ya xb yb xc yc xd yd : Int) (w : World) (ha : okI xa ya = true) (hb : okI xb yb = true) (hc : okI xc yc = true) (hd : okI xd yd = true) (h0 : decide (sdI xa ya xb yb xc yc * sdI xa ya xb yb xd yd < 0) = true) (h1 : decide (sdI xc yc xd yd xa ya * sdI xc yc xd yd xb yb < 0) = true) :
    Calls Tryd.prog 110 #[.agg #[.int .i64 xa, .int .i64 ya], .agg #[.int .i64 xb, .int .i64 yb], .agg #[.int .i64 xc, .int .i64 yc], .agg #[.int .i64 xd, .int .i64 yd]] w fun e w' => e = .returned (.bool true) ∧ Below w.heap.size w w' := by
  have e1 : IntKind.i64.wrap (sdI xa ya xb yb xc yc * sdI xa ya xb yb xd yd) = sdI xa ya xb yb xc yc * sdI xa ya xb yb xd yd := IntWalk.i64_in _ (by have r1 := side_rng xa ya xb yb xc yc; have r2 := side_rng xa ya xb yb xd yd; have := mulB _ _ 1 1 r1.1 r1.2 r2.1 r2.2; omega)
  have e2 : IntKind.i64.wrap (sdI xc yc xd yd xa ya * sdI xc yc xd yd xb yb) = sdI xc yc xd yd xa ya * sdI xc yc xd yd xb yb := IntWalk.i64_in _ (by have r1 := side_rng xc yc xd yd xa ya; have r2 := side_rng xc yc xd yd xb yb; have := mulB _ _ 1 1 r1.1 r1.2 r2.1 r2.2; omega)
  have HA := Lib.hid ha
  have HB := Lib.hid hb
  have HC := Lib.hid hc
  have HD := Lib.hid hd
  clear ha hb hc hd
  go_enter Tryd.func110, Tryd.ntmps110
  go_wp2
  refine wp_region_below (by kernel_rfl) (by kernel_rfl) ?_
  (refine wq_val (by go_simp) ?_; apply Exists.intro; refine ⟨fun w1 hw1 => ?_, ?_⟩; (obtain ⟨hc, hf⟩ := bcell hw1; clear hw1; go_simp; (try with_reducible rfl)); (try simp only [Act.put, List.setIfInBounds_toArray, List.set_cons_zero, List.set_cons_succ]))
  (refine wq_val (by go_simp) ?_; apply Exists.intro; refine ⟨fun w1 hw1 => ?_, ?_⟩; (obtain ⟨hc, hf⟩ := bcell hw1; clear hw1; go_simp; (try with_reducible rfl)); (try simp only [Act.put, List.setIfInBounds_toArray, List.set_cons_zero, List.set_cons_succ]))
  (refine wq_val (by go_simp) ?_; apply Exists.intro; refine ⟨fun w1 hw1 => ?_, ?_⟩; (obtain ⟨hc, hf⟩ := bcell hw1; clear hw1; go_simp; (try with_reducible rfl)); (try simp only [Act.put, List.setIfInBounds_toArray, List.set_cons_zero, List.set_cons_succ]))
  (refine wq_call 109 (by go_simp) ?_; apply Exists.intro; refine ⟨fun w1 hw1 => ?_, ?_⟩; (clear hw1; go_simp; (try with_reducible rfl)); apply Exists.intro; refine ⟨fun w1 hw1 => ?_, ?_⟩; (exact calls_below hw1 (side_spec _ _ _ _ _ _ _ HA.out HB.out HC.out)); (try simp only [Act.put, List.setIfInBounds_toArray, List.set_cons_zero, List.set_cons_succ]))
  (refine wq_val (by go_simp) ?_; apply Exists.intro; refine ⟨fun w1 hw1 => ?_, ?_⟩; (obtain ⟨hc, hf⟩ := bcell hw1; clear hw1; go_simp; (try with_reducible rfl)); (try simp only [Act.put, List.setIfInBounds_toArray, List.set_cons_zero, List.set_cons_succ]))
  (refine wq_val (by go_simp) ?_; apply Exists.intro; refine ⟨fun w1 hw1 => ?_, ?_⟩; (obtain ⟨hc, hf⟩ := bcell hw1; clear hw1; go_simp; (try with_reducible rfl)); (try simp only [Act.put, List.setIfInBounds_toArray, List.set_cons_zero, List.set_cons_succ]))
  (refine wq_val (by go_simp) ?_; apply Exists.intro; refine ⟨fun w1 hw1 => ?_, ?_⟩; (obtain ⟨hc, hf⟩ := bcell hw1; clear hw1; go_simp; (try with_reducible rfl)); (try simp only [Act.put, List.setIfInBounds_toArray, List.set_cons_zero, List.set_cons_succ]))
  (refine wq_call 109 (by go_simp) ?_; apply Exists.intro; refine ⟨fun w1 hw1 => ?_, ?_⟩; (clear hw1; go_simp; (try with_reducible rfl)); apply Exists.intro; refine ⟨fun w1 hw1 => ?_, ?_⟩; (exact calls_below hw1 (side_spec _ _ _ _ _ _ _ HA.out HB.out HD.out)); (try simp only [Act.put, List.setIfInBounds_toArray, List.set_cons_zero, List.set_cons_succ]))
  (refine wq_val (by go_simp) ?_; apply Exists.intro; refine ⟨fun w1 hw1 => ?_, ?_⟩; (obtain ⟨hc, hf⟩ := bcell hw1; clear hw1; go_simp; (try with_reducible rfl)); (try simp only [Act.put, List.setIfInBounds_toArray, List.set_cons_zero, List.set_cons_succ]))
  (refine wq_val (by go_simp) ?_; apply Exists.intro; refine ⟨fun w1 hw1 => ?_, ?_⟩; (obtain ⟨hc, hf⟩ := bcell hw1; clear hw1; go_simp; (try with_reducible rfl)); (try simp only [Act.put, List.setIfInBounds_toArray, List.set_cons_zero, List.set_cons_succ]))
  (refine wq_val (by go_simp) ?_; apply Exists.intro; refine ⟨fun w1 hw1 => ?_, ?_⟩; (obtain ⟨hc, hf⟩ := bcell hw1; clear hw1; go_simp; (try with_reducible rfl)); (try simp only [Act.put, List.setIfInBounds_toArray, List.set_cons_zero, List.set_cons_succ]))
  (refine wq_val (by go_simp) ?_; apply Exists.intro; refine ⟨fun w1 hw1 => ?_, ?_⟩; (obtain ⟨hc, hf⟩ := bcell hw1; clear hw1; go_simp; (try with_reducible rfl)); (try simp only [Act.put, List.setIfInBounds_toArray, List.set_cons_zero, List.set_cons_succ]))
  (refine wq_val (by go_simp) ?_; apply Exists.intro; refine ⟨fun w1 hw1 => ?_, ?_⟩; (obtain ⟨hc, hf⟩ := bcell hw1; clear hw1; go_simp; (try with_reducible rfl)); (try simp only [Act.put, List.setIfInBounds_toArray, List.set_cons_zero, List.set_cons_succ]))
  (refine wq_val (by go_simp) ?_; apply Exists.intro; refine ⟨fun w1 hw1 => ?_, ?_⟩; (obtain ⟨hc, hf⟩ := bcell hw1; clear hw1; go_simp; (try with_reducible rfl)); (try simp only [Act.put, List.setIfInBounds_toArray, List.set_cons_zero, List.set_cons_succ]))
  (refine wq_call 109 (by go_simp) ?_; apply Exists.intro; refine ⟨fun w1 hw1 => ?_, ?_⟩; (clear hw1; go_simp; (try with_reducible rfl)); apply Exists.intro; refine ⟨fun w1 hw1 => ?_, ?_⟩; (exact calls_below hw1 (side_spec _ _ _ _ _ _ _ HC.out HD.out HA.out)); (try simp only [Act.put, List.setIfInBounds_toArray, List.set_cons_zero, List.set_cons_succ]))
  (refine wq_val (by go_simp) ?_; apply Exists.intro; refine ⟨fun w1 hw1 => ?_, ?_⟩; (obtain ⟨hc, hf⟩ := bcell hw1; clear hw1; go_simp; (try with_reducible rfl)); (try simp only [Act.put, List.setIfInBounds_toArray, List.set_cons_zero, List.set_cons_succ]))
  (refine wq_val (by go_simp) ?_; apply Exists.intro; refine ⟨fun w1 hw1 => ?_, ?_⟩; (obtain ⟨hc, hf⟩ := bcell hw1; clear hw1; go_simp; (try with_reducible rfl)); (try simp only [Act.put, List.setIfInBounds_toArray, List.set_cons_zero, List.set_cons_succ]))
  (refine wq_val (by go_simp) ?_; apply Exists.intro; refine ⟨fun w1 hw1 => ?_, ?_⟩; (obtain ⟨hc, hf⟩ := bcell hw1; clear hw1; go_simp; (try with_reducible rfl)); (try simp only [Act.put, List.setIfInBounds_toArray, List.set_cons_zero, List.set_cons_succ]))
  (refine wq_call 109 (by go_simp) ?_; apply Exists.intro; refine ⟨fun w1 hw1 => ?_, ?_⟩; (clear hw1; go_simp; (try with_reducible rfl)); apply Exists.intro; refine ⟨fun w1 hw1 => ?_, ?_⟩; (exact calls_below hw1 (side_spec _ _ _ _ _ _ _ HC.out HD.out HB.out)); (try simp only [Act.put, List.setIfInBounds_toArray, List.set_cons_zero, List.set_cons_succ]))
  (refine wq_val (by go_simp) ?_; apply Exists.intro; refine ⟨fun w1 hw1 => ?_, ?_⟩; (obtain ⟨hc, hf⟩ := bcell hw1; clear hw1; go_simp; (try with_reducible rfl)); (try simp only [Act.put, List.setIfInBounds_toArray, List.set_cons_zero, List.set_cons_succ]))
  (refine wq_val (by go_simp) ?_; apply Exists.intro; refine ⟨fun w1 hw1 => ?_, ?_⟩; (obtain ⟨hc, hf⟩ := bcell hw1; clear hw1; go_simp; (try with_reducible rfl)); (try simp only [Act.put, List.setIfInBounds_toArray, List.set_cons_zero, List.set_cons_succ]))
  (refine wq_val (by go_simp) ?_; apply Exists.intro; refine ⟨fun w1 hw1 => ?_, ?_⟩; (obtain ⟨hc, hf⟩ := bcell hw1; clear hw1; go_simp; (try with_reducible rfl)); (try simp only [Act.put, List.setIfInBounds_toArray, List.set_cons_zero, List.set_cons_succ]))
  (refine wq_val (by go_simp) ?_; apply Exists.intro; refine ⟨fun w1 hw1 => ?_, ?_⟩; (obtain ⟨hc, hf⟩ := bcell hw1; clear hw1; go_simp; (try with_reducible rfl)); (try simp only [Act.put, List.setIfInBounds_toArray, List.set_cons_zero, List.set_cons_succ]))
  refine wq_nil ?_
  intro w1 hb1
  have HB1 := Lib.hid hb1
  clear hb1
  go_wp2
  go_ret
  exact ⟨rfl, bseq (four_allocs _ _ _ _) HB1.out⟩
theorem crosses_spec (xa ya xb yb xc yc xd yd : Int) (w : World) (ha : okI xa ya = true) (hb : okI xb yb = true) (hc : okI xc yc = true) (hd : okI xd yd = true) :
    Calls Tryd.prog 110 #[.agg #[.int .i64 xa, .int .i64 ya], .agg #[.int .i64 xb, .int .i64 yb], .agg #[.int .i64 xc, .int .i64 yc], .agg #[.int .i64 xd, .int .i64 yd]] w fun e w' => e = .returned (.bool (csB xa ya xb yb xc yc xd yd)) ∧ Below w.heap.size w w' := by
  unfold csB
  cases h0 : decide (sdI xa ya xb yb xc yc * sdI xa ya xb yb xd yd < 0)
  · exact crs_no0 _ _ _ _ _ _ _ _ w ha hb hc hd h0
  cases h1 : decide (sdI xc yc xd yd xa ya * sdI xc yc xd yd xb yb < 0)
  · exact crs_no1 _ _ _ _ _ _ _ _ w ha hb hc hd h0 h1
  · exact crs_yes _ _ _ _ _ _ _ _ w ha hb hc hd h0 h1
end Go.Proofs.YtmfchcaidfloaaaDoor
namespace Go.Proofs.YtmfchcaidfloaaaDoor
open Go.ChangeShapes Go.WideShapes Go.ChangeAt Go.RowKit

theorem sq_rng (xa ya xb yb : Int) (ha : okI xa ya = true) (hb : okI xb yb = true) : 0 ≤ sqI xa ya xb yb ∧ sqI xa ya xb yb ≤ 800000000 := by
  have ba := ok_bd ha
  have bb := ok_bd hb
  have m1 := mulB (xa - xb) (xa - xb) 20000 20000 (by omega) (by omega) (by omega) (by omega)
  have m2 := mulB (ya - yb) (ya - yb) 20000 20000 (by omega) (by omega) (by omega) (by omega)
  have s1 := sq_nonneg (xa - xb)
  have s2 := sq_nonneg (ya - yb)
  unfold sqI
  omega
end Go.Proofs.YtmfchcaidfloaaaDoor
namespace Go.Proofs.YtmfchcaidfloaaaDoor
open Go.ChangeShapes Go.WideShapes Go.ChangeAt Go.RowKit
set_option linter.unusedVariables false

theorem PtsAt.pt {w : World} {b : Nat} {zs : List P2} (h : PtsAt w b zs) {k : Nat} (hk : k < zs.length) : ∃ x y : Int, zs.getD k (0, 0) = (x, y) ∧ w.cell? ⟨b, k * 2, none⟩ = some (.int .i64 x) ∧ w.cell? ⟨b, k * 2 + 1, none⟩ = some (.int .i64 y) :=
  ⟨_, _, rfl, h.2 k hk⟩
theorem PtsAt.ok {w : World} {b : Nat} {zs : List P2} (h : PtsAt w b zs) (hv : allOk zs = true) {k : Nat} (hk : k < zs.length) : ∃ x y : Int, zs.getD k (0, 0) = (x, y) ∧ okI x y = true ∧ w.cell? ⟨b, k * 2, none⟩ = some (.int .i64 x) ∧ w.cell? ⟨b, k * 2 + 1, none⟩ = some (.int .i64 y) :=
  ⟨_, _, rfl, allOk_at hv k hk, h.2 k hk⟩
theorem mod_int (k c n : Nat) : (((k : Int) + (c : Int)) % (n : Int)) = (((k + c) % n : Nat) : Int) := by simp
theorem area_step (zs : List P2) (k : Nat) (x y u v : Int) (hk : k < zs.length) (h1 : zs.getD k (0, 0) = (x, y)) (h2 : zs.getD ((k + 1) % zs.length) (0, 0) = (u, v)) :
    sumTo (fun k => crP (pt zs k) (pt zs (k + 1))) k + (x * v - y * u) = sumTo (fun k => crP (pt zs k) (pt zs (k + 1))) (k + 1) := by
  show _ = sumTo _ k + crP (pt zs k) (pt zs (k + 1))
  rw [pt_lt hk, h1, pt, h2]
  rfl
set_option maxHeartbeats 1000000 in
theorem area_spec (b len cap : Nat) (zs : List P2) (w : World) (hz : len = zs.length) (h1 : 1 ≤ len) (hl : len ≤ 24) (hv : allOk zs = true) (hp : PtsAt w b zs) :
    Calls Tryd.prog 88 #[.slice (some ⟨b, 0, none⟩) len cap] w fun e w' => e = .returned (.int .i64 (areaI zs)) ∧ Below w.heap.size w w' := by
  have HZ := Lib.hid hz
  have HP := Lib.hid hp
  have HV := Lib.hid hv
  clear hz hp hv
  go_enter Tryd.func88, Tryd.ntmps88
  go_wp2
  go_loopw [3, 4] (fun s i wr => ∃ k : Nat, k ≤ len ∧ i = .int .i64 k ∧ s = .int .i64 (sumTo (fun k => crP (pt zs k) (pt zs (k + 1))) k) ∧ Hid (Below w.heap.size w wr)) (fun _ i _ => len - (intOf i).toNat)
  case atStart => exact ⟨0, by omega, rfl, rfl, Lib.hid (Below.refl _ _)⟩
  case round =>
    obtain ⟨k, hk, rfl, rfl, hb⟩ := hrel
    by_cases hlt : k < len
    · have hkz : k < zs.length := by have := HZ.out; omega
      have hj : (k + 1) % zs.length < zs.length := Nat.mod_lt _ (by omega)
      have hP := HP.out.below hb.out HP.out.1
      have hbw := hP.1
      have hw := hb.out.size
      obtain ⟨x, y, e1, o1, c1, c2⟩ := hP.ok HV.out hkz
      obtain ⟨u, v, e2, o2, d1, d2⟩ := hP.ok HV.out hj
      have HS := Lib.hid (area_step zs k x y u v hkz e1 e2)
      have hs := area_bd HV.out (by omega) k
      generalize sumTo (fun k => crP (pt zs k) (pt zs (k + 1))) k = s at *
      have b1 := ok_bd o1
      have b2 := ok_bd o2
      have m1 := mulB x v 20000 20000 (by omega) (by omega) (by omega) (by omega)
      have m2 := mulB y u 20000 20000 (by omega) (by omega) (by omega) (by omega)
      rw [← HZ.out] at hj d1 d2
      have gm : ((k : Int) + 1) % (len : Int) = (((k + 1) % len : Nat) : Int) := mod_int k 1 len
      generalize (k + 1) % len = j at *
      clear e1 e2 o1 o2 hP
      have q1 : IntKind.i64.wrap (x * v) = x * v := IntWalk.i64_in _ (by omega)
      have q2 : IntKind.i64.wrap (y * u) = y * u := IntWalk.i64_in _ (by omega)
      have q3 : IntKind.i64.wrap (x * v - y * u) = x * v - y * u := IntWalk.i64_in _ (by omega)
      have q4 : IntKind.i64.wrap (s + (x * v - y * u)) = s + (x * v - y * u) := IntWalk.i64_in _ (by omega)
      go_wp2
      refine wp_region_below (by kernel_rfl) (by kernel_rfl) ?_
      (refine wq_val (by go_simp) ?_; apply Exists.intro; refine ⟨fun w1 hw1 => ?_, ?_⟩; (obtain ⟨hc, hf⟩ := bcell hw1; clear hw1; go_simp; (try with_reducible rfl)); (try simp only [Act.put, List.setIfInBounds_toArray, List.set_cons_zero, List.set_cons_succ]))
      (refine wq_val (by go_simp) ?_; apply Exists.intro; refine ⟨fun w1 hw1 => ?_, ?_⟩; (obtain ⟨hc, hf⟩ := bcell hw1; clear hw1; go_simp; (try with_reducible rfl)); (try simp only [Act.put, List.setIfInBounds_toArray, List.set_cons_zero, List.set_cons_succ]))
      (refine wq_val (by go_simp) ?_; apply Exists.intro; refine ⟨fun w1 hw1 => ?_, ?_⟩; (obtain ⟨hc, hf⟩ := bcell hw1; clear hw1; go_simp; (try with_reducible rfl)); (try simp only [Act.put, List.setIfInBounds_toArray, List.set_cons_zero, List.set_cons_succ]))
      (refine wq_val (by go_simp) ?_; apply Exists.intro; refine ⟨fun w1 hw1 => ?_, ?_⟩; (obtain ⟨hc, hf⟩ := bcell hw1; clear hw1; go_simp; (try with_reducible rfl)); (try simp only [Act.put, List.setIfInBounds_toArray, List.set_cons_zero, List.set_cons_succ]))
      (refine wq_val (by go_simp) ?_; apply Exists.intro; refine ⟨fun w1 hw1 => ?_, ?_⟩; (obtain ⟨hc, hf⟩ := bcell hw1; clear hw1; go_simp; (try with_reducible rfl)); (try simp only [Act.put, List.setIfInBounds_toArray, List.set_cons_zero, List.set_cons_succ]))
      (refine wq_val (by go_simp) ?_; apply Exists.intro; refine ⟨fun w1 hw1 => ?_, ?_⟩; (obtain ⟨hc, hf⟩ := bcell hw1; clear hw1; go_simp; (try with_reducible rfl)); (try simp only [Act.put, List.setIfInBounds_toArray, List.set_cons_zero, List.set_cons_succ]))
      (refine wq_val (by go_simp) ?_; apply Exists.intro; refine ⟨fun w1 hw1 => ?_, ?_⟩; (obtain ⟨hc, hf⟩ := bcell hw1; clear hw1; go_simp; (try with_reducible rfl)); (try simp only [Act.put, List.setIfInBounds_toArray, List.set_cons_zero, List.set_cons_succ]))
      (refine wq_val (by go_simp) ?_; apply Exists.intro; refine ⟨fun w1 hw1 => ?_, ?_⟩; (obtain ⟨hc, hf⟩ := bcell hw1; clear hw1; go_simp; (try with_reducible rfl)); (try simp only [Act.put, List.setIfInBounds_toArray, List.set_cons_zero, List.set_cons_succ]))
      (refine wq_val (by go_simp) ?_; apply Exists.intro; refine ⟨fun w1 hw1 => ?_, ?_⟩; (obtain ⟨hc, hf⟩ := bcell hw1; clear hw1; go_simp; (try with_reducible rfl)); (try simp only [Act.put, List.setIfInBounds_toArray, List.set_cons_zero, List.set_cons_succ]))
      (refine wq_val (by go_simp) ?_; apply Exists.intro; refine ⟨fun w1 hw1 => ?_, ?_⟩; (obtain ⟨hc, hf⟩ := bcell hw1; clear hw1; go_simp; (try with_reducible rfl)); (try simp only [Act.put, List.setIfInBounds_toArray, List.set_cons_zero, List.set_cons_succ]))
      (refine wq_val (by go_simp) ?_; apply Exists.intro; refine ⟨fun w1 hw1 => ?_, ?_⟩; (obtain ⟨hc, hf⟩ := bcell hw1; clear hw1; go_simp; (try with_reducible rfl)); (try simp only [Act.put, List.setIfInBounds_toArray, List.set_cons_zero, List.set_cons_succ]))
      (refine wq_val (by go_simp) ?_; apply Exists.intro; refine ⟨fun w1 hw1 => ?_, ?_⟩; (obtain ⟨hc, hf⟩ := bcell hw1; clear hw1; go_simp; (try with_reducible rfl)); (try simp only [Act.put, List.setIfInBounds_toArray, List.set_cons_zero, List.set_cons_succ]))
      (refine wq_val (by go_simp) ?_; apply Exists.intro; refine ⟨fun w1 hw1 => ?_, ?_⟩; (obtain ⟨hc, hf⟩ := bcell hw1; clear hw1; go_simp; (try with_reducible rfl)); (try simp only [Act.put, List.setIfInBounds_toArray, List.set_cons_zero, List.set_cons_succ]))
      (refine wq_val (by go_simp) ?_; apply Exists.intro; refine ⟨fun w1 hw1 => ?_, ?_⟩; (obtain ⟨hc, hf⟩ := bcell hw1; clear hw1; go_simp; (try with_reducible rfl)); (try simp only [Act.put, List.setIfInBounds_toArray, List.set_cons_zero, List.set_cons_succ]))
      (refine wq_val (by go_simp) ?_; apply Exists.intro; refine ⟨fun w1 hw1 => ?_, ?_⟩; (obtain ⟨hc, hf⟩ := bcell hw1; clear hw1; go_simp; (try with_reducible rfl)); (try simp only [Act.put, List.setIfInBounds_toArray, List.set_cons_zero, List.set_cons_succ]))
      (refine wq_val (by go_simp) ?_; apply Exists.intro; refine ⟨fun w1 hw1 => ?_, ?_⟩; (obtain ⟨hc, hf⟩ := bcell hw1; clear hw1; go_simp; (try with_reducible rfl)); (try simp only [Act.put, List.setIfInBounds_toArray, List.set_cons_zero, List.set_cons_succ]))
      (refine wq_val (by go_simp) ?_; apply Exists.intro; refine ⟨fun w1 hw1 => ?_, ?_⟩; (obtain ⟨hc, hf⟩ := bcell hw1; clear hw1; go_simp; (try with_reducible rfl)); (try simp only [Act.put, List.setIfInBounds_toArray, List.set_cons_zero, List.set_cons_succ]))
      (refine wq_val (by go_simp) ?_; apply Exists.intro; refine ⟨fun w1 hw1 => ?_, ?_⟩; (obtain ⟨hc, hf⟩ := bcell hw1; clear hw1; go_simp; (try with_reducible rfl)); (try simp only [Act.put, List.setIfInBounds_toArray, List.set_cons_zero, List.set_cons_succ]))
      (refine wq_val (by go_simp) ?_; apply Exists.intro; refine ⟨fun w1 hw1 => ?_, ?_⟩; (obtain ⟨hc, hf⟩ := bcell hw1; clear hw1; go_simp; (try with_reducible rfl)); (try simp only [Act.put, List.setIfInBounds_toArray, List.set_cons_zero, List.set_cons_succ]))
      (refine wq_val (by go_simp) ?_; apply Exists.intro; refine ⟨fun w1 hw1 => ?_, ?_⟩; (obtain ⟨hc, hf⟩ := bcell hw1; clear hw1; go_simp; (try with_reducible rfl)); (try simp only [Act.put, List.setIfInBounds_toArray, List.set_cons_zero, List.set_cons_succ]))
      refine wq_nil ?_
      intro w1 hb1
      have HB1 := Lib.hid hb1
      clear hb1
      go_wp2
      go_roundw
      case rel => exact ⟨k + 1, by omega, by go_num, by rw [HS.out], Lib.hid (bseq (hb.out.alloc hb.out.size _) HB1.out)⟩
      case measure => simp [intOf]; omega
    · go_wp2
      go_ret
      exact ⟨ret_int (by rw [areaI, ← HZ.out, show k = len by omega]), hb.out⟩
end Go.Proofs.YtmfchcaidfloaaaDoor
