/- Points and segments in the plane with integer coordinates: sides, crossings, distances; plain number theory. -/
import Derived.Test.YtcbbhpabiijpoaaRootMath
namespace Go.Proofs.Ytcbbhpabiijpoaa
theorem mulB (a b : Int) (A B : Int) (h1 : -A ≤ a) (h2 : a ≤ A) (h3 : -B ≤ b) (h4 : b ≤ B) : -(A * B) ≤ a * b ∧ a * b ≤ A * B := by
  have h5 := Int.mul_nonneg (show 0 ≤ A - a by omega) (show 0 ≤ B - b by omega)
  have h6 := Int.mul_nonneg (show 0 ≤ A + a by omega) (show 0 ≤ B + b by omega)
  have h7 := Int.mul_nonneg (show 0 ≤ A - a by omega) (show 0 ≤ B + b by omega)
  have h8 := Int.mul_nonneg (show 0 ≤ A + a by omega) (show 0 ≤ B - b by omega)
  constructor <;> grind
def crI (xa ya xb yb xc yc : Int) : Int := (xb - xa) * (yc - ya) - (yb - ya) * (xc - xa)
def sgI (v : Int) : Int := if 0 < v then 1 else if v < 0 then -1 else 0
def sdI (xa ya xb yb xc yc : Int) : Int := sgI (crI xa ya xb yb xc yc)
def onB (xa ya xb yb xp yp : Int) : Bool := decide (sdI xa ya xb yb xp yp = 0) && inI xp (min xa xb) (max xa xb) && inI yp (min ya yb) (max ya yb)
theorem sg_zero (v : Int) : sgI v = 0 ↔ v = 0 := by unfold sgI; split <;> (try split) <;> omega
theorem sg_neg (v : Int) : sgI (-v) = - sgI v := by unfold sgI; split <;> (try split) <;> (try split) <;> (try split) <;> omega
theorem sq_nonneg (a : Int) : 0 ≤ a * a := by
  rcases Int.le_total 0 a with h | h
  · exact Int.mul_nonneg h h
  · exact Int.mul_nonneg_of_nonpos_of_nonpos h h
/-- Between two numbers: the product of the ways to them is not positive. -/
theorem between (x a b : Int) : inI x (min a b) (max a b) = decide ((a - x) * (b - x) ≤ 0) := by
  rw [Bool.eq_iff_iff]
  simp only [inI, Bool.and_eq_true, decide_eq_true_eq]
  constructor
  · rintro ⟨h1, h2⟩
    rcases Int.lt_trichotomy a x with h | h | h
    · exact Int.mul_nonpos_of_nonpos_of_nonneg (by omega) (by omega)
    · rw [h, Int.sub_self, Int.zero_mul]; omega
    · exact Int.mul_nonpos_of_nonneg_of_nonpos (by omega) (by omega)
  · intro h
    by_cases ha : a < x
    · by_cases hb : b < x
      · have := Int.mul_pos_of_neg_of_neg (show a - x < 0 by omega) (show b - x < 0 by omega); omega
      · omega
    · by_cases hb : x < a
      · by_cases hc : x < b
        · have := Int.mul_pos (show 0 < a - x by omega) (show 0 < b - x by omega); omega
        · omega
      · omega
theorem on_eq (xa ya xb yb xp yp : Int) : onB xa ya xb yb xp yp = (decide (sdI xa ya xb yb xp yp = 0) && decide ((xa - xp) * (xb - xp) + (ya - yp) * (yb - yp) ≤ 0)) := by
  unfold onB
  rw [between, between, Bool.eq_iff_iff]
  simp only [Bool.and_eq_true, decide_eq_true_eq, sdI, sg_zero, and_assoc]
  constructor
  · rintro ⟨h0, h1, h2⟩; exact ⟨h0, by omega⟩
  · rintro ⟨h0, h1⟩
    have hc : ((xa - xp) * (xb - xp)) * ((ya - yp) * (yb - yp)) = ((xa - xp) * (yb - yp)) * ((xa - xp) * (yb - yp)) := by
      unfold crI at h0; grind
    have hs := sq_nonneg ((xa - xp) * (yb - yp))
    rw [← hc] at hs
    generalize (xa - xp) * (xb - xp) = u at *
    generalize (ya - yp) * (yb - yp) = v at *
    refine ⟨h0, ?_, ?_⟩
    · rcases Int.lt_or_le 0 u with h | h
      · have := Int.mul_neg_of_pos_of_neg h (show v < 0 by omega); omega
      · exact h
    · rcases Int.lt_or_le 0 v with h | h
      · have := Int.mul_neg_of_neg_of_pos (show u < 0 by omega) h; omega
      · exact h

def csB (xa ya xb yb xc yc xd yd : Int) : Bool := decide (sdI xa ya xb yb xc yc * sdI xa ya xb yb xd yd < 0) && decide (sdI xc yc xd yd xa ya * sdI xc yc xd yd xb yb < 0)
def tcB (xa ya xb yb xc yc xd yd : Int) : Bool := csB xa ya xb yb xc yc xd yd || onB xa ya xb yb xc yc || onB xa ya xb yb xd yd || onB xc yc xd yd xa ya || onB xc yc xd yd xb yb
def sqI (xa ya xb yb : Int) : Int := (xa - xb) * (xa - xb) + (ya - yb) * (ya - yb)
def alI (xa ya xb yb xp yp : Int) : Int := (xb - xa) * (xp - xa) + (yb - ya) * (yp - ya)
def farI (xa ya xb yb xp yp : Int) : Int := if alI xa ya xb yb xp yp ≤ 0 then rootI (sqI xa ya xp yp) else if sqI xa ya xb yb ≤ alI xa ya xb yb xp yp then rootI (sqI xb yb xp yp)
  else rootI (crI xa ya xb yb xp yp * crI xa ya xb yb xp yp / sqI xa ya xb yb)
def gapI (xa ya xb yb xc yc xd yd : Int) : Int := if tcB xa ya xb yb xc yc xd yd then 0 else min (min (farI xa ya xb yb xc yc) (farI xa ya xb yb xd yd)) (min (farI xc yc xd yd xa ya) (farI xc yc xd yd xb yb))

theorem sd_swap (xa ya xb yb xc yc : Int) : sdI xb yb xa ya xc yc = - sdI xa ya xb yb xc yc := by
  unfold sdI
  rw [← sg_neg]
  congr 1
  unfold crI
  grind
theorem on_swap (xa ya xb yb xp yp : Int) : onB xb yb xa ya xp yp = onB xa ya xb yb xp yp := by
  unfold onB
  rw [sd_swap, Int.min_comm xb, Int.max_comm xb, Int.min_comm yb, Int.max_comm yb]
  congr 2
  rw [decide_eq_decide]
  omega
theorem cs_swap (xa ya xb yb xc yc xd yd : Int) : csB xd yd xc yc xa ya xb yb = csB xa ya xb yb xc yc xd yd := by
  unfold csB
  rw [sd_swap xc yc xd yd xa ya, sd_swap xc yc xd yd xb yb, Int.neg_mul_neg, Bool.and_comm, Int.mul_comm (sdI xa ya xb yb xd yd)]
theorem cs_swap2 (xa ya xb yb xc yc xd yd : Int) : csB xc yc xd yd xb yb xa ya = csB xa ya xb yb xc yc xd yd := by
  unfold csB
  rw [sd_swap xa ya xb yb xc yc, sd_swap xa ya xb yb xd yd, Int.neg_mul_neg, Bool.and_comm, Int.mul_comm (sdI xc yc xd yd xb yb)]
theorem tc_swap (xa ya xb yb xc yc xd yd : Int) : tcB xd yd xc yc xb yb xa ya = tcB xa ya xb yb xc yc xd yd := by
  unfold tcB
  rw [show csB xd yd xc yc xb yb xa ya = csB xa ya xb yb xc yc xd yd by unfold csB; rw [sd_swap xc yc xd yd xa ya, sd_swap xc yc xd yd xb yb, sd_swap xa ya xb yb xc yc, sd_swap xa ya xb yb xd yd, Int.neg_mul_neg, Int.neg_mul_neg, Bool.and_comm, Int.mul_comm (sdI xa ya xb yb xd yd), Int.mul_comm (sdI xc yc xd yd xb yb)], on_swap xc yc xd yd xb yb, on_swap xc yc xd yd xa ya, on_swap xa ya xb yb xd yd, on_swap xa ya xb yb xc yc]
  cases csB xa ya xb yb xc yc xd yd <;> cases onB xa ya xb yb xc yc <;> cases onB xa ya xb yb xd yd <;> cases onB xc yc xd yd xa ya <;> cases onB xc yc xd yd xb yb <;> rfl
theorem tc_swap2 (xa ya xb yb xc yc xd yd : Int) : tcB xc yc xd yd xb yb xa ya = tcB xa ya xb yb xc yc xd yd := by
  unfold tcB
  rw [cs_swap2, on_swap xa ya xb yb xd yd, on_swap xa ya xb yb xc yc]
  cases csB xa ya xb yb xc yc xd yd <;> cases onB xa ya xb yb xc yc <;> cases onB xa ya xb yb xd yd <;> cases onB xc yc xd yd xa ya <;> cases onB xc yc xd yd xb yb <;> rfl
theorem sq_swap (xa ya xb yb : Int) : sqI xb yb xa ya = sqI xa ya xb yb := by unfold sqI; grind
theorem al_swap (xa ya xb yb xp yp : Int) : alI xb yb xa ya xp yp = sqI xa ya xb yb - alI xa ya xb yb xp yp := by unfold alI sqI; grind
theorem cr_swap (xa ya xb yb xp yp : Int) : crI xb yb xa ya xp yp = - crI xa ya xb yb xp yp := by unfold crI; grind
theorem sq_zero (xa ya xb yb : Int) (h : sqI xa ya xb yb = 0) : xa = xb ∧ ya = yb := by
  unfold sqI at h
  have h1 := sq_nonneg (xa - xb)
  have h2 := sq_nonneg (ya - yb)
  have h3 : (xa - xb) * (xa - xb) = 0 := by omega
  have h4 : (ya - yb) * (ya - yb) = 0 := by omega
  rcases Int.mul_eq_zero.1 h3 with h5 | h5 <;> rcases Int.mul_eq_zero.1 h4 with h6 | h6 <;> omega
theorem far_swap (xa ya xb yb xp yp : Int) : farI xb yb xa ya xp yp = farI xa ya xb yb xp yp := by
  unfold farI
  rw [al_swap, sq_swap xa ya xb yb, cr_swap, Int.neg_mul_neg]
  by_cases h1 : alI xa ya xb yb xp yp ≤ 0
  · by_cases h2 : sqI xa ya xb yb ≤ alI xa ya xb yb xp yp
    · have h3 : 0 ≤ sqI xa ya xb yb := by unfold sqI; have := sq_nonneg (xa - xb); have := sq_nonneg (ya - yb); omega
      obtain ⟨rfl, rfl⟩ := sq_zero xa ya xb yb (by omega)
      rw [if_pos (by omega), if_pos h1]
    · rw [if_neg (by omega), if_pos (by omega), if_pos h1]
  · by_cases h2 : sqI xa ya xb yb ≤ alI xa ya xb yb xp yp
    · rw [if_pos (by omega), if_neg h1, if_pos h2]
    · rw [if_neg (by omega), if_neg (by omega), if_neg h1, if_neg h2]
theorem gap_swap (xa ya xb yb xc yc xd yd : Int) : gapI xc yc xd yd xb yb xa ya = gapI xa ya xb yb xc yc xd yd := by
  unfold gapI
  rw [tc_swap2, far_swap xa ya xb yb xc yc, far_swap xa ya xb yb xd yd]
  split
  · rfl
  · omega
theorem on_far (xa ya xb yb xp yp : Int) (h : onB xa ya xb yb xp yp = true) : farI xa ya xb yb xp yp = 0 := by
  have r0 : rootI 0 = 0 := rfl
  have hz : ∀ x y : Int, sqI x y x y = 0 := fun x y => by unfold sqI; simp
  unfold onB at h
  rw [between, between] at h
  simp only [Bool.and_eq_true, decide_eq_true_eq, sdI, sg_zero] at h
  obtain ⟨⟨h0, h1⟩, h2⟩ := h
  have hx := sq_nonneg (xa - xp)
  have hy := sq_nonneg (ya - yp)
  have kx := sq_nonneg (xb - xp)
  have ky := sq_nonneg (yb - yp)
  unfold farI
  split
  · rename_i h
    have : sqI xa ya xp yp = 0 := by
      unfold alI at h; unfold sqI
      have e : (xb - xa) * (xp - xa) + (yb - ya) * (yp - ya) = (xa - xp) * (xa - xp) + (ya - yp) * (ya - yp) - ((xa - xp) * (xb - xp) + (ya - yp) * (yb - yp)) := by grind
      omega
    rw [this]; rfl
  · split
    · rename_i h
      have : sqI xb yb xp yp = 0 := by
        unfold alI at h; unfold sqI at *
        have e : (xa - xb) * (xa - xb) + (ya - yb) * (ya - yb) - ((xb - xa) * (xp - xa) + (yb - ya) * (yp - ya)) = (xb - xp) * (xb - xp) + (yb - yp) * (yb - yp) - ((xa - xp) * (xb - xp) + (ya - yp) * (yb - yp)) := by grind
        omega
      rw [this]; rfl
    · rw [h0]; simp [r0]
/-- The integer nearest to n / d, the greater one of two. -/
def qhI (n d : Int) : Int := if d < 0 then (2 * (-n) + (-d)) / (2 * (-d)) else (2 * n + d) / (2 * d)
def rrI (xa ya xb yb xc yc xd yd : Int) : Int := (xb - xa) * (yd - yc) - (yb - ya) * (xd - xc)
def ttI (xa ya xc yc xd yd : Int) : Int := (xc - xa) * (yd - yc) - (yc - ya) * (xd - xc)
def uuI (xa ya xb yb xc yc : Int) : Int := (xc - xa) * (yb - ya) - (yc - ya) * (xb - xa)
def cpX (xa ya xb yb xc yc xd yd : Int) : Int := xa + qhI ((xb - xa) * ttI xa ya xc yc xd yd) (rrI xa ya xb yb xc yc xd yd)
def cpY (xa ya xb yb xc yc xd yd : Int) : Int := ya + qhI ((yb - ya) * ttI xa ya xc yc xd yd) (rrI xa ya xb yb xc yc xd yd)

theorem sg_mul (x y : Int) (h : sgI x * sgI y < 0) : (0 < x ∧ y < 0) ∨ (x < 0 ∧ 0 < y) := by
  unfold sgI at h
  by_cases h1 : 0 < x <;> by_cases h2 : 0 < y <;> by_cases h3 : x < 0 <;> by_cases h4 : y < 0 <;> simp [h1, h2, h3, h4] at h <;> omega
theorem abs_sq (x : Int) : x ≤ x * x ∧ -x ≤ x * x := by
  rcases Int.lt_trichotomy x 0 with h | h | h
  · have := Int.mul_nonneg_of_nonpos_of_nonpos (show x ≤ 0 by omega) (show x + 1 ≤ 0 by omega)
    rw [Int.mul_add] at this
    omega
  · subst h; simp
  · have := Int.mul_nonneg (show 0 ≤ x by omega) (show 0 ≤ x - 1 by omega)
    rw [Int.mul_sub] at this
    omega
/-- A rest of at most R, times x, is at most R times the size of x. -/
theorem ex_le (R e x : Int) (h1 : -R ≤ e) (h2 : e ≤ R) : e * x ≤ R * x ∨ e * x ≤ R * (-x) := by
  rcases Int.le_total 0 x with h | h
  · exact Or.inl (Int.mul_le_mul_of_nonneg_right h2 h)
  · right
    have := Int.mul_le_mul_of_nonneg_right (show -e ≤ R by omega) (show 0 ≤ -x by omega)
    rw [Int.neg_mul_neg] at this
    exact this
theorem ways_zero (R wx wy ex ey : Int) (hR : 0 < R) (e1 : -R ≤ ex) (e2 : ex ≤ R) (e3 : -R ≤ ey) (e4 : ey ≤ R) (h : 2 * R * (wx * wx + wy * wy) ≤ ex * wx + ey * wy) : wx * wx + wy * wy = 0 := by
  have hx := ex_le R ex wx e1 e2
  have hy := ex_le R ey wy e3 e4
  have ax := abs_sq wx
  have ay := abs_sq wy
  have sx := sq_nonneg wx
  have sy := sq_nonneg wy
  have bx : R * wx ≤ R * (wx * wx) := Int.mul_le_mul_of_nonneg_left ax.1 (by omega)
  have cx : R * (-wx) ≤ R * (wx * wx) := Int.mul_le_mul_of_nonneg_left ax.2 (by omega)
  have by_ : R * wy ≤ R * (wy * wy) := Int.mul_le_mul_of_nonneg_left ay.1 (by omega)
  have cy : R * (-wy) ≤ R * (wy * wy) := Int.mul_le_mul_of_nonneg_left ay.2 (by omega)
  have e : 2 * R * (wx * wx + wy * wy) = 2 * (R * (wx * wx)) + 2 * (R * (wy * wy)) := by grind
  have px : 0 ≤ R * (wx * wx) := Int.mul_nonneg (by omega) sx
  have py : 0 ≤ R * (wy * wy) := Int.mul_nonneg (by omega) sy
  have q : R * (wx * wx) + R * (wy * wy) = 0 := by omega
  rw [← Int.mul_add] at q
  rcases Int.mul_eq_zero.1 q with h | h
  · omega
  · exact h
theorem height_lt (R sx sy ex ey h : Int) (hR : 0 < R) (e1 : -R ≤ ex) (e2 : ex ≤ R) (e3 : -R ≤ ey) (e4 : ey ≤ R) (hh : 2 * R * h = sx * ey - sy * ex) (hL : 0 < sx * sx + sy * sy) : h * h < sx * sx + sy * sy := by
  -- 2 |h| is at most |sx| + |sy|
  have k : ∀ a b : Int, (2 * h ≤ a + b ∧ -(a + b) ≤ 2 * h) → a * a = sx * sx → b * b = sy * sy → h * h < sx * sx + sy * sy := by
    intro a b ⟨h1, h2⟩ ha hb
    have m := Int.mul_nonneg (show 0 ≤ a + b - 2 * h by omega) (show 0 ≤ a + b + 2 * h by omega)
    have n := sq_nonneg (a - b)
    have e5 : (a + b - 2 * h) * (a + b + 2 * h) = a * a + b * b + 2 * (a * b) - 4 * (h * h) := by grind
    have e6 : (a - b) * (a - b) = a * a + b * b - 2 * (a * b) := by grind
    have := sq_nonneg h
    omega
  have lin : ∀ a b : Int, 2 * R * h ≤ R * (a + b) → -(R * (a + b)) ≤ 2 * R * h → (2 * h ≤ a + b ∧ -(a + b) ≤ 2 * h) := by
    intro a b h1 h2
    constructor
    · refine Int.le_of_mul_le_mul_left (a := R) ?_ hR
      rw [← Int.mul_assoc, Int.mul_comm R 2]; exact h1
    · refine Int.le_of_mul_le_mul_left (a := R) ?_ hR
      rw [← Int.mul_assoc, Int.mul_comm R 2, Int.mul_neg]; exact h2
  have up : ∀ s e : Int, -R ≤ e → e ≤ R → ∀ a, (a = s ∨ a = -s) → 0 ≤ a → s * e ≤ R * a ∧ -(R * a) ≤ s * e := by
    intro s e g1 g2 a ha h0
    have p1 := Int.mul_le_mul_of_nonneg_right g2 h0
    have p2 := Int.mul_le_mul_of_nonneg_right g1 h0
    rcases ha with rfl | rfl
    · rw [Int.mul_comm a e]; rw [Int.neg_mul] at p2; exact ⟨p1, p2⟩
    · rw [Int.neg_mul] at p2
      have e7 : e * -s = -(s * e) := by grind
      rw [e7] at p1 p2
      constructor <;> omega
  obtain ⟨a, ha, ha0⟩ : ∃ a : Int, (a = sx ∨ a = -sx) ∧ 0 ≤ a := by
    rcases Int.le_total 0 sx with h | h
    · exact ⟨sx, Or.inl rfl, h⟩
    · exact ⟨-sx, Or.inr rfl, by omega⟩
  obtain ⟨b, hb, hb0⟩ : ∃ b : Int, (b = sy ∨ b = -sy) ∧ 0 ≤ b := by
    rcases Int.le_total 0 sy with h | h
    · exact ⟨sy, Or.inl rfl, h⟩
    · exact ⟨-sy, Or.inr rfl, by omega⟩
  have u1 := up sx ey e3 e4 a ha ha0
  have u2 := up sy ex e1 e2 b hb hb0
  refine k a b (lin a b ?_ ?_) ?_ ?_
  · rw [hh, Int.mul_add]; omega
  · rw [hh, Int.mul_add]; omega
  · rcases ha with rfl | rfl
    · rfl
    · rw [Int.neg_mul_neg]
  · rcases hb with rfl | rfl
    · rfl
    · rw [Int.neg_mul_neg]
theorem near_far (xa ya xb yb xp yp R T ex ey : Int) (hR : 0 < R) (hT0 : 0 ≤ T) (hT1 : T ≤ R) (e1 : -R ≤ ex) (e2 : ex ≤ R) (e3 : -R ≤ ey) (e4 : ey ≤ R)
    (hx : 2 * R * (xp - xa) = 2 * T * (xb - xa) + ex) (hy : 2 * R * (yp - ya) = 2 * T * (yb - ya) + ey) : farI xa ya xb yb xp yp = 0 := by
  have r0 : rootI 0 = 0 := rfl
  unfold farI
  split
  · rename_i h
    have q : (xp - xa) * (xp - xa) + (yp - ya) * (yp - ya) = 0 := by
      refine ways_zero R _ _ ex ey hR e1 e2 e3 e4 ?_
      have m := Int.mul_nonneg hT0 (show 0 ≤ -(alI xa ya xb yb xp yp) by omega)
      have e : 2 * R * ((xp - xa) * (xp - xa) + (yp - ya) * (yp - ya)) = ex * (xp - xa) + ey * (yp - ya) - 2 * (T * -(alI xa ya xb yb xp yp)) := by
        unfold alI; grind
      omega
    have : sqI xa ya xp yp = 0 := by rw [← sq_swap]; exact q
    rw [this, r0]
  · split
    · rename_i h
      have q : (xp - xb) * (xp - xb) + (yp - yb) * (yp - yb) = 0 := by
        refine ways_zero R _ _ ex ey hR e1 e2 e3 e4 ?_
        have m := Int.mul_nonneg (show 0 ≤ R - T by omega) (show 0 ≤ alI xa ya xb yb xp yp - sqI xa ya xb yb by omega)
        have e : 2 * R * ((xp - xb) * (xp - xb) + (yp - yb) * (yp - yb)) = ex * (xp - xb) + ey * (yp - yb) - 2 * ((R - T) * (alI xa ya xb yb xp yp - sqI xa ya xb yb)) := by
          unfold alI sqI; grind
        omega
      have : sqI xb yb xp yp = 0 := by rw [← sq_swap]; exact q
      rw [this, r0]
    · rename_i h1 h2
      have hl : sqI xa ya xb yb = (xb - xa) * (xb - xa) + (yb - ya) * (yb - ya) := by unfold sqI; grind
      have hL : 0 < (xb - xa) * (xb - xa) + (yb - ya) * (yb - ya) := by omega
      have hc : 2 * R * crI xa ya xb yb xp yp = (xb - xa) * ey - (yb - ya) * ex := by unfold crI; grind
      have := height_lt R (xb - xa) (yb - ya) ex ey _ hR e1 e2 e3 e4 hc hL
      rw [Int.ediv_eq_zero_of_lt (sq_nonneg _) (by omega), r0]
theorem qh_rest (n d : Int) (h : 0 < d) : ∃ e, 2 * d * ((2 * n + d) / (2 * d)) = 2 * n + e ∧ -d ≤ e ∧ e ≤ d := by
  have h1 := Int.mul_ediv_add_emod (2 * n + d) (2 * d)
  have h2 := Int.emod_nonneg (2 * n + d) (show 2 * d ≠ 0 by omega)
  have h3 := Int.emod_lt_of_pos (2 * n + d) (show 0 < 2 * d by omega)
  exact ⟨d - (2 * n + d) % (2 * d), by omega, by omega, by omega⟩
theorem cross_near (xa ya xb yb xc yc xd yd : Int) (h : csB xa ya xb yb xc yc xd yd = true) :
    farI xa ya xb yb (cpX xa ya xb yb xc yc xd yd) (cpY xa ya xb yb xc yc xd yd) = 0 ∧ farI xc yc xd yd (cpX xa ya xb yb xc yc xd yd) (cpY xa ya xb yb xc yc xd yd) = 0 := by
  unfold csB at h
  rw [Bool.and_eq_true] at h
  have h1 := sg_mul _ _ (of_decide_eq_true h.1)
  have h2 := sg_mul _ _ (of_decide_eq_true h.2)
  rw [show crI xa ya xb yb xc yc = -(uuI xa ya xb yb xc yc) by unfold crI uuI; grind, show crI xa ya xb yb xd yd = rrI xa ya xb yb xc yc xd yd - uuI xa ya xb yb xc yc by unfold crI uuI rrI; grind] at h1
  rw [show crI xc yc xd yd xa ya = ttI xa ya xc yc xd yd by unfold crI ttI; grind, show crI xc yc xd yd xb yb = ttI xa ya xc yc xd yd - rrI xa ya xb yb xc yc xd yd by unfold crI ttI rrI; grind] at h2
  have ix : (xb - xa) * ttI xa ya xc yc xd yd - rrI xa ya xb yb xc yc xd yd * (xc - xa) = (xd - xc) * uuI xa ya xb yb xc yc := by unfold ttI rrI uuI; grind
  have iy : (yb - ya) * ttI xa ya xc yc xd yd - rrI xa ya xb yb xc yc xd yd * (yc - ya) = (yd - yc) * uuI xa ya xb yb xc yc := by unfold ttI rrI uuI; grind
  unfold cpX cpY
  generalize ttI xa ya xc yc xd yd = t at *
  generalize rrI xa ya xb yb xc yc xd yd = r at *
  generalize uuI xa ya xb yb xc yc = u at *
  unfold qhI
  by_cases hr : r < 0
  · rw [if_pos hr, if_pos hr]
    obtain ⟨ex, hx, e1, e2⟩ := qh_rest (-((xb - xa) * t)) (-r) (by omega)
    obtain ⟨ey, hy, e3, e4⟩ := qh_rest (-((yb - ya) * t)) (-r) (by omega)
    generalize (2 * -((xb - xa) * t) + -r) / (2 * -r) = qx at *
    generalize (2 * -((yb - ya) * t) + -r) / (2 * -r) = qy at *
    constructor
    · refine near_far _ _ _ _ _ _ (-r) (-t) ex ey (by omega) (by omega) (by omega) e1 e2 e3 e4 ?_ ?_ <;> grind
    · refine near_far _ _ _ _ _ _ (-r) (-u) ex ey (by omega) (by omega) (by omega) e1 e2 e3 e4 ?_ ?_ <;> grind
  · rw [if_neg hr, if_neg hr]
    obtain ⟨ex, hx, e1, e2⟩ := qh_rest ((xb - xa) * t) r (by omega)
    obtain ⟨ey, hy, e3, e4⟩ := qh_rest ((yb - ya) * t) r (by omega)
    generalize (2 * ((xb - xa) * t) + r) / (2 * r) = qx at *
    generalize (2 * ((yb - ya) * t) + r) / (2 * r) = qy at *
    constructor
    · refine near_far _ _ _ _ _ _ r t ex ey (by omega) (by omega) (by omega) e1 e2 e3 e4 ?_ ?_ <;> grind
    · refine near_far _ _ _ _ _ _ r u ex ey (by omega) (by omega) (by omega) e1 e2 e3 e4 ?_ ?_ <;> grind
theorem side_rng (xa ya xb yb xp yp : Int) : -1 ≤ sdI xa ya xb yb xp yp ∧ sdI xa ya xb yb xp yp ≤ 1 := by
  unfold sdI sgI; split <;> (try split) <;> omega
end Go.Proofs.Ytcbbhpabiijpoaa
