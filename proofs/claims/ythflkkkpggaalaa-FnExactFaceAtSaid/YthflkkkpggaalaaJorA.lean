/- How often a closed way in the plane goes around a point: passings of a ray, points that see a corner. -/
import Derived.Test.YthflkkkpggaalaaK1
namespace Go.Proofs.Ythflkkkpggaalaa.J
set_option linter.unusedVariables false
set_option linter.unusedSimpArgs false

/-- Twice the area of three points, positive to the left. -/
def cx (a b c : P2) : Int := crI a.1 a.2 b.1 b.2 c.1 c.2
theorem cx_rot (a b c : P2) : cx b c a = cx a b c := by unfold cx crI; grind
theorem cx_swap (a b c : P2) : cx b a c = - cx a b c := by unfold cx crI; grind
theorem cx_swap2 (a b c : P2) : cx a c b = - cx a b c := by unfold cx crI; grind
theorem pos_mul {x y : Int} (h : 0 < x * y) : (0 < x ∧ 0 < y) ∨ (x < 0 ∧ y < 0) := by
  rcases Int.lt_trichotomy x 0 with h1 | h1 | h1 <;> rcases Int.lt_trichotomy y 0 with h2 | h2 | h2
  · exact Or.inr ⟨h1, h2⟩
  · subst h2; simp at h
  · have := Int.mul_neg_of_neg_of_pos h1 h2; omega
  · subst h1; simp at h
  · subst h1; simp at h
  · subst h1; simp at h
  · have := Int.mul_neg_of_pos_of_neg h1 h2; omega
  · subst h2; simp at h
  · exact Or.inl ⟨h1, h2⟩
theorem neg_mul' {x y : Int} (h : x * y < 0) : (0 < x ∧ y < 0) ∨ (x < 0 ∧ 0 < y) := by
  have := pos_mul (x := -x) (y := y) (by rw [Int.neg_mul]; omega)
  omega
theorem mul_pp {x y : Int} (h : 0 < x) (k : 0 < y) : 0 < x * y := Int.mul_pos h k
theorem mul_pn {x y : Int} (h : 0 < x) (k : y < 0) : x * y < 0 := Int.mul_neg_of_pos_of_neg h k
theorem mul_np {x y : Int} (h : x < 0) (k : 0 < y) : x * y < 0 := Int.mul_neg_of_neg_of_pos h k
theorem mul_nn {x y : Int} (h : x < 0) (k : y < 0) : 0 < x * y := Int.mul_pos_of_neg_of_neg h k
theorem mul_p0 {x y : Int} (h : 0 ≤ x) (k : 0 ≤ y) : 0 ≤ x * y := Int.mul_nonneg h k
theorem mul_n0 {x y : Int} (h : x ≤ 0) (k : 0 ≤ y) : x * y ≤ 0 := Int.mul_nonpos_of_nonpos_of_nonneg h k
theorem mul_0n {x y : Int} (h : 0 ≤ x) (k : y ≤ 0) : x * y ≤ 0 := Int.mul_nonpos_of_nonneg_of_nonpos h k
theorem mul_00 {x y : Int} (h : x ≤ 0) (k : y ≤ 0) : 0 ≤ x * y := Int.mul_nonneg_of_nonpos_of_nonpos h k
theorem on_iff (a b p : P2) : onP a b p = true ↔ cx a b p = 0 ∧ min a.1 b.1 ≤ p.1 ∧ p.1 ≤ max a.1 b.1 ∧ min a.2 b.2 ≤ p.2 ∧ p.2 ≤ max a.2 b.2 := by
  unfold onP onB inI sdI cx
  simp only [Bool.and_eq_true, decide_eq_true_eq, sg_zero]
  omega
/-- The four products of two segments: a c, a d seen from the first one, and from the second one. -/
theorem cx_four (a b c d : P2) : cx c d a - cx c d b = cx a b d - cx a b c := by unfold cx crI; grind
theorem cx_fourY (a b c d : P2) : cx c d a * b.2 - cx c d b * a.2 = cx a b d * c.2 - cx a b c * d.2 := by unfold cx crI; grind
theorem cx_fourX (a b c d : P2) : cx c d a * b.1 - cx c d b * a.1 = cx a b d * c.1 - cx a b c * d.1 := by unfold cx crI; grind
theorem between_of {t u r x y z : Int} (h1 : 0 ≤ t) (h2 : u ≤ 0) (h3 : t - u ≠ 0) (h : t * y - u * x = (t - u) * z) : min x y ≤ z ∧ z ≤ max x y := by
  have hr : 0 < t - u := by omega
  rcases Int.le_total x y with hxy | hxy
  · have m1 := mul_p0 h1 (show 0 ≤ y - x by omega)
    have m2 := mul_p0 (show 0 ≤ -u by omega) (show 0 ≤ y - x by omega)
    have e1 : (t - u) * (z - x) = t * (y - x) := by grind
    have e2 : (t - u) * (y - z) = -u * (y - x) := by grind
    constructor
    · rcases Int.lt_or_le z x with hz | hz
      · have := mul_pn hr (show z - x < 0 by omega); omega
      · omega
    · rcases Int.lt_or_le y z with hz | hz
      · have := mul_pn hr (show y - z < 0 by omega); omega
      · omega
  · have m1 := mul_p0 h1 (show 0 ≤ x - y by omega)
    have m2 := mul_p0 (show 0 ≤ -u by omega) (show 0 ≤ x - y by omega)
    have e1 : (t - u) * (x - z) = t * (x - y) := by grind
    have e2 : (t - u) * (z - y) = -u * (x - y) := by grind
    constructor
    · rcases Int.lt_or_le z y with hz | hz
      · have := mul_pn hr (show z - y < 0 by omega); omega
      · omega
    · rcases Int.lt_or_le x z with hz | hz
      · have := mul_pn hr (show x - z < 0 by omega); omega
      · omega
/-- A point on the line of a segment whose ends another line through it separates lies on the segment. -/
theorem on_of {a b c d : P2} (h0 : cx a b c = 0) (hd : cx a b d ≠ 0) (h1 : cx c d a * cx c d b ≤ 0) : onP a b c = true := by
  have e := cx_four a b c d
  have ey := cx_fourY a b c d
  have ex := cx_fourX a b c d
  rw [h0] at e ey ex
  rw [on_iff]
  generalize cx c d a = t at *
  generalize cx c d b = u at *
  generalize cx a b d = r at *
  rcases Int.lt_or_le 0 r with hr | hr
  · have ht : 0 ≤ t ∧ u ≤ 0 := by
      rcases Int.lt_or_le t 0 with h | h
      · have := mul_nn h (show u < 0 by omega); omega
      · rcases Int.lt_or_le 0 u with h' | h'
        · have := mul_pp (show 0 < t by omega) h'; omega
        · exact ⟨h, h'⟩
    have hx := between_of (r := 0) ht.1 ht.2 (by omega) (show t * b.1 - u * a.1 = (t - u) * c.1 by rw [ex, e]; grind)
    have hy := between_of (r := 0) ht.1 ht.2 (by omega) (show t * b.2 - u * a.2 = (t - u) * c.2 by rw [ey, e]; grind)
    exact ⟨h0, hx.1, hx.2, hy.1, hy.2⟩
  · have ht : 0 ≤ u ∧ t ≤ 0 := by
      rcases Int.lt_or_le u 0 with h | h
      · have := mul_nn (show t < 0 by omega) h; omega
      · rcases Int.lt_or_le 0 t with h' | h'
        · have := mul_pp h' (show 0 < u by omega); omega
        · exact ⟨h, h'⟩
    have hx := between_of (r := 0) ht.1 ht.2 (by omega) (show u * a.1 - t * b.1 = (u - t) * c.1 by grind)
    have hy := between_of (r := 0) ht.1 ht.2 (by omega) (show u * a.2 - t * b.2 = (u - t) * c.2 by grind)
    refine ⟨h0, ?_, ?_, ?_, ?_⟩ <;> omega
theorem sg_prod {x y : Int} (h : x * y < 0) : sgI x * sgI y < 0 := by
  rcases neg_mul' h with ⟨h1, h2⟩ | ⟨h1, h2⟩
  · have a : sgI x = 1 := by unfold sgI; rw [if_pos h1]
    have b : sgI y = -1 := by unfold sgI; rw [if_neg (by omega), if_pos h2]
    rw [a, b]; decide
  · have a : sgI x = -1 := by unfold sgI; rw [if_neg (by omega), if_pos h1]
    have b : sgI y = 1 := by unfold sgI; rw [if_pos h2]
    rw [a, b]; decide
theorem cs_of {a b c d : P2} (h1 : cx a b c * cx a b d < 0) (h2 : cx c d a * cx c d b < 0) : csB a.1 a.2 b.1 b.2 c.1 c.2 d.1 d.2 = true := by
  unfold csB sdI
  rw [Bool.and_eq_true]
  exact ⟨decide_eq_true (sg_prod h1), decide_eq_true (sg_prod h2)⟩
theorem tc_iff (a b c d : P2) : tcP a b c d = true ↔ (cx a b c * cx a b d < 0 ∧ cx c d a * cx c d b < 0) ∨ onP a b c = true ∨ onP a b d = true ∨ onP c d a = true ∨ onP c d b = true := by
  constructor
  · intro h
    unfold tcP tcB at h
    simp only [Bool.or_eq_true] at h
    rcases h with (((h | h) | h) | h) | h
    · left
      unfold csB at h
      rw [Bool.and_eq_true, decide_eq_true_eq, decide_eq_true_eq] at h
      have h1 := sg_mul _ _ h.1
      have h2 := sg_mul _ _ h.2
      refine ⟨?_, ?_⟩
      · rcases h1 with h1 | h1
        · exact mul_pn h1.1 h1.2
        · exact mul_np h1.1 h1.2
      · rcases h2 with h2 | h2
        · exact mul_pn h2.1 h2.2
        · exact mul_np h2.1 h2.2
    · exact Or.inr (Or.inl h)
    · exact Or.inr (Or.inr (Or.inl h))
    · exact Or.inr (Or.inr (Or.inr (Or.inl h)))
    · exact Or.inr (Or.inr (Or.inr (Or.inr h)))
  · intro h
    unfold tcP tcB
    simp only [Bool.or_eq_true]
    rcases h with ⟨h1, h2⟩ | h | h | h | h
    · exact Or.inl (Or.inl (Or.inl (Or.inl (cs_of h1 h2))))
    · exact Or.inl (Or.inl (Or.inl (Or.inr h)))
    · exact Or.inl (Or.inl (Or.inr h))
    · exact Or.inl (Or.inr h)
    · exact Or.inr h
theorem tc_symm (a b c d : P2) (h : tcP a b c d = true) : tcP c d a b = true := by
  rw [tc_iff] at *
  rcases h with ⟨h1, h2⟩ | h | h | h | h
  · exact Or.inl ⟨h2, h1⟩
  · exact Or.inr (Or.inr (Or.inr (Or.inl h)))
  · exact Or.inr (Or.inr (Or.inr (Or.inr h)))
  · exact Or.inr (Or.inl h)
  · exact Or.inr (Or.inr (Or.inl h))
theorem on_symm (a b p : P2) : onP b a p = onP a b p := by
  rw [Bool.eq_iff_iff, on_iff, on_iff, cx_swap]
  omega
theorem tc_symm1 (a b c d : P2) (h : tcP a b c d = true) : tcP b a c d = true := by
  rw [tc_iff] at *
  rw [on_symm a b c, on_symm a b d, cx_swap a b c, cx_swap a b d]
  rcases h with ⟨h1, h2⟩ | h | h | h | h
  · exact Or.inl ⟨by rw [Int.neg_mul_neg]; exact h1, by rw [Int.mul_comm]; exact h2⟩
  · exact Or.inr (Or.inl h)
  · exact Or.inr (Or.inr (Or.inl h))
  · exact Or.inr (Or.inr (Or.inr (Or.inr h)))
  · exact Or.inr (Or.inr (Or.inr (Or.inl h)))
theorem tc_symm2 (a b c d : P2) (h : tcP a b c d = true) : tcP a b d c = true := tc_symm _ _ _ _ (tc_symm1 _ _ _ _ (tc_symm _ _ _ _ h))
/-- Two segments meet if each one's line separates the ends of the other one, and not all four lie on a line. -/
theorem tc_of {a b c d : P2} (h1 : cx a b c * cx a b d ≤ 0) (h2 : cx c d a * cx c d b ≤ 0) (h3 : cx a b c ≠ 0 ∨ cx a b d ≠ 0 ∨ cx c d a ≠ 0 ∨ cx c d b ≠ 0) : tcP a b c d = true := by
  have e := cx_four a b c d
  rw [tc_iff]
  by_cases z1 : cx a b c = 0
  · by_cases z2 : cx a b d = 0
    · by_cases z3 : cx c d a = 0
      · omega
      · have := mul_p0 (x := cx c d a * cx c d a) (y := 1) (by
          rcases Int.le_total 0 (cx c d a) with h | h
          · exact mul_p0 h h
          · exact mul_00 h h) (by omega)
        have hq : cx c d b = cx c d a := by omega
        rw [hq] at h2
        have : cx c d a * cx c d a = 0 := by omega
        rcases Int.mul_eq_zero.1 this with h | h <;> exact absurd h z3
    · exact Or.inr (Or.inl (on_of z1 z2 h2))
  · by_cases z2 : cx a b d = 0
    · refine Or.inr (Or.inr (Or.inl (on_of (d := c) z2 z1 ?_)))
      rw [cx_swap c d a, cx_swap c d b, Int.neg_mul_neg]; exact h2
    · by_cases z3 : cx c d a = 0
      · by_cases z4 : cx c d b = 0
        · have hq : cx a b d = cx a b c := by omega
          rw [hq] at h1
          have : 0 < cx a b c * cx a b c := by
            rcases Int.lt_or_lt_of_ne z1 with h | h
            · exact mul_nn h h
            · exact mul_pp h h
          omega
        · exact Or.inr (Or.inr (Or.inr (Or.inl (on_of (c := a) (d := b) z3 z4 h1))))
      · by_cases z4 : cx c d b = 0
        · refine Or.inr (Or.inr (Or.inr (Or.inr (on_of (c := b) (d := a) z4 z3 ?_))))
          rw [cx_swap a b c, cx_swap a b d, Int.neg_mul_neg]; exact h1
        · left
          have ne : ∀ x y : Int, x ≠ 0 → y ≠ 0 → x * y ≠ 0 := fun x y hx hy h => by rcases Int.mul_eq_zero.1 h with h | h <;> contradiction
          have := ne _ _ z1 z2
          have := ne _ _ z3 z4
          omega
/-- Does an edge pass to the right of a point, at its height: upwards 1, downwards -1. -/
def cr1 (u v q : P2) : Int := if u.2 ≤ q.2 ∧ q.2 < v.2 ∧ 0 < cx u v q then 1 else if v.2 ≤ q.2 ∧ q.2 < u.2 ∧ cx u v q < 0 then -1 else 0
/-- Does a point lie to the right of a segment, between its heights. -/
def FF (a b x : P2) : Int := if a.2 < x.2 ∧ x.2 ≤ b.2 ∧ cx a b x < 0 then 1 else if b.2 < x.2 ∧ x.2 ≤ a.2 ∧ 0 < cx a b x then -1 else 0
theorem cr1_rev (u v q : P2) : cr1 v u q = - cr1 u v q := by
  unfold cr1
  rw [cx_swap u v q]
  repeat' split
  all_goals omega
theorem prod_neg {x d : Int} (h : x * d < 0) : (x < 0 ↔ 0 < d) ∧ (0 < x ↔ d < 0) := by
  have := neg_mul' h; omega
theorem prod_pos {x d : Int} (h : 0 < x * d) : (x < 0 ↔ d < 0) ∧ (0 < x ↔ 0 < d) := by
  have := pos_mul h; omega
theorem lin_pos {s t x y z : Int} (hs : 0 < s) (ht : 0 < t) (h1 : x < y) (h2 : y ≤ z) : 0 < s * (z - y) - t * (x - y) := by
  have := mul_p0 (show 0 ≤ s by omega) (show 0 ≤ z - y by omega)
  have := mul_pn ht (show x - y < 0 by omega)
  omega
theorem lin_neg {s t x y z : Int} (hs : 0 < s) (ht : 0 < t) (h1 : z < y) (h2 : y ≤ x) : s * (z - y) - t * (x - y) < 0 := by
  have := mul_p0 (show 0 ≤ t by omega) (show 0 ≤ x - y by omega)
  have := mul_pn hs (show z - y < 0 by omega)
  omega
theorem FF_rev (a b x : P2) : FF b a x = - FF a b x := by
  unfold FF
  rw [cx_swap a b x]
  repeat' split
  all_goals omega
theorem cr_segA {a b u v : P2} (p1 : 0 < cx u v a) (p2 : 0 < cx u v b) : cr1 u v a - cr1 u v b = FF a b v - FF a b u := by
  have e := cx_four a b u v
  have ey := cx_fourY a b u v
  unfold cr1 FF
  generalize cx u v a = A1 at *
  generalize cx u v b = A2 at *
  generalize cx a b u = B1 at *
  generalize cx a b v = B2 at *
  have eA : A1 * (b.2 - v.2) - A2 * (a.2 - v.2) = B2 * (u.2 - v.2) := by grind
  have eB : A1 * (b.2 - u.2) - A2 * (a.2 - u.2) = B1 * (u.2 - v.2) := by grind
  clear e ey
  generalize a.2 = ay at *
  generalize b.2 = b_ at *
  generalize u.2 = uy at *
  generalize v.2 = vy at *
  have k1 : ay < vy → vy ≤ b_ → (B2 < 0 ↔ uy < vy) ∧ (0 < B2 ↔ vy < uy) := fun h1 h2 => by
    have := lin_pos p1 p2 h1 h2; rw [eA] at this; have := prod_pos this; omega
  have k2 : b_ < vy → vy ≤ ay → (B2 < 0 ↔ vy < uy) ∧ (0 < B2 ↔ uy < vy) := fun h1 h2 => by
    have := lin_neg p1 p2 h1 h2; rw [eA] at this; have := prod_neg this; omega
  have k3 : ay < uy → uy ≤ b_ → (B1 < 0 ↔ uy < vy) ∧ (0 < B1 ↔ vy < uy) := fun h1 h2 => by
    have := lin_pos p1 p2 h1 h2; rw [eB] at this; have := prod_pos this; omega
  have k4 : b_ < uy → uy ≤ ay → (B1 < 0 ↔ vy < uy) ∧ (0 < B1 ↔ uy < vy) := fun h1 h2 => by
    have := lin_neg p1 p2 h1 h2; rw [eB] at this; have := prod_neg this; omega
  clear eA eB
  have q1 : ¬ A1 < 0 := by omega
  have q2 : ¬ A2 < 0 := by omega
  simp only [p1, p2, q1, q2, and_true, and_false, if_false]
  clear p1 p2 q1 q2
  repeat' split
  all_goals omega
theorem cr_segB {a b u v : P2} (p1 : 0 < cx a b u) (p2 : 0 < cx a b v) : cr1 u v a - cr1 u v b = FF a b v - FF a b u := by
  have e := cx_four a b u v
  have ey := cx_fourY a b u v
  unfold cr1 FF
  generalize cx u v a = A1 at *
  generalize cx u v b = A2 at *
  generalize cx a b u = B1 at *
  generalize cx a b v = B2 at *
  have eC : B2 * (u.2 - b.2) - B1 * (v.2 - b.2) = A2 * (b.2 - a.2) := by grind
  have eD : B2 * (u.2 - a.2) - B1 * (v.2 - a.2) = A1 * (b.2 - a.2) := by grind
  clear e ey
  generalize a.2 = ay at *
  generalize b.2 = b_ at *
  generalize u.2 = uy at *
  generalize v.2 = vy at *
  have k1 : uy ≤ ay → ay < vy → (A1 < 0 ↔ ay < b_) ∧ (0 < A1 ↔ b_ < ay) := fun h1 h2 => by
    have : B2 * (uy - ay) - B1 * (vy - ay) < 0 := by
      have := mul_0n (show 0 ≤ B2 by omega) (show uy - ay ≤ 0 by omega)
      have := mul_pp p1 (show 0 < vy - ay by omega)
      omega
    rw [eD] at this; have := prod_neg this; omega
  have k2 : vy ≤ ay → ay < uy → (A1 < 0 ↔ b_ < ay) ∧ (0 < A1 ↔ ay < b_) := fun h1 h2 => by
    have : 0 < B2 * (uy - ay) - B1 * (vy - ay) := by
      have := mul_pp p2 (show 0 < uy - ay by omega)
      have := mul_0n (show 0 ≤ B1 by omega) (show vy - ay ≤ 0 by omega)
      omega
    rw [eD] at this; have := prod_pos this; omega
  have k3 : uy ≤ b_ → b_ < vy → (A2 < 0 ↔ ay < b_) ∧ (0 < A2 ↔ b_ < ay) := fun h1 h2 => by
    have : B2 * (uy - b_) - B1 * (vy - b_) < 0 := by
      have := mul_0n (show 0 ≤ B2 by omega) (show uy - b_ ≤ 0 by omega)
      have := mul_pp p1 (show 0 < vy - b_ by omega)
      omega
    rw [eC] at this; have := prod_neg this; omega
  have k4 : vy ≤ b_ → b_ < uy → (A2 < 0 ↔ b_ < ay) ∧ (0 < A2 ↔ ay < b_) := fun h1 h2 => by
    have : 0 < B2 * (uy - b_) - B1 * (vy - b_) := by
      have := mul_pp p2 (show 0 < uy - b_ by omega)
      have := mul_0n (show 0 ≤ B1 by omega) (show vy - b_ ≤ 0 by omega)
      omega
    rw [eC] at this; have := prod_pos this; omega
  clear eC eD
  have q1 : ¬ B1 < 0 := by omega
  have q2 : ¬ B2 < 0 := by omega
  simp only [p1, p2, q1, q2, and_true, and_false, if_false]
  clear p1 p2 q1 q2
  repeat' split
  all_goals omega
/-- The passings of an edge at two points whose segment it does not meet. -/
theorem cr_seg {a b u v : P2} (h : tcP a b u v = false) : cr1 u v a - cr1 u v b = FF a b v - FF a b u := by
  have hn : (cx u v a = 0 ∧ cx u v b = 0 ∧ cx a b u = 0 ∧ cx a b v = 0) ∨ 0 < cx a b u * cx a b v ∨ 0 < cx u v a * cx u v b := by
    by_cases h1 : cx a b u * cx a b v ≤ 0
    · by_cases h2 : cx u v a * cx u v b ≤ 0
      · left
        by_cases h3 : cx a b u ≠ 0 ∨ cx a b v ≠ 0 ∨ cx u v a ≠ 0 ∨ cx u v b ≠ 0
        · rw [tc_of h1 h2 h3] at h; cases h
        · omega
      · exact Or.inr (Or.inr (by omega))
    · exact Or.inr (Or.inl (by omega))
  rcases hn with ⟨h1, h2, h3, h4⟩ | hn | hn
  · unfold cr1 FF
    rw [h1, h2, h3, h4]
    simp
  · rcases pos_mul hn with ⟨p1, p2⟩ | ⟨p1, p2⟩
    · exact cr_segB p1 p2
    · have := cr_segB (a := b) (b := a) (u := u) (v := v) (by rw [cx_swap]; omega) (by rw [cx_swap]; omega)
      rw [FF_rev a b u, FF_rev a b v] at this
      omega
  · rcases pos_mul hn with ⟨p1, p2⟩ | ⟨p1, p2⟩
    · exact cr_segA p1 p2
    · have := cr_segA (a := a) (b := b) (u := v) (v := u) (by rw [cx_swap]; omega) (by rw [cx_swap]; omega)
      rw [cr1_rev u v a, cr1_rev u v b] at this
      omega
def up (p x : P2) : Int := if p.2 < x.2 then 1 else 0
/-- Is the way to a point in the upper half, with the right and without the left. -/
def UU (p x : P2) : Prop := p.2 < x.2 ∨ (p.2 = x.2 ∧ p.1 < x.1)
instance (p x : P2) : Decidable (UU p x) := by unfold UU; exact inferInstance
/-- Does one way come behind another one, going around to the left from the left. -/
def tg (p x y : P2) : Prop := (UU p x ∧ ¬ UU p y) ∨ ((UU p x ↔ UU p y) ∧ 0 < cx p y x)
instance (p x y : P2) : Decidable (tg p x y) := by unfold tg; exact inferInstance
def tI (p x y : P2) : Int := if tg p x y then 1 else 0
def hh (a p b : P2) : Int := up p b - up p a + tI p a b
def ph (p d : P2) : Int := if p.2 < d.2 ∨ (p.2 = d.2 ∧ d.1 < p.1) then 1 else 0
/-- Two ways from a point that do not begin in the same direction. -/
def NS (p a d : P2) : Prop := onP p a d = false ∧ onP p d a = false
theorem NS.symm {p a d : P2} (h : NS p a d) : NS p d a := ⟨h.2, h.1⟩
theorem on_self (p d : P2) : onP p d p = true := by
  rw [on_iff]
  refine ⟨by unfold cx crI; grind, ?_, ?_, ?_, ?_⟩ <;> omega
theorem on_self2 (p d : P2) : onP p d d = true := by rw [← on_symm]; exact on_self _ _
theorem on_horiz {p a d : P2} (h1 : p.2 = a.2) (h2 : p.2 = d.2) (h3 : min p.1 a.1 ≤ d.1) (h4 : d.1 ≤ max p.1 a.1) : onP p a d = true := by
  rw [on_iff]
  refine ⟨?_, h3, h4, by omega, by omega⟩
  unfold cx crI
  rw [← h1, ← h2]
  grind
theorem on_slant {p a d : P2} (h0 : cx p d a = 0) (hn : p.2 ≠ a.2) (h1 : (p.2 - d.2) * (a.2 - d.2) ≤ 0) : onP p a d = true := by
  refine on_of (d := (d.1 + 1, d.2)) (by rw [cx_swap2, h0]; rfl) ?_ ?_
  · have : cx p a (d.1 + 1, d.2) = -(a.2 - p.2) - cx p d a := by unfold cx crI; grind
    omega
  · have e : ∀ x : P2, cx d (d.1 + 1, d.2) x = x.2 - d.2 := fun x => by unfold cx crI; grind
    rw [e, e]; exact h1
/-- What is known of two ways from a point, in numbers. -/
theorem NS.facts {p a d : P2} (h : NS p a d) : ∃ c, cx p d a = c ∧ cx a p d = c ∧ cx p a d = -c ∧
    (c = 0 → ¬(p.2 < a.2 ∧ p.2 < d.2) ∧ ¬(a.2 < p.2 ∧ d.2 < p.2) ∧ (p.2 = a.2 → ¬(p.1 < a.1 ∧ p.1 < d.1) ∧ ¬(a.1 < p.1 ∧ d.1 < p.1))) ∧
    (d.2 = p.2 → d.1 ≠ p.1 ∧ (p.1 < d.1 → (0 < c ↔ p.2 < a.2) ∧ (c < 0 ↔ a.2 < p.2)) ∧ (d.1 < p.1 → (0 < c ↔ a.2 < p.2) ∧ (c < 0 ↔ p.2 < a.2))) ∧
    (a.2 = p.2 → a.1 ≠ p.1 ∧ (p.1 < a.1 → (0 < c ↔ d.2 < p.2) ∧ (c < 0 ↔ p.2 < d.2)) ∧ (a.1 < p.1 → (0 < c ↔ p.2 < d.2) ∧ (c < 0 ↔ d.2 < p.2))) := by
  obtain ⟨ha, hd⟩ := h
  have na : ¬ (a.2 = p.2 ∧ a.1 = p.1) := fun ⟨h1, h2⟩ => by
    rw [show a = p from Prod.ext h2 h1, on_self] at hd; cases hd
  have nd : ¬ (d.2 = p.2 ∧ d.1 = p.1) := fun ⟨h1, h2⟩ => by
    rw [show d = p from Prod.ext h2 h1, on_self] at ha; cases ha
  have mono : ∀ s t : Int, (0 < s → (0 < s * t ↔ 0 < t) ∧ (s * t < 0 ↔ t < 0)) ∧ (s < 0 → (0 < s * t ↔ t < 0) ∧ (s * t < 0 ↔ 0 < t)) := fun s t => by
    refine ⟨fun hs => ?_, fun hs => ?_⟩
    · rcases Int.lt_trichotomy t 0 with h | h | h
      · have := mul_pn hs h; omega
      · subst h; simp
      · have := mul_pp hs h; omega
    · rcases Int.lt_trichotomy t 0 with h | h | h
      · have := mul_nn hs h; omega
      · subst h; simp
      · have := mul_np hs h; omega
  have ec : cx p d a = (d.1 - p.1) * (a.2 - p.2) - (d.2 - p.2) * (a.1 - p.1) := rfl
  refine ⟨cx p d a, rfl, by rw [← cx_rot], by rw [cx_swap2], ?_, ?_, ?_⟩
  · intro h0
    have slant : p.2 ≠ a.2 → p.2 ≠ d.2 → ((p.2 < a.2 ∧ p.2 < d.2) ∨ (a.2 < p.2 ∧ d.2 < p.2)) → False := fun h1 h2 h3 => by
      by_cases hle : (p.2 - d.2) * (a.2 - d.2) ≤ 0
      · rw [on_slant h0 h1 hle] at ha; cases ha
      · have hle2 : (p.2 - a.2) * (d.2 - a.2) ≤ 0 := by
          have := pos_mul (show 0 < (p.2 - d.2) * (a.2 - d.2) by omega)
          rcases h3 with h3 | h3
          · exact Int.le_of_lt (mul_np (by omega) (by omega))
          · exact Int.le_of_lt (mul_pn (by omega) (by omega))
        rw [on_slant (d := a) (a := d) (by rw [cx_swap2, h0]; rfl) h2 hle2] at hd; cases hd
    refine ⟨fun h1 => slant (by omega) (by omega) (Or.inl h1), fun h1 => slant (by omega) (by omega) (Or.inr h1), fun h1 => ?_⟩
    have hd2 : d.2 = p.2 := by
      have h2 : (d.2 - p.2) * (a.1 - p.1) = 0 := by rw [ec, ← h1] at h0; grind
      rcases Int.mul_eq_zero.1 h2 with h | h <;> omega
    have flat : ((p.1 < a.1 ∧ p.1 < d.1) ∨ (a.1 < p.1 ∧ d.1 < p.1)) → False := fun h3 => by
      by_cases hle : min p.1 a.1 ≤ d.1 ∧ d.1 ≤ max p.1 a.1
      · rw [on_horiz h1 hd2.symm hle.1 hle.2] at ha; cases ha
      · rw [on_horiz (d := a) (a := d) hd2.symm h1 (by omega) (by omega)] at hd; cases hd
    exact ⟨fun h => flat (Or.inl h), fun h => flat (Or.inr h)⟩
  · intro h1
    have e : cx p d a = (d.1 - p.1) * (a.2 - p.2) := by rw [ec, h1]; simp
    rw [e]
    have m := mono (d.1 - p.1) (a.2 - p.2)
    refine ⟨by omega, fun h => ?_, fun h => ?_⟩
    · have := m.1 (by omega); omega
    · have := m.2 (by omega); omega
  · intro h1
    have e : cx p d a = (a.1 - p.1) * (p.2 - d.2) := by rw [ec, h1]; grind
    rw [e]
    have m := mono (a.1 - p.1) (p.2 - d.2)
    refine ⟨by omega, fun h => ?_, fun h => ?_⟩
    · have := m.1 (by omega); omega
    · have := m.2 (by omega); omega
set_option maxHeartbeats 4000000 in
theorem hh_in {p a d : P2} (h : NS p a d) : hh a p d + FF p d a - cr1 a p d = ph p d := by
  obtain ⟨c, e1, e2, e3, f1, f2, f3⟩ := h.facts
  unfold hh tI tg FF cr1 ph up UU
  simp only [e1, e2]
  generalize p.1 = px at *
  generalize p.2 = py at *
  generalize a.1 = ax at *
  generalize a.2 = ay at *
  generalize d.1 = dx at *
  generalize d.2 = dy at *
  clear e1 e2 e3 h
  rcases Int.lt_trichotomy py dy with h1 | h1 | h1 <;> rcases Int.lt_trichotomy py ay with h2 | h2 | h2
  all_goals
    (repeat' split) <;> omega
set_option maxHeartbeats 4000000 in
theorem hh_out {p q b : P2} (h : NS q p b) : hh p q b + FF p q b - cr1 q b p = ph p q := by
  obtain ⟨c, e1, e2, e3, f1, f2, f3⟩ := h.facts
  unfold hh tI tg FF cr1 ph up UU
  simp only [show cx p q b = c from e2, show cx q b p = c from e1]
  generalize p.1 = px at *
  generalize p.2 = py at *
  generalize b.1 = ax at *
  generalize b.2 = ay at *
  generalize q.1 = dx at *
  generalize q.2 = dy at *
  clear e1 e2 e3 h
  rcases Int.lt_trichotomy py dy with h1 | h1 | h1 <;> rcases Int.lt_trichotomy py ay with h2 | h2 | h2
  all_goals
    (repeat' split) <;> omega
theorem hh_diff (a p b q : P2) : hh a p q - hh b p q - hh a p b = tI p a q - tI p b q - tI p a b := by
  unfold hh; omega
/-- A closed way of n edges that do not meet but at their common points; the points are counted on and on. -/
structure Smp (p : Nat → P2) (n : Nat) : Prop where
  n3 : 3 ≤ n
  per : ∀ k, p (k + n) = p k
  ns : ∀ k, NS (p (k + 1)) (p k) (p (k + 2))
  ap : ∀ i j, 2 ≤ j → j + 2 ≤ n → tcP (p i) (p (i + 1)) (p (i + j)) (p (i + j + 1)) = false
theorem sumTo_add (f : Nat → Int) (a b : Nat) : sumTo f (a + b) = sumTo f a + sumTo (fun j => f (a + j)) b := by
  induction b with
  | zero => simp [sumTo]
  | succ b ih => rw [← Nat.add_assoc]; simp only [sumTo]; omega
theorem sumTo_zero {f : Nat → Int} {n : Nat} (h : ∀ j, j < n → f j = 0) : sumTo f n = 0 := by
  induction n with
  | zero => rfl
  | succ n ih => simp only [sumTo]; rw [ih (fun j hj => h j (by omega)), h n (by omega)]; rfl
theorem sumTo_sub (f g : Nat → Int) (n : Nat) : sumTo f n - sumTo g n = sumTo (fun j => f j - g j) n := by
  induction n with
  | zero => rfl
  | succ n ih => simp only [sumTo]; omega
theorem sumTo_tele (f : Nat → Int) (n : Nat) : sumTo (fun j => f (j + 1) - f j) n = f n - f 0 := by
  induction n with
  | zero => simp [sumTo]
  | succ n ih => simp only [sumTo]; omega
theorem sumTo_front (f : Nat → Int) (n : Nat) : sumTo f (n + 1) = f 0 + sumTo (fun j => f (j + 1)) n := by
  rw [Nat.add_comm n 1, sumTo_add f 1 n]
  simp only [sumTo]
  rw [sumTo_congr (g := fun j => f (j + 1)) fun j _ => by rw [Nat.add_comm]]
  omega
/-- A sum over a whole round does not depend on its beginning. -/
theorem sumTo_turn {f : Nat → Int} {n : Nat} (h : ∀ k, f (k + n) = f k) (s : Nat) : sumTo (fun j => f (s + j)) n = sumTo f n := by
  induction s with
  | zero => simp
  | succ s ih =>
    rw [← ih]
    rcases n with _ | n
    · rfl
    · have h1 := sumTo_front (fun j => f (s + j)) n
      rw [h1]
      simp only [sumTo]
      rw [sumTo_congr (g := fun j => f (s + (j + 1))) fun j _ => by rw [show s + 1 + j = s + (j + 1) by omega]]
      have : f (s + 1 + n) = f (s + 0) := by rw [show s + 1 + n = s + (n + 1) by omega]; exact h s
      omega
/-- The passings of a closed way to the right of a point. -/
def wn (p : Nat → P2) (n : Nat) (q : P2) : Int := sumTo (fun k => cr1 (p k) (p (k + 1)) q) n
/-- The same at one of its points, without the two edges there. -/
def CC (p : Nat → P2) (n i : Nat) : Int := sumTo (fun j => cr1 (p (i + 1 + j)) (p (i + 2 + j)) (p i)) (n - 2)
/-- How often the way goes around what lies to its left. -/
def WW (p : Nat → P2) (n i : Nat) : Int := CC p n i + hh (p (i + n - 1)) (p i) (p (i + 1))
/-- The passings of a part of a way, at two points whose segment it does not meet. -/
theorem cr_sum {p : Nat → P2} {a b : P2} {s m : Nat} (h : ∀ j, j < m → tcP a b (p (s + j)) (p (s + j + 1)) = false) :
    sumTo (fun j => cr1 (p (s + j)) (p (s + j + 1)) a) m - sumTo (fun j => cr1 (p (s + j)) (p (s + j + 1)) b) m = FF a b (p (s + m)) - FF a b (p s) := by
  rw [sumTo_sub]
  refine Eq.trans (sumTo_congr (g := fun j => (fun k => FF a b (p (s + k))) (j + 1) - (fun k => FF a b (p (s + k))) j) fun j hj => cr_seg (h j hj)) ?_
  rw [sumTo_tele (fun k => FF a b (p (s + k)))]
  rfl
theorem Smp.per' {p : Nat → P2} {n : Nat} (h : Smp p n) (k m : Nat) : p (k + m * n) = p k := by
  induction m with
  | zero => simp
  | succ m ih => rw [Nat.succ_mul, ← Nat.add_assoc, h.per, ih]
/-- The number is the same at all points. -/
theorem Smp.WW_step {p : Nat → P2} {n : Nat} (h : Smp p n) (i : Nat) : WW p n i = WW p n (i + 1) := by
  obtain ⟨m, rfl⟩ : ∃ m, n = m + 3 := ⟨n - 3, by have := h.n3; omega⟩
  have e1 : CC p (m + 3) i = cr1 (p (i + 1)) (p (i + 2)) (p i) + sumTo (fun j => cr1 (p (i + 2 + j)) (p (i + 2 + j + 1)) (p i)) m := by
    unfold CC
    rw [show m + 3 - 2 = m + 1 by omega, sumTo_front]
    rw [sumTo_congr (g := fun j => cr1 (p (i + 2 + j)) (p (i + 2 + j + 1)) (p i)) fun j _ => by rw [show i + 1 + (j + 1) = i + 2 + j by omega, show i + 2 + (j + 1) = i + 2 + j + 1 by omega]]
  have e2 : CC p (m + 3) (i + 1) = sumTo (fun j => cr1 (p (i + 2 + j)) (p (i + 2 + j + 1)) (p (i + 1))) m + cr1 (p (i + 2 + m)) (p (i + (m + 3))) (p (i + 1)) := by
    unfold CC
    rw [show m + 3 - 2 = m + 1 by omega]
    simp only [sumTo]
    rw [sumTo_congr (g := fun j => cr1 (p (i + 2 + j)) (p (i + 2 + j + 1)) (p (i + 1))) fun j _ => by rw [show i + 1 + 1 + j = i + 2 + j by omega, show i + 1 + 2 + j = i + 2 + j + 1 by omega]]
    rw [show i + 1 + 1 + m = i + 2 + m by omega, show i + 1 + 2 + m = i + (m + 3) by omega]
  have e3 := cr_sum (p := p) (a := p i) (b := p (i + 1)) (s := i + 2) (m := m) fun j hj => by
    have := h.ap i (j + 2) (by omega) (by omega)
    rwa [show i + (j + 2) = i + 2 + j by omega] at this
  have hp : p (i + (m + 3)) = p i := h.per i
  have n1 : NS (p i) (p (i + 2 + m)) (p (i + 1)) := by
    have := h.ns (i + 2 + m)
    rwa [show i + 2 + m + 1 = i + (m + 3) by omega, hp, show i + 2 + m + 2 = (i + 1) + (m + 3) by omega, h.per] at this
  have n2 : NS (p (i + 1)) (p i) (p (i + 2)) := h.ns i
  have l1 := hh_in n1
  have l2 := hh_out n2
  unfold WW
  rw [e1, e2, hp, show i + (m + 3) - 1 = i + 2 + m by omega, show i + 1 + (m + 3) - 1 = i + (m + 3) by omega, hp, show i + 1 + 1 = i + 2 by omega]
  omega
theorem Smp.WW_all {p : Nat → P2} {n : Nat} (h : Smp p n) (i : Nat) : WW p n i = WW p n 0 := by
  induction i with
  | zero => rfl
  | succ i ih => rw [← h.WW_step, ih]
/-- The number of the passings at a point that sees one of the way's points. -/
theorem Smp.wn_sees {p : Nat → P2} {n : Nat} (h : Smp p n) (i : Nat) (q : P2) (h1 : NS (p i) (p (i + n - 1)) q) (h2 : NS (p i) (p (i + 1)) q)
    (h3 : ∀ j, 1 ≤ j → j + 2 ≤ n → tcP (p i) q (p (i + j)) (p (i + j + 1)) = false) :
    wn p n q = WW p n 0 + (tI (p i) (p (i + n - 1)) q - tI (p i) (p (i + 1)) q - tI (p i) (p (i + n - 1)) (p (i + 1))) := by
  rw [← h.WW_all i]
  obtain ⟨m, rfl⟩ : ∃ m, n = m + 3 := ⟨n - 3, by have := h.n3; omega⟩
  have hp : p (i + (m + 3)) = p i := h.per i
  have e0 : wn p (m + 3) q = cr1 (p i) (p (i + 1)) q + sumTo (fun j => cr1 (p (i + 1 + j)) (p (i + 1 + j + 1)) q) (m + 1) + cr1 (p (i + (m + 3) - 1)) (p i) q := by
    unfold wn
    rw [← sumTo_turn (f := fun k => cr1 (p k) (p (k + 1)) q) (fun k => by rw [h.per, show k + (m + 3) + 1 = k + 1 + (m + 3) by omega, h.per]) i, sumTo_front]
    simp only [sumTo]
    rw [show i + (m + 1 + 1) = i + (m + 3) - 1 by omega, show i + (m + 3) - 1 + 1 = i + (m + 3) by omega, hp]
    rw [sumTo_congr (f := fun j => cr1 (p (i + (j + 1))) (p (i + (j + 1) + 1)) q) (g := fun j => cr1 (p (i + 1 + j)) (p (i + 1 + j + 1)) q) fun j _ => by rw [show i + (j + 1) = i + 1 + j by omega]]
    simp only [Nat.add_zero]
    rw [show i + (m + 1) = i + 1 + m by omega]
    omega
  have e1 : CC p (m + 3) i = sumTo (fun j => cr1 (p (i + 1 + j)) (p (i + 1 + j + 1)) (p i)) (m + 1) := by
    unfold CC
    rw [show m + 3 - 2 = m + 1 by omega]
    exact sumTo_congr fun j _ => by rw [show i + 2 + j = i + 1 + j + 1 by omega]
  have e2 := cr_sum (p := p) (a := p i) (b := q) (s := i + 1) (m := m + 1) fun j hj => by
    have := h3 (j + 1) (by omega) (by omega)
    rwa [show i + (j + 1) = i + 1 + j by omega] at this
  have l1 := hh_in h1
  have l2 := hh_in h2
  have l3 := cr1_rev (p (i + 1)) (p i) q
  have l4 := hh_diff (p (i + (m + 3) - 1)) (p i) (p (i + 1)) q
  rw [show i + 1 + (m + 1) = i + (m + 3) - 1 by omega] at e2
  unfold WW
  omega
theorem half_trans {y2 A B C x2 z2 : Int} (hid : y2 * C = x2 * B + z2 * A) (hA : A ≤ 0) (hB : B ≤ 0) (hx : 0 ≤ x2) (hz : 0 ≤ z2) (hy : 0 < y2) : C ≤ 0 := by
  have m1 := mul_0n hx hB
  have m2 := mul_0n hz hA
  rcases Int.lt_or_le 0 C with h | h
  · have := mul_pp hy h; omega
  · exact h
theorem ntg_trans {p x y z : P2} (hx : x ≠ p) (hy : y ≠ p) (h1 : ¬ tg p x y) (h2 : ¬ tg p y z) : ¬ tg p x z := by
  intro h
  have id1 : (y.2 - p.2) * cx p z x = (x.2 - p.2) * cx p z y + (z.2 - p.2) * cx p y x := by unfold cx crI; grind
  have hx' : x.2 = p.2 → x.1 ≠ p.1 := fun e1 e2 => hx (Prod.ext e2 e1)
  have hy' : y.2 = p.2 → y.1 ≠ p.1 := fun e1 e2 => hy (Prod.ext e2 e1)
  have ey : y.2 = p.2 → cx p y x = (y.1 - p.1) * (x.2 - p.2) := fun e => by unfold cx crI; rw [e]; grind
  have ex : x.2 = p.2 → cx p z x = -((z.2 - p.2) * (x.1 - p.1)) := fun e => by unfold cx crI; rw [e]; grind
  unfold tg UU at *
  generalize cx p z x = C at *
  generalize cx p z y = B at *
  generalize cx p y x = A at *
  have hA : A ≤ 0 := by omega
  have hB : B ≤ 0 := by omega
  rcases Int.lt_trichotomy (y.2 - p.2) 0 with hy2 | hy2 | hy2
  · have k : (-(y.2 - p.2)) * C = (-(x.2 - p.2)) * B + (-(z.2 - p.2)) * A := by grind
    have := half_trans k hA hB (by omega) (by omega) (by omega)
    omega
  · have e := ey (by omega)
    have hx2 : x.2 = p.2 := by
      rcases Int.lt_or_lt_of_ne (hy' (by omega)) with h3 | h3
      · rcases Int.lt_trichotomy (x.2 - p.2) 0 with h4 | h4 | h4
        · have := mul_nn (show y.1 - p.1 < 0 by omega) h4; omega
        · omega
        · omega
      · rcases Int.lt_trichotomy (x.2 - p.2) 0 with h4 | h4 | h4
        · omega
        · omega
        · have := mul_pp (show 0 < y.1 - p.1 by omega) h4; omega
    have e2 := ex hx2
    have hx1 := hx' hx2
    rcases Int.lt_or_lt_of_ne hx1 with h3 | h3
    · have := mul_00 (show z.2 - p.2 ≤ 0 by omega) (show x.1 - p.1 ≤ 0 by omega); omega
    · have := mul_p0 (show 0 ≤ z.2 - p.2 by omega) (show 0 ≤ x.1 - p.1 by omega); omega
  · have := half_trans id1 hA hB (by omega) (by omega) hy2
    omega
theorem tg_asymm {p x y : P2} (h : tg p x y) : ¬ tg p y x := by
  have := cx_swap2 p x y
  unfold tg UU at *
  omega
/-- Whether a way from a point goes off to the right. -/
theorem sector {p a b q : P2} (ha : a ≠ p) (hb : b ≠ p) (hq : q ≠ p) : tI p a q - tI p b q - tI p a b = 0 ∨ tI p a q - tI p b q - tI p a b = -1 := by
  have h1 := ntg_trans (z := q) ha hb
  have h2 := ntg_trans (z := b) ha hq
  have h3 := @tg_asymm p b q
  unfold tI
  by_cases c1 : tg p a q <;> by_cases c2 : tg p b q <;> by_cases c3 : tg p a b <;> simp [c1, c2, c3]
  · exact h1 c3 c2 c1
  · exact h2 c1 (h3 c2) c3
def lexLe (a b : P2) : Prop := a.1 < b.1 ∨ (a.1 = b.1 ∧ a.2 ≤ b.2)
theorem lex_max (p : Nat → P2) (n : Nat) (h : 0 < n) : ∃ i, i < n ∧ ∀ j, j < n → lexLe (p j) (p i) := by
  induction n with
  | zero => omega
  | succ n ih =>
    by_cases h0 : n = 0
    · subst h0; exact ⟨0, by omega, fun j hj => Or.inr (by rw [show j = 0 by omega]; exact ⟨rfl, Int.le_refl _⟩)⟩
    · obtain ⟨i, hi, hm⟩ := ih (by omega)
      by_cases hc : lexLe (p n) (p i)
      · exact ⟨i, by omega, fun j hj => by
          by_cases e : j = n
          · subst e; exact hc
          · exact hm j (by omega)⟩
      · refine ⟨n, by omega, fun j hj => ?_⟩
        by_cases e : j = n
        · subst e; exact Or.inr ⟨rfl, Int.le_refl _⟩
        · have := hm j (by omega)
          unfold lexLe at *
          omega
theorem Smp.mod {p : Nat → P2} {n : Nat} (h : Smp p n) (k : Nat) : p k = p (k % n) := by
  have := h.per' (k % n) (k / n)
  rw [← this]
  congr 1
  rw [Nat.mul_comm]
  exact (Nat.mod_add_div k n).symm
theorem Smp.top {p : Nat → P2} {n : Nat} (h : Smp p n) : ∃ i, i < n ∧ ∀ j, lexLe (p j) (p i) := by
  have h3 := h.n3
  obtain ⟨i, hi, hm⟩ := lex_max p n (by omega)
  exact ⟨i, hi, fun j => by rw [h.mod j]; exact hm _ (Nat.mod_lt _ (by omega))⟩
theorem NS.ne {p a d : P2} (h : NS p a d) : a ≠ p ∧ d ≠ p :=
  ⟨fun e => (by have := h.2; rw [e, on_self] at this; cases this), fun e => (by have := h.1; rw [e, on_self] at this; cases this)⟩
theorem cr1_right {u v q : P2} (hu : u.1 ≤ q.1) (hv : v.1 ≤ q.1) : cr1 u v q = 0 := by
  have e : cx u v q = -((q.1 - u.1) * (v.2 - q.2)) - (q.1 - v.1) * (q.2 - u.2) := by unfold cx crI; grind
  unfold cr1
  rw [if_neg, if_neg]
  · rintro ⟨h1, h2, h3⟩
    have m1 := mul_0n (show 0 ≤ q.1 - u.1 by omega) (show v.2 - q.2 ≤ 0 by omega)
    have m2 := mul_0n (show 0 ≤ q.1 - v.1 by omega) (show q.2 - u.2 ≤ 0 by omega)
    omega
  · rintro ⟨h1, h2, h3⟩
    have m1 := mul_p0 (show 0 ≤ q.1 - u.1 by omega) (show 0 ≤ v.2 - q.2 by omega)
    have m2 := mul_p0 (show 0 ≤ q.1 - v.1 by omega) (show 0 ≤ q.2 - u.2 by omega)
    omega
/-- At the rightmost point (the highest one of several) the number tells how the way turns. -/
theorem hh_top {p a d : P2} (h : NS p a d) (ha : lexLe a p) (hd : lexLe d p) : cx a p d ≠ 0 ∧ hh a p d = if 0 < cx a p d then 1 else 0 := by
  obtain ⟨c, e1, e2, e3, f1, f2, f3⟩ := h.facts
  have ec : c = (d.1 - p.1) * (a.2 - p.2) - (d.2 - p.2) * (a.1 - p.1) := e1.symm
  have k1 : p.2 < a.2 → d.2 < p.2 → c < 0 := fun h1 h2 => by
    have m1 := mul_n0 (show d.1 - p.1 ≤ 0 by unfold lexLe at hd; omega) (show 0 ≤ a.2 - p.2 by omega)
    have m2 := mul_nn (show d.2 - p.2 < 0 by omega) (show a.1 - p.1 < 0 by unfold lexLe at ha; omega)
    omega
  have k2 : a.2 < p.2 → p.2 < d.2 → 0 < c := fun h1 h2 => by
    have m1 := mul_nn (show d.1 - p.1 < 0 by unfold lexLe at hd; omega) (show a.2 - p.2 < 0 by omega)
    have m2 := mul_0n (show 0 ≤ d.2 - p.2 by omega) (show a.1 - p.1 ≤ 0 by unfold lexLe at ha; omega)
    omega
  unfold hh tI tg up UU lexLe at *
  rw [e2]
  simp only [e1]
  clear ec e1 e2 e3 h
  generalize p.1 = px at *
  generalize p.2 = py at *
  generalize a.1 = ax at *
  generalize a.2 = ay at *
  generalize d.1 = dx at *
  generalize d.2 = dy at *
  constructor
  · omega
  · repeat' split
    all_goals omega
theorem Smp.WW_top {p : Nat → P2} {n : Nat} (h : Smp p n) {i : Nat} (hm : ∀ j, lexLe (p j) (p i)) :
    cx (p (i + n - 1)) (p i) (p (i + 1)) ≠ 0 ∧ WW p n 0 = if 0 < cx (p (i + n - 1)) (p i) (p (i + 1)) then 1 else 0 := by
  have h3 := h.n3
  have hns : NS (p i) (p (i + n - 1)) (p (i + 1)) := by
    have := h.ns (i + n - 1)
    rwa [show i + n - 1 + 1 = i + n by omega, h.per, show i + n - 1 + 2 = i + 1 + n by omega, h.per] at this
  have ht := hh_top hns (hm _) (hm _)
  refine ⟨ht.1, ?_⟩
  rw [← h.WW_all i, ← ht.2]
  unfold WW
  rw [show CC p n i = 0 from sumTo_zero fun j _ => cr1_right (by have := hm (i + 1 + j); unfold lexLe at this; omega) (by have := hm (i + 2 + j); unfold lexLe at this; omega)]
  omega
theorem Smp.WW_01 {p : Nat → P2} {n : Nat} (h : Smp p n) : WW p n 0 = 0 ∨ WW p n 0 = 1 := by
  obtain ⟨i, _, hm⟩ := h.top
  rw [(h.WW_top hm).2]
  split <;> simp
theorem Smp.wn_sees01 {p : Nat → P2} {n : Nat} (h : Smp p n) (i : Nat) (q : P2) (h1 : NS (p i) (p (i + n - 1)) q) (h2 : NS (p i) (p (i + 1)) q)
    (h3 : ∀ j, 1 ≤ j → j + 2 ≤ n → tcP (p i) q (p (i + j)) (p (i + j + 1)) = false) : wn p n q = WW p n 0 ∨ wn p n q = WW p n 0 - 1 := by
  rw [h.wn_sees i q h1 h2 h3]
  rcases sector (p := p i) (a := p (i + n - 1)) (b := p (i + 1)) (q := q) h1.ne.1 h2.ne.1 h1.ne.2 with e | e <;> rw [e]
  · left; omega
  · right; omega
end Go.Proofs.Ythflkkkpggaalaa.J
