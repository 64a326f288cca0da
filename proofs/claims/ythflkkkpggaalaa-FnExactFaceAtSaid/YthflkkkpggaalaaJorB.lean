/- A closed way that does not meet itself goes around a point once or not at all. -/
import Derived.Test.YthflkkkpggaalaaJorA
namespace Go.Proofs.Ythflkkkpggaalaa.J
set_option linter.unusedVariables false
set_option linter.unusedSimpArgs false

def dt (p a d : P2) : Int := (a.1 - p.1) * (d.1 - p.1) + (a.2 - p.2) * (d.2 - p.2)
theorem sq_pos {a : Int} (h : a ≠ 0) : 0 < a * a := by
  rcases Int.lt_or_lt_of_ne h with h | h
  · exact mul_nn h h
  · exact mul_pp h h
theorem dt_pos {p a : P2} (h : a ≠ p) : 0 < dt p a a := by
  unfold dt
  have h1 := sq_nonneg (a.1 - p.1)
  have h2 := sq_nonneg (a.2 - p.2)
  by_cases e1 : a.1 = p.1
  · by_cases e2 : a.2 = p.2
    · exact absurd (Prod.ext e1 e2) h
    · have := sq_pos (show a.2 - p.2 ≠ 0 by omega); omega
  · have := sq_pos (show a.1 - p.1 ≠ 0 by omega); omega
theorem dt_nonneg (p a : P2) : 0 ≤ dt p a a := by
  unfold dt
  have h1 := sq_nonneg (a.1 - p.1)
  have h2 := sq_nonneg (a.2 - p.2)
  omega
theorem on_dt (a b p : P2) : onP a b p = true ↔ cx a b p = 0 ∧ dt p a b ≤ 0 := by
  unfold onP
  rw [on_eq]
  simp only [Bool.and_eq_true, decide_eq_true_eq, sdI, sg_zero]
  exact Iff.rfl
theorem dt_cx (p a d : P2) : dt p a d * dt p a d + cx p a d * cx p a d = dt p a a * dt p d d := by unfold dt cx crI; grind
theorem NS_iff (p a d : P2) : NS p a d ↔ (cx p a d = 0 → dt p a d < 0) := by
  have e1 : dt d p a = dt p d d - dt p a d := by unfold dt; grind
  have e2 : dt a p d = dt p a a - dt p a d := by unfold dt; grind
  have e3 := dt_cx p a d
  have n1 := dt_nonneg p a
  have n2 := dt_nonneg p d
  have hs := cx_swap2 p a d
  unfold NS
  rw [← Bool.not_eq_true, ← Bool.not_eq_true, on_dt, on_dt, e1, e2]
  constructor
  · rintro ⟨h1, h2⟩ h0
    rw [h0] at e3
    rcases Int.lt_or_le (dt p a d) 0 with h | h
    · exact h
    · exfalso
      generalize dt p a d = x at *
      generalize dt p a a = y at *
      generalize dt p d d = z at *
      have hx1 : x < z := by omega
      have hx2 : x < y := by omega
      have m1 := mul_p0 h (show 0 ≤ y - x by omega)
      have m2 := mul_pp (show 0 < y by omega) (show 0 < z - x by omega)
      have : x * (y - x) + y * (z - x) = y * z - x * x := by grind
      omega
  · intro h
    constructor
    · rintro ⟨h1, h2⟩; have := h h1; omega
    · rintro ⟨h1, h2⟩; have := h (by omega); omega
def sc (K : Int) (p : P2) : P2 := (K * p.1, K * p.2)
theorem cx_sc (K : Int) (a b c : P2) : cx (sc K a) (sc K b) (sc K c) = K * K * cx a b c := by unfold cx crI sc; grind
theorem dt_sc (K : Int) (a b c : P2) : dt (sc K a) (sc K b) (sc K c) = K * K * dt a b c := by unfold dt sc; grind
theorem pos_iff {K x : Int} (h : 0 < K) : (0 < K * x ↔ 0 < x) ∧ (K * x < 0 ↔ x < 0) ∧ (K * x = 0 ↔ x = 0) ∧ (K * x ≤ 0 ↔ x ≤ 0) := by
  rcases Int.lt_trichotomy x 0 with h1 | h1 | h1
  · have := mul_pn h h1; omega
  · subst h1; simp
  · have := mul_pp h h1; omega
theorem on_sc {K : Int} (h : 0 < K) (a b p : P2) : onP (sc K a) (sc K b) (sc K p) = onP a b p := by
  have hk := mul_pp h h
  rw [Bool.eq_iff_iff, on_dt, on_dt, cx_sc, dt_sc, (pos_iff hk).2.2.1, (pos_iff hk).2.2.2]
theorem NS_sc {K : Int} (h : 0 < K) (p a d : P2) : NS (sc K p) (sc K a) (sc K d) ↔ NS p a d := by unfold NS; rw [on_sc h, on_sc h]
theorem prod_sc {K : Int} (h : 0 < K) (x y : Int) : K * x * (K * y) < 0 ↔ x * y < 0 := by
  rw [show K * x * (K * y) = K * K * (x * y) by grind]
  exact (pos_iff (mul_pp h h)).2.1
theorem tc_sc {K : Int} (h : 0 < K) (a b c d : P2) : tcP (sc K a) (sc K b) (sc K c) (sc K d) = tcP a b c d := by
  have hk := mul_pp h h
  rw [Bool.eq_iff_iff, tc_iff, tc_iff, on_sc h, on_sc h, on_sc h, on_sc h, cx_sc, cx_sc, cx_sc, cx_sc, prod_sc hk, prod_sc hk]
theorem mul_le_iff {K x y : Int} (h : 0 < K) : (K * x ≤ K * y ↔ x ≤ y) ∧ (K * x < K * y ↔ x < y) := by
  have e : K * (y - x) = K * y - K * x := by grind
  have h1 := pos_iff (x := y - x) h
  have h2 := pos_iff (x := x - y) h
  have e2 : K * (x - y) = K * x - K * y := by grind
  omega
theorem cr1_sc {K : Int} (h : 0 < K) (u v q : P2) : cr1 (sc K u) (sc K v) (sc K q) = cr1 u v q := by
  have hk := mul_pp h h
  unfold cr1
  rw [cx_sc]
  simp only [(pos_iff hk).1, (pos_iff hk).2.1]
  simp only [sc, (mul_le_iff h).1, (mul_le_iff h).2]
theorem sc_mul (K L : Int) (p : P2) : sc K (sc L p) = sc (K * L) p := by unfold sc; simp [Int.mul_assoc]
theorem sc_inj {K : Int} (h : 0 < K) {a b : P2} (e : sc K a = sc K b) : a = b := by
  have e1 : K * a.1 = K * b.1 := congrArg Prod.fst e
  have e2 : K * a.2 = K * b.2 := congrArg Prod.snd e
  exact Prod.ext (Int.eq_of_mul_eq_mul_left (by omega) e1) (Int.eq_of_mul_eq_mul_left (by omega) e2)
theorem Smp.scaled {p : Nat → P2} {n : Nat} (h : Smp p n) {K : Int} (hK : 0 < K) : Smp (fun k => sc K (p k)) n :=
  ⟨h.n3, fun k => by simp only [h.per], fun k => (NS_sc hK _ _ _).2 (h.ns k), fun i j h1 h2 => by simp only [tc_sc hK]; exact h.ap i j h1 h2⟩
theorem wn_sc {p : Nat → P2} {n : Nat} {K : Int} (hK : 0 < K) (q : P2) : wn (fun k => sc K (p k)) n (sc K q) = wn p n q := by
  unfold wn
  exact sumTo_congr fun j _ => cr1_sc hK _ _ _
/-- A common point of two segments. -/
theorem tc_common {a b c d m : P2} (h1 : onP a b m = true) (h2 : onP c d m = true) : tcP a b c d = true := by
  by_cases hz : cx a b c ≠ 0 ∨ cx a b d ≠ 0 ∨ cx c d a ≠ 0 ∨ cx c d b ≠ 0
  · have sep : ∀ a b c d : P2, onP a b m = true → onP c d m = true → cx a b c * cx a b d ≤ 0 := fun a b c d h1 h2 => by
      rw [on_dt] at h1 h2
      by_cases hcd : c = d
      · subst hcd
        have : m = c := by
          have h3 := h2.2
          have h4 : dt m c c = 0 := by have := dt_nonneg m c; omega
          by_cases e : c = m
          · exact e.symm
          · have := dt_pos e; omega
        subst this
        rw [h1.1]; simp
      · -- m is between c and d
        have hs : 0 < dt c d d := dt_pos (fun e => hcd e.symm)
        have i1 : dt c d d * cx a b m = (dt c d d - dt c d m) * cx a b c + dt c d m * cx a b d + cx c d m * ((b.1 - a.1) * (d.1 - c.1) + (b.2 - a.2) * (d.2 - c.2)) := by unfold dt cx crI; grind
        have i2 : dt c d m * dt c d m + cx c d m * cx c d m = dt c d d * dt c m m := by unfold dt cx crI; grind
        have i3 : dt m c d = dt c m m - dt c d m := by unfold dt; grind
        rw [h1.1, h2.1] at i1
        rw [h2.1] at i2
        have hm := dt_nonneg c m
        -- 0 ≤ t ≤ s
        have t0 : 0 ≤ dt c d m := by omega
        have t1 : dt c d m ≤ dt c d d := by
          rcases Int.lt_or_le (dt c d d) (dt c d m) with h | h
          · have k1 := mul_pp (show 0 < dt c d m by omega) (show 0 < dt c d m - dt c d d by omega)
            have k2 := mul_p0 (show 0 ≤ dt c d d by omega) (show 0 ≤ dt c d m - dt c m m by omega)
            have e : dt c d m * (dt c d m - dt c d d) = dt c d m * dt c d m - dt c d d * dt c d m := by grind
            have e' : dt c d d * (dt c d m - dt c m m) = dt c d d * dt c d m - dt c d d * dt c m m := by grind
            omega
          · exact h
        generalize dt c d d = s at *
        generalize dt c d m = t at *
        generalize cx a b c = x at *
        generalize cx a b d = y at *
        have i4 : (s - t) * x + t * y = 0 := by omega
        rcases Int.lt_or_le 0 (x * y) with hp | hp
        · rcases pos_mul hp with ⟨p1, p2⟩ | ⟨p1, p2⟩
          · rcases Int.lt_or_le 0 t with h | h
            · have := mul_pp h p2; have := mul_p0 (show 0 ≤ s - t by omega) (show 0 ≤ x by omega); omega
            · have := mul_pp (show 0 < s - t by omega) p1; have : t = 0 := by omega
              subst this; simp at i4; omega
          · rcases Int.lt_or_le 0 t with h | h
            · have := mul_pn h p2; have := mul_0n (show 0 ≤ s - t by omega) (show x ≤ 0 by omega); omega
            · have := mul_pn (show 0 < s - t by omega) p1; have : t = 0 := by omega
              subst this; simp at i4; omega
        · exact hp
    exact tc_of (sep a b c d h1 h2) (sep c d a b h2 h1) hz
  · -- all on a line
    have z1 : cx a b c = 0 := by omega
    have z2 : cx a b d = 0 := by omega
    have z3 : cx c d a = 0 := by omega
    have z4 : cx c d b = 0 := by omega
    rw [tc_iff]
    right
    by_cases hab : b = a
    · subst hab
      have e : m = b := by
        rw [on_dt] at h1
        by_cases e : b = m
        · exact e.symm
        · have := dt_pos e; omega
      subst e
      exact Or.inr (Or.inr (Or.inl h2))
    · have hL := dt_pos hab
      have hm := (on_dt _ _ _).1 h1
      have hm2 := (on_dt _ _ _).1 h2
      have key : ∀ x y z : P2, cx a b x = 0 → cx a b y = 0 → cx a b z = 0 → (dt x y z ≤ 0 ↔ (dt a b y - dt a b x) * (dt a b z - dt a b x) ≤ 0) := fun x y z hx hy hz => by
        have e : dt a b b * dt x y z = (dt a b y - dt a b x) * (dt a b z - dt a b x) + (cx a b y - cx a b x) * (cx a b z - cx a b x) := by unfold dt cx crI; grind
        rw [hx, hy, hz] at e
        have := (pos_iff (x := dt x y z) hL).2.2.2
        rw [← this, e]
        simp
      have za : cx a b a = 0 := by unfold cx crI; grind
      have zb : cx a b b = 0 := by unfold cx crI; grind
      have s0 : dt a b a = 0 := by unfold dt; grind
      have k1 := (key m a b hm.1 za zb).1 hm.2
      have k2 := (key m c d hm.1 z1 z2).1 hm2.2
      have q1 := key c a b z1 za zb
      have q2 := key d a b z2 za zb
      have q3 := key a c d za z1 z2
      have q4 := key b c d zb z1 z2
      rw [s0] at k1 q1 q2 q3
      simp only [on_dt, z1, z2, z3, z4, true_and, q1, q2, q3, q4]
      clear q1 q2 q3 q4 key hm hm2 h1 h2 hz z1 z2 z3 z4 za zb s0
      generalize dt a b b = L at *
      generalize dt a b m = t at *
      generalize dt a b c = x at *
      generalize dt a b d = y at *
      have sgn : ∀ u v : Int, u * v ≤ 0 ↔ (u ≤ 0 ∧ 0 ≤ v) ∨ (0 ≤ u ∧ v ≤ 0) := fun u v => by
        constructor
        · intro h
          rcases Int.lt_or_le 0 u with h1 | h1
          · rcases Int.lt_or_le 0 v with h2 | h2
            · have := mul_pp h1 h2; omega
            · omega
          · rcases Int.lt_or_le v 0 with h2 | h2
            · rcases Int.lt_or_le u 0 with h3 | h3
              · have := mul_nn h3 h2; omega
              · omega
            · omega
        · rintro (⟨h1, h2⟩ | ⟨h1, h2⟩)
          · exact mul_n0 h1 h2
          · exact mul_0n h1 h2
      rw [sgn] at k1 k2
      rw [sgn, sgn, sgn, sgn]
      omega
theorem on_trans {a b m x : P2} (h1 : onP a b m = true) (h2 : onP a m x = true) : onP a b x = true := by
  by_cases e : m = a
  · subst e
    rw [on_dt] at h2
    have : x = m := by
      by_cases e : m = x
      · exact e.symm
      · have := dt_pos e; omega
    subst this
    exact h1
  · have hp := dt_pos e
    have b1 := (on_iff _ _ _).1 h1
    have b2 := (on_iff _ _ _).1 h2
    have i1 : dt a m m * cx a b x = dt a m x * cx a b m + cx a m x * dt a b m := by unfold dt cx crI; grind
    rw [b1.1, b2.1] at i1
    have z : cx a b x = 0 := (pos_iff hp).2.2.1.1 (by rw [i1]; simp)
    rw [on_iff]
    refine ⟨z, ?_, ?_, ?_, ?_⟩ <;> omega
theorem tc_sub {a b m c d : P2} (h1 : onP a b m = true) (h2 : tcP a m c d = true) : ∃ K x, 0 < K ∧ onP (sc K a) (sc K b) x = true ∧ onP (sc K a) (sc K m) x = true ∧ onP (sc K c) (sc K d) x = true := by
  rw [tc_iff] at h2
  rcases h2 with ⟨p1, p2⟩ | h | h | h | h
  · -- the crossing
    have e := cx_four a m c d
    have key : ∃ K x, 0 < K ∧ onP (sc K a) (sc K m) x = true ∧ onP (sc K c) (sc K d) x = true := by
      have cross : ∀ c d : P2, 0 < cx c d a → cx c d m < 0 → cx a m c * cx a m d < 0 → ∃ K x, 0 < K ∧ onP (sc K a) (sc K m) x = true ∧ onP (sc K c) (sc K d) x = true := fun c d q1 q2 q3 => by
        have e := cx_four a m c d
        refine ⟨cx c d a - cx c d m, (cx c d a * m.1 - cx c d m * a.1, cx c d a * m.2 - cx c d m * a.2), by omega, ?_, ?_⟩
        · rw [on_dt]
          constructor
          · unfold cx crI sc; grind
          · have i : dt (cx c d a * m.1 - cx c d m * a.1, cx c d a * m.2 - cx c d m * a.2) (sc (cx c d a - cx c d m) a) (sc (cx c d a - cx c d m) m) = cx c d a * cx c d m * dt a m m := by
              generalize cx c d a = s; generalize cx c d m = t
              unfold dt sc; grind
            rw [i]
            exact mul_n0 (Int.le_of_lt (mul_pn q1 q2)) (dt_nonneg _ _)
        · have ex := cx_fourX a m c d
          have ey := cx_fourY a m c d
          rw [on_dt]
          rw [show (cx c d a * m.1 - cx c d m * a.1, cx c d a * m.2 - cx c d m * a.2) = (cx a m d * c.1 - cx a m c * d.1, cx a m d * c.2 - cx a m c * d.2) from Prod.ext ex ey]
          rw [e]
          constructor
          · generalize cx a m d = s; generalize cx a m c = t
            unfold cx crI sc; grind
          · have i : dt (cx a m d * c.1 - cx a m c * d.1, cx a m d * c.2 - cx a m c * d.2) (sc (cx a m d - cx a m c) c) (sc (cx a m d - cx a m c) d) = cx a m c * cx a m d * dt c d d := by
              generalize cx a m d = s; generalize cx a m c = t
              unfold dt sc; grind
            rw [i]
            exact mul_n0 (Int.le_of_lt q3) (dt_nonneg _ _)
      rcases neg_mul' p2 with ⟨q1, q2⟩ | ⟨q1, q2⟩
      · exact cross c d q1 q2 p1
      · obtain ⟨K, x, k1, k2, k3⟩ := cross d c (by rw [cx_swap]; omega) (by rw [cx_swap]; omega) (by rw [Int.mul_comm]; exact p1)
        exact ⟨K, x, k1, k2, by rw [on_symm]; exact k3⟩
    obtain ⟨K, x, k1, k2, k3⟩ := key
    exact ⟨K, x, k1, on_trans (m := sc K m) (by rw [on_sc k1]; exact h1) k2, k2, k3⟩
  · exact ⟨1, sc 1 c, by omega, on_trans (m := sc 1 m) (by rw [on_sc (by omega)]; exact h1) (by rw [on_sc (by omega)]; exact h), by rw [on_sc (by omega)]; exact h, on_self _ _⟩
  · exact ⟨1, sc 1 d, by omega, on_trans (m := sc 1 m) (by rw [on_sc (by omega)]; exact h1) (by rw [on_sc (by omega)]; exact h), by rw [on_sc (by omega)]; exact h, on_self2 _ _⟩
  · exact ⟨1, sc 1 a, by omega, on_self _ _, on_self _ _, by rw [on_sc (by omega)]; exact h⟩
  · exact ⟨1, sc 1 m, by omega, by rw [on_sc (by omega)]; exact h1, on_self2 _ _, by rw [on_sc (by omega)]; exact h⟩
/-- Two edges that follow one another have but their corner in common. -/
theorem corner_only {v u x m : P2} (h : NS v u x) (h1 : onP v u m = true) (h2 : onP v x m = true) : m = v := by
  by_cases e : m = v
  · exact e
  · exfalso
    have hp := dt_pos e
    rw [on_dt] at h1 h2
    have i1 : dt v m m * cx v u x = dt v u m * cx v m x + cx v u m * dt v m x := by unfold dt cx crI; grind
    have i2 : cx v m x = - cx v x m := cx_swap2 _ _ _
    have i3 : dt v m m * dt v u x = dt v m u * dt v m x + cx v u m * cx v x m := by unfold dt cx crI; grind
    have i4 : dt m v u = dt v m m - dt v m u := by unfold dt; grind
    have i5 : dt m v x = dt v m m - dt v m x := by unfold dt; grind
    rw [i2, h1.1, h2.1] at i1
    rw [h1.1, h2.1] at i3
    have z : cx v u x = 0 := (pos_iff hp).2.2.1.1 (by omega)
    have hd := (NS_iff _ _ _).1 h z
    have := mul_pp (show 0 < dt v m u by omega) (show 0 < dt v m x by omega)
    have := mul_pn hp hd
    omega
theorem Smp.ne {p : Nat → P2} {n : Nat} (h : Smp p n) (i j : Nat) (h1 : 1 ≤ j) (h2 : j < n) : p (i + j) ≠ p i := by
  intro e
  by_cases c1 : j = 1
  · subst c1
    exact (h.ns i).ne.1 e.symm
  · by_cases c2 : j + 1 = n
    · have := (h.ns (i + j)).ne.1
      rw [show i + j + 1 = i + n by omega, h.per] at this
      exact this e
    · have := h.ap i j (by omega) (by omega)
      rw [e] at this
      have h5 : tcP (p i) (p (i + 1)) (p i) (p (i + j + 1)) = true := by rw [tc_iff]; exact Or.inr (Or.inl (on_self _ _))
      rw [h5] at this; cases this
/-- A point of an edge that is none of its ends lies on no other edge. -/
theorem Smp.inner {p : Nat → P2} {n : Nat} (h : Smp p n) {k : Nat} {m : P2} (hm : onP (p k) (p (k + 1)) m = true) (n1 : m ≠ p k) (n2 : m ≠ p (k + 1)) (j : Nat) (h1 : 1 ≤ j) (h2 : j < n) :
    onP (p (k + j)) (p (k + j + 1)) m = false := by
  rw [← Bool.not_eq_true]
  intro hc
  by_cases c1 : j = 1
  · subst c1
    exact n2 (corner_only (h.ns k) (by rw [on_symm]; exact hm) hc)
  · by_cases c2 : j + 1 = n
    · have hns := h.ns (k + j)
      rw [show k + j + 1 = k + n by omega, h.per, show k + j + 2 = k + 1 + n by omega, h.per] at hns
      rw [show k + j + 1 = k + n by omega, h.per] at hc
      exact n1 (corner_only hns (by rw [on_symm]; exact hc) hm)
    · have := h.ap k j (by omega) (by omega)
      rw [tc_common hm hc] at this; cases this
theorem min_frac (N : Nat) (P : Nat → Prop) (num den : Nat → Int) (hden : ∀ j, P j → 0 < den j) (hex : ∃ j, j < N ∧ P j) : ∃ j, j < N ∧ P j ∧ ∀ i, i < N → P i → num j * den i ≤ num i * den j := by
  induction N with
  | zero => obtain ⟨j, hj, _⟩ := hex; omega
  | succ N ih =>
    by_cases hN : P N
    · by_cases he : ∃ j, j < N ∧ P j
      · obtain ⟨j, hj, hP, hm⟩ := ih he
        by_cases hc : num j * den N ≤ num N * den j
        · exact ⟨j, by omega, hP, fun i hi hPi => by
            by_cases e : i = N
            · subst e; exact hc
            · exact hm i (by omega) hPi⟩
        · refine ⟨N, by omega, hN, fun i hi hPi => ?_⟩
          by_cases e : i = N
          · subst e; exact Int.le_refl _
          · have h1 := hm i (by omega) hPi
            have dj := hden j hP
            have di := hden i hPi
            have dN := hden N hN
            -- num N / den N < num j / den j ≤ num i / den i
            have m1 := Int.mul_le_mul_of_nonneg_right h1 (Int.le_of_lt dN)
            have m2 := Int.mul_le_mul_of_nonneg_right (show num N * den j ≤ num j * den N by omega) (Int.le_of_lt di)
            have : den j * (num N * den i) ≤ den j * (num i * den N) := by
              have e1 : den j * (num N * den i) = num N * den j * den i := by grind
              have e2 : num j * den N * den i = num j * den i * den N := by grind
              have e3 : den j * (num i * den N) = num i * den j * den N := by grind
              omega
            exact (mul_le_iff dj).1.1 this
      · exact ⟨N, by omega, hN, fun i hi hPi => by
          by_cases e : i = N
          · subst e; exact Int.le_refl _
          · exact absurd ⟨i, by omega, hPi⟩ he⟩
    · obtain ⟨j, hj, hP⟩ := hex
      have hj' : j < N := by
        by_cases e : j = N
        · subst e; exact absurd hP hN
        · omega
      obtain ⟨j, hj, hP, hm⟩ := ih ⟨j, hj', hP⟩
      exact ⟨j, by omega, hP, fun i hi hPi => by
        by_cases e : i = N
        · subst e; exact absurd hPi hN
        · exact hm i (by omega) hPi⟩
theorem Smp.corner_off {p : Nat → P2} {n : Nat} (h : Smp p n) (k j : Nat) (h1 : 1 ≤ j) (h2 : j + 2 ≤ n) : onP (p (k + j)) (p (k + j + 1)) (p k) = false := by
  by_cases c1 : j = 1
  · subst c1
    exact (h.ns k).2
  · rw [← Bool.not_eq_true]
    intro hc
    have := h.ap k j (by omega) h2
    rw [show tcP (p k) (p (k + 1)) (p (k + j)) (p (k + j + 1)) = true from (tc_iff _ _ _ _).2 (Or.inr (Or.inr (Or.inr (Or.inl hc))))] at this
    cases this
theorem Smp.ns' {p : Nat → P2} {n : Nat} (h : Smp p n) (k : Nat) : NS (p k) (p (k + n - 1)) (p (k + 1)) := by
  have h3 := h.n3
  have := h.ns (k + n - 1)
  rwa [show k + n - 1 + 1 = k + n by omega, h.per, show k + n - 1 + 2 = k + 1 + n by omega, h.per] at this
/-- What is known of a point of an edge between its heights. -/
theorem between_y {u v m : P2} (hm : onP u v m = true) (y1 : m.2 ≠ u.2) (y2 : m.2 ≠ v.2) :
    ((u.2 < m.2 ∧ m.2 < v.2) ∨ (v.2 < m.2 ∧ m.2 < u.2)) ∧ cx u v m = 0 ∧ NS m u v := by
  have hb := (on_iff _ _ _).1 hm
  have hy : (u.2 < m.2 ∧ m.2 < v.2) ∨ (v.2 < m.2 ∧ m.2 < u.2) := by omega
  refine ⟨hy, hb.1, (NS_iff _ _ _).2 fun _ => ?_⟩
  unfold dt
  have m1 : (u.1 - m.1) * (v.1 - m.1) ≤ 0 := by
    rcases Int.le_total u.1 v.1 with h | h
    · exact mul_n0 (by omega) (by omega)
    · exact mul_0n (by omega) (by omega)
  have m2 : (u.2 - m.2) * (v.2 - m.2) < 0 := by
    rcases hy with h | h
    · exact mul_np (by omega) (by omega)
    · exact mul_pn (by omega) (by omega)
  omega
theorem same_dir {u v m a : P2} (hm : onP u v m = true) (y1 : m.2 ≠ u.2) (y2 : m.2 ≠ v.2) : (cx u m a = 0 ↔ cx u v a = 0) ∧ (0 < cx u m a ↔ 0 < cx u v a) ∧ (dt u a m < 0 ↔ dt u a v < 0) ∧ (u.2 < m.2 ↔ u.2 < v.2) ∧ u.2 ≠ v.2 := by
  obtain ⟨hy, h0, _⟩ := between_y hm y1 y2
  have e1 : (v.2 - u.2) * cx u m a = (m.2 - u.2) * cx u v a - (a.2 - u.2) * cx u v m := by unfold cx crI; grind
  have e2 : (v.2 - u.2) * dt u a m = (m.2 - u.2) * dt u a v - (a.1 - u.1) * cx u v m + 0 := by unfold dt cx crI; grind
  rw [h0] at e1 e2
  rcases hy with h | h
  · have k1 := pos_iff (x := cx u m a) (show 0 < v.2 - u.2 by omega)
    have k2 := pos_iff (x := cx u v a) (show 0 < m.2 - u.2 by omega)
    have k3 := pos_iff (x := dt u a m) (show 0 < v.2 - u.2 by omega)
    have k4 := pos_iff (x := dt u a v) (show 0 < m.2 - u.2 by omega)
    omega
  · have k1 := pos_iff (x := cx u m a) (show 0 < u.2 - v.2 by omega)
    have k2 := pos_iff (x := cx u v a) (show 0 < u.2 - m.2 by omega)
    have k3 := pos_iff (x := dt u a m) (show 0 < u.2 - v.2 by omega)
    have k4 := pos_iff (x := dt u a v) (show 0 < u.2 - m.2 by omega)
    have e3 : (u.2 - v.2) * cx u m a = (u.2 - m.2) * cx u v a := by grind
    have e4 : (u.2 - v.2) * dt u a m = (u.2 - m.2) * dt u a v := by grind
    omega
theorem cr1_split {u v m q : P2} (hm : onP u v m = true) (y1 : m.2 ≠ u.2) (y2 : m.2 ≠ v.2) (hq : q.2 = m.2) : cr1 u v q = cr1 u m q + cr1 m v q := by
  obtain ⟨hy, h0, _⟩ := between_y hm y1 y2
  have e1 : cx u v q = -((v.2 - u.2) * (q.1 - m.1)) := by
    have : cx u v q = cx u v m + (v.1 - u.1) * (q.2 - m.2) - (v.2 - u.2) * (q.1 - m.1) := by unfold cx crI; grind
    rw [this, h0, hq]; simp
  have e2 : cx m v q = -((v.2 - m.2) * (q.1 - m.1)) := by unfold cx crI; rw [hq]; simp
  have e3 : cx u m q = -((m.2 - u.2) * (q.1 - m.1)) := by
    have : cx u m q = (m.1 - u.1) * (q.2 - m.2) - (m.2 - u.2) * (q.1 - m.1) := by unfold cx crI; grind
    rw [this, hq]; simp
  unfold cr1
  rw [e1, e2, e3, hq]
  rcases hy with h | h
  · have k1 := pos_iff (x := q.1 - m.1) (show 0 < v.2 - u.2 by omega)
    have k2 := pos_iff (x := q.1 - m.1) (show 0 < v.2 - m.2 by omega)
    repeat' split
    all_goals omega
  · have k1 := pos_iff (x := q.1 - m.1) (show 0 < u.2 - v.2 by omega)
    have k3 := pos_iff (x := q.1 - m.1) (show 0 < u.2 - m.2 by omega)
    have f1 : (v.2 - u.2) * (q.1 - m.1) = -((u.2 - v.2) * (q.1 - m.1)) := by grind
    have f3 : (m.2 - u.2) * (q.1 - m.1) = -((u.2 - m.2) * (q.1 - m.1)) := by grind
    rw [f1, f3]
    repeat' split
    all_goals omega
/-- The number of the passings at a point that sees a point of an edge at its height. -/
theorem Smp.wn_edge {p : Nat → P2} {n : Nat} (h : Smp p n) (k : Nat) {m q : P2} (hm : onP (p k) (p (k + 1)) m = true) (y1 : m.2 ≠ (p k).2) (y2 : m.2 ≠ (p (k + 1)).2) (hq : q.2 = m.2) (hx : q.1 ≠ m.1)
    (hfar : ∀ j, 1 ≤ j → j + 1 ≤ n → tcP m q (p (k + j)) (p (k + j + 1)) = false) : wn p n q = WW p n 0 ∨ wn p n q = WW p n 0 - 1 := by
  have h3 := h.n3
  obtain ⟨l, rfl⟩ : ∃ l, n = l + 2 := ⟨n - 2, by omega⟩
  have hp : p (k + (l + 2)) = p k := h.per k
  have hns := h.ns' k
  rw [show k + (l + 2) - 1 = k + 1 + l by omega] at hns
  have bm := between_y hm y1 y2
  have sd := same_dir (a := p (k + 1 + l)) hm y1 y2
  -- all sums
  have e0 : wn p (l + 2) q = cr1 (p k) (p (k + 1)) q + sumTo (fun j => cr1 (p (k + 1 + j)) (p (k + 1 + j + 1)) q) (l + 1) := by
    unfold wn
    rw [← sumTo_turn (f := fun k => cr1 (p k) (p (k + 1)) q) (fun k => by rw [h.per, show k + (l + 2) + 1 = k + 1 + (l + 2) by omega, h.per]) k, sumTo_front]
    rw [sumTo_congr (f := fun j => cr1 (p (k + (j + 1))) (p (k + (j + 1) + 1)) q) (g := fun j => cr1 (p (k + 1 + j)) (p (k + 1 + j + 1)) q) fun j _ => by rw [show k + (j + 1) = k + 1 + j by omega]]
    simp only [Nat.add_zero]
  have e2 := cr_sum (p := p) (a := m) (b := q) (s := k + 1) (m := l + 1) fun j hj => by
    have := hfar (j + 1) (by omega) (by omega)
    rwa [show k + (j + 1) = k + 1 + j by omega] at this
  rw [show k + 1 + (l + 1) = k + (l + 2) by omega, hp] at e2
  have eC : CC p (l + 2) k = sumTo (fun j => cr1 (p (k + 1 + j)) (p (k + 1 + j + 1)) (p k)) l := by
    unfold CC
    rw [show l + 2 - 2 = l by omega]
    exact sumTo_congr fun j _ => by rw [show k + 2 + j = k + 1 + j + 1 by omega]
  have e3 := cr_sum (p := p) (a := p k) (b := m) (s := k + 1) (m := l) fun j hj => by
    rw [← Bool.not_eq_true]
    intro hc
    obtain ⟨K, x, k1, k2, k3, k4⟩ := tc_sub hm hc
    by_cases ex : x = sc K (p k)
    · subst ex
      rw [on_sc k1] at k4
      have := h.corner_off k (j + 1) (by omega) (by omega)
      rw [show k + (j + 1) = k + 1 + j by omega, k4] at this
      cases this
    · have hv : x ≠ sc K (p (k + 1)) := fun e => by
        subst e
        rw [on_sc k1] at k3
        have := (on_iff _ _ _).1 k3
        omega
      have := (h.scaled k1).inner (k := k) k2 ex hv (j + 1) (by omega) (by omega)
      rw [show k + (j + 1) = k + 1 + j by omega, k4] at this
      cases this
  have eM : sumTo (fun j => cr1 (p (k + 1 + j)) (p (k + 1 + j + 1)) m) (l + 1) = sumTo (fun j => cr1 (p (k + 1 + j)) (p (k + 1 + j + 1)) m) l + cr1 (p (k + 1 + l)) (p k) m := by
    simp only [sumTo]
    rw [show k + 1 + l + 1 = k + (l + 2) by omega, hp]
  -- at m
  have nu : NS m (p k) q := (NS_iff _ _ _).2 fun h0 => by
    have : cx m (p k) q = -(((p k).2 - m.2) * (q.1 - m.1)) := by unfold cx crI; rw [hq]; simp
    rw [this] at h0
    have : ((p k).2 - m.2) * (q.1 - m.1) = 0 := by omega
    rcases Int.mul_eq_zero.1 this with h | h <;> omega
  have nv : NS m (p (k + 1)) q := (NS_iff _ _ _).2 fun h0 => by
    have : cx m (p (k + 1)) q = -(((p (k + 1)).2 - m.2) * (q.1 - m.1)) := by unfold cx crI; rw [hq]; simp
    rw [this] at h0
    have : ((p (k + 1)).2 - m.2) * (q.1 - m.1) = 0 := by omega
    rcases Int.mul_eq_zero.1 this with h | h <;> omega
  have l1 := hh_in nu
  have l2 := hh_in nv
  have l3 := cr1_rev m (p (k + 1)) q
  have l4 := cr1_split hm y1 y2 hq
  -- at the edge's beginning
  have na : NS (p k) (p (k + 1 + l)) m := (NS_iff _ _ _).2 fun h0 => by
    have := (NS_iff _ _ _).1 hns (by have := cx_swap2 (p k) (p (k + 1 + l)) m; have := cx_swap2 (p k) (p (k + 1 + l)) (p (k + 1)); omega)
    omega
  have l5 := hh_in na
  have l6 := hh_out (p := p k) (q := m) (b := p (k + 1)) bm.2.2
  have l7 : cr1 m (p (k + 1)) (p k) = 0 := by
    have z : cx m (p (k + 1)) (p k) = 0 := by
      have z1 := cx_swap (p (k + 1)) m (p k)
      have z2 := cx_rot (p k) (p (k + 1)) m
      have := bm.2.1
      omega
    unfold cr1; rw [z]; simp
  have l8 : hh (p (k + 1 + l)) (p k) m = hh (p (k + 1 + l)) (p k) (p (k + 1)) := by
    have hU : UU (p k) m ↔ UU (p k) (p (k + 1)) := by unfold UU; omega
    have hT : tg (p k) (p (k + 1 + l)) m ↔ tg (p k) (p (k + 1 + l)) (p (k + 1)) := by unfold tg; rw [hU, sd.2.1]
    have hup : up (p k) m = up (p k) (p (k + 1)) := by
      unfold up
      by_cases hc : (p k).2 < m.2
      · rw [if_pos hc, if_pos (sd.2.2.2.1.1 hc)]
      · rw [if_neg hc, if_neg (fun h => hc (sd.2.2.2.1.2 h))]
    have ht : tI (p k) (p (k + 1 + l)) m = tI (p k) (p (k + 1 + l)) (p (k + 1)) := by
      unfold tI
      by_cases hc : tg (p k) (p (k + 1 + l)) m
      · rw [if_pos hc, if_pos (hT.1 hc)]
      · rw [if_neg hc, if_neg (fun h => hc (hT.2 h))]
    unfold hh
    rw [hup, ht]
  have l9 := hh_diff (p k) m (p (k + 1)) q
  have hW : WW p (l + 2) 0 = CC p (l + 2) k + hh (p (k + 1 + l)) (p k) (p (k + 1)) := by
    rw [← h.WW_all k]
    unfold WW
    rw [show k + (l + 2) - 1 = k + 1 + l by omega]
  have := sector (p := m) (a := p k) (b := p (k + 1)) (q := q) nu.ne.1 nv.ne.1 nu.ne.2
  omega
/-- A corner to the right of a point, at its height. -/
def VC (q a : P2) : Prop := a.2 = q.2 ∧ q.1 < a.1
/-- An edge that passes a point's height to its right. -/
def EC (q u v : P2) : Prop := (u.2 < q.2 ∧ q.2 < v.2 ∧ 0 < cx u v q) ∨ (v.2 < q.2 ∧ q.2 < u.2 ∧ cx u v q < 0)
def eN (q u v : P2) : Int := if u.2 < v.2 then cx u v q else - cx u v q
def eD (u v : P2) : Int := if u.2 < v.2 then v.2 - u.2 else u.2 - v.2
theorem cr1_cand {q u v : P2} (h : cr1 u v q ≠ 0) : VC q u ∨ VC q v ∨ EC q u v := by
  have e1 : u.2 = q.2 → cx u v q = -((v.2 - u.2) * (q.1 - u.1)) := fun e => by unfold cx crI; rw [e]; simp
  have e2 : v.2 = q.2 → cx u v q = (q.2 - u.2) * (v.1 - q.1) := fun e => by unfold cx crI; rw [e]; grind
  unfold cr1 at h
  unfold VC EC
  by_cases c1 : u.2 ≤ q.2 ∧ q.2 < v.2 ∧ 0 < cx u v q
  · by_cases c2 : u.2 = q.2
    · have := e1 c2
      have := neg_mul' (x := v.2 - u.2) (y := q.1 - u.1) (by omega)
      left; omega
    · right; right; left; omega
  · rw [if_neg c1] at h
    by_cases c3 : v.2 ≤ q.2 ∧ q.2 < u.2 ∧ cx u v q < 0
    · by_cases c2 : v.2 = q.2
      · have := e2 c2
        have : (q.2 - u.2) * (v.1 - q.1) < 0 := by omega
        have := neg_mul' this
        right; left; omega
      · right; right; right; omega
    · rw [if_neg c3] at h; exact absurd rfl h
/-- The nearest touch: if the way from a point to the right, up to m, meets an edge, then m lies on it. -/
theorem touch_m {q u v m : P2} {K N : Int} (hK : 0 < K) (hN : 0 < N) (hm : m = (K * q.1 + N, K * q.2)) (hoff : onP u v q = false)
    (hu : VC q u → N ≤ (u.1 - q.1) * K) (hv : VC q v → N ≤ (v.1 - q.1) * K) (he : EC q u v → N * eD u v ≤ eN q u v * K)
    (h : tcP m (sc K q) (sc K u) (sc K v) = true) : onP (sc K u) (sc K v) m = true := by
  have hk := mul_pp hK hK
  have end_ : ∀ a : P2, onP u v a = true → (VC q a → N ≤ (a.1 - q.1) * K) → onP m (sc K q) (sc K a) = true → m = sc K a := fun a ha hc h => by
    have hb := (on_iff _ _ _).1 h
    subst hm
    simp only [sc] at hb
    have ey : a.2 = q.2 := by
      have : K * a.2 = K * q.2 := by omega
      exact Int.eq_of_mul_eq_mul_left (by omega) this
    have ex : q.1 ≤ a.1 := (mul_le_iff hK).1.1 (by omega)
    have nx : q.1 ≠ a.1 := fun e => by
      rw [show a = q from Prod.ext e.symm ey, hoff] at ha; cases ha
    have := hc ⟨ey, by omega⟩
    have e : (a.1 - q.1) * K = K * a.1 - K * q.1 := by grind
    exact Prod.ext (by simp only [sc]; omega) (by simp only [sc]; omega)
  rw [tc_iff] at h
  rcases h with ⟨p1, p2⟩ | h | h | h | h
  · exfalso
    have f1 : ∀ x : P2, cx m (sc K q) (sc K x) = -(N * K) * (x.2 - q.2) := fun x => by subst hm; unfold cx crI sc; grind
    have f2 : cx (sc K u) (sc K v) m = K * (K * cx u v q - N * (v.2 - u.2)) := by subst hm; unfold cx crI sc; grind
    rw [f1, f1] at p1
    rw [cx_sc, f2] at p2
    have p1' : (u.2 - q.2) * (v.2 - q.2) < 0 := by
      have e : -(N * K) * (u.2 - q.2) * (-(N * K) * (v.2 - q.2)) = (N * K) * (N * K) * ((u.2 - q.2) * (v.2 - q.2)) := by grind
      rw [e] at p1
      exact (pos_iff (mul_pp (mul_pp hN hK) (mul_pp hN hK))).2.1.1 p1
    have p2' : (K * cx u v q - N * (v.2 - u.2)) * cx u v q < 0 := by
      have e : K * (K * cx u v q - N * (v.2 - u.2)) * (K * K * cx u v q) = K * (K * K) * ((K * cx u v q - N * (v.2 - u.2)) * cx u v q) := by grind
      rw [e] at p2
      exact (pos_iff (mul_pp hK hk)).2.1.1 p2
    have p2' := neg_mul' p2'
    have kc := pos_iff (x := cx u v q) hK
    rcases neg_mul' p1' with ⟨a1, a2⟩ | ⟨a1, a2⟩
    · -- downwards
      have nd := pos_iff (x := u.2 - v.2) hN
      have e : N * (v.2 - u.2) = -(N * (u.2 - v.2)) := by grind
      rcases p2' with ⟨b1, b2⟩ | ⟨b1, b2⟩
      · have := he (Or.inr ⟨by omega, by omega, b2⟩)
        unfold eN eD at this
        rw [if_neg (by omega), if_neg (by omega)] at this
        have e2 : -cx u v q * K = -(K * cx u v q) := by grind
        omega
      · omega
    · have nd := pos_iff (x := v.2 - u.2) hN
      rcases p2' with ⟨b1, b2⟩ | ⟨b1, b2⟩
      · omega
      · have := he (Or.inl ⟨by omega, by omega, b2⟩)
        unfold eN eD at this
        rw [if_pos (by omega), if_pos (by omega)] at this
        have e2 : cx u v q * K = K * cx u v q := by grind
        omega
  · rw [end_ u (on_self _ _) hu h]; exact on_self _ _
  · rw [end_ v (on_self2 _ _) hv h]; exact on_self2 _ _
  · exact h
  · rw [on_sc hK, hoff] at h; cases h
/-- The passings at a point off the way. -/
theorem Smp.wn_off {p : Nat → P2} {n : Nat} (h : Smp p n) {q : P2} (hoff : ∀ k, onP (p k) (p (k + 1)) q = false) : wn p n q = 0 ∨ wn p n q = 2 * WW p n 0 - 1 := by
  have h3 := h.n3
  by_cases hex : ∃ j, j < 2 * n ∧ (if j % 2 = 0 then VC q (p (j / 2)) else EC q (p (j / 2)) (p (j / 2 + 1)))
  · obtain ⟨j, hj, hP, hmin⟩ := min_frac (2 * n) (fun j => if j % 2 = 0 then VC q (p (j / 2)) else EC q (p (j / 2)) (p (j / 2 + 1)))
      (fun j => if j % 2 = 0 then (p (j / 2)).1 - q.1 else eN q (p (j / 2)) (p (j / 2 + 1))) (fun j => if j % 2 = 0 then 1 else eD (p (j / 2)) (p (j / 2 + 1)))
      (fun j hj => by
        by_cases c : j % 2 = 0
        · simp [c]
        · simp only [c, if_false] at hj ⊢
          unfold EC at hj; unfold eD; split <;> omega) hex
    -- the least fraction N / K
    have vmin : ∀ i, VC q (p i) → (if j % 2 = 0 then (p (j / 2)).1 - q.1 else eN q (p (j / 2)) (p (j / 2 + 1))) * 1 ≤ ((p i).1 - q.1) * (if j % 2 = 0 then 1 else eD (p (j / 2)) (p (j / 2 + 1))) := fun i hi => by
      rw [h.mod i] at hi ⊢
      have hlt : i % n < n := Nat.mod_lt _ (by omega)
      have := hmin (2 * (i % n)) (by omega) (by simp only [show 2 * (i % n) % 2 = 0 by omega, if_true, show 2 * (i % n) / 2 = i % n by omega]; exact hi)
      simpa only [show 2 * (i % n) % 2 = 0 by omega, if_true, show 2 * (i % n) / 2 = i % n by omega] using this
    have per1 : ∀ i, p (i + 1) = p (i % n + 1) := fun i => by
      have := h.per' (i % n + 1) (i / n)
      rw [← this]
      congr 1
      have := Nat.mod_add_div i n
      rw [Nat.mul_comm] at this
      omega
    have emin : ∀ i, EC q (p i) (p (i + 1)) → (if j % 2 = 0 then (p (j / 2)).1 - q.1 else eN q (p (j / 2)) (p (j / 2 + 1))) * eD (p i) (p (i + 1)) ≤ eN q (p i) (p (i + 1)) * (if j % 2 = 0 then 1 else eD (p (j / 2)) (p (j / 2 + 1))) := fun i hi => by
      rw [per1 i, h.mod i] at hi ⊢
      have hlt : i % n < n := Nat.mod_lt _ (by omega)
      have := hmin (2 * (i % n) + 1) (by omega) (by simp only [show ¬ (2 * (i % n) + 1) % 2 = 0 by omega, if_false, show (2 * (i % n) + 1) / 2 = i % n by omega]; exact hi)
      simpa only [show ¬ (2 * (i % n) + 1) % 2 = 0 by omega, if_false, show (2 * (i % n) + 1) / 2 = i % n by omega] using this
    generalize hk : j / 2 = k at *
    have w01 := h.WW_01
    by_cases c : j % 2 = 0
    · -- a corner
      simp only [c, if_true] at hP vmin emin
      have hN : 0 < (p k).1 - q.1 := by unfold VC at hP; omega
      have hm1 : p k = (1 * q.1 + ((p k).1 - q.1), 1 * q.2) := Prod.ext (by simp only; omega) (by have := hP.1; simp only; omega)
      have s1 : ∀ x : P2, sc 1 x = x := fun x => by unfold sc; simp
      have far : ∀ i, tcP (p k) q (p i) (p (i + 1)) = true → onP (p i) (p (i + 1)) (p k) = true := fun i ht => by
        have := touch_m (u := p i) (v := p (i + 1)) (by omega) hN hm1 (hoff i) (fun hv => by have := vmin i hv; omega) (fun hv => by have := vmin (i + 1) hv; omega) (fun hv => by have := emin i hv; omega) (by rw [s1, s1, s1]; exact ht)
        rwa [s1, s1] at this
      have nsq : ∀ a : P2, onP (p k) a q = false → (VC q a → (p k).1 - q.1 ≤ a.1 - q.1) → a ≠ p k → a ≠ q → NS (p k) a q := fun a h1 h2 h3 h4 => by
        refine ⟨h1, ?_⟩
        rw [← Bool.not_eq_true]
        intro hc
        have hb := (on_iff _ _ _).1 hc
        have hy := hP.1
        have hx := hP.2
        have ey : a.2 = q.2 := by omega
        have nx : q.1 ≠ a.1 := fun e => h4 (Prod.ext e.symm ey)
        have := h2 ⟨ey, by omega⟩
        exact h3 (Prod.ext (by omega) (by omega))
      have hs := h.ns' k
      have o1 := hoff k
      have o2 := hoff (k + n - 1)
      rw [show k + n - 1 + 1 = k + n by omega, h.per] at o2
      have nq : ∀ i, p i ≠ q := fun i e => by have := hoff i; rw [e, on_self] at this; cases this
      have := h.wn_sees01 k q (nsq _ (by rw [on_symm]; exact o2) (fun hv => by have := vmin _ hv; omega) hs.ne.1 (nq _)) (nsq _ o1 (fun hv => by have := vmin _ hv; omega) hs.ne.2 (nq _))
        (fun i h1 h2 => by
          rw [← Bool.not_eq_true]
          intro hc
          have := far (k + i) hc
          rw [h.corner_off k i h1 h2] at this
          cases this)
      omega
    · -- within an edge
      simp only [c, if_false] at hP vmin emin
      have hK : 0 < eD (p k) (p (k + 1)) := by unfold EC at hP; unfold eD; split <;> omega
      have hN : 0 < eN q (p k) (p (k + 1)) := by
        unfold EC at hP; unfold eN
        split <;> omega
      generalize eD0 : eD (p k) (p (k + 1)) = K at *
      generalize eN0 : eN q (p k) (p (k + 1)) = N at *
      have hm : onP (sc K (p k)) (sc K (p (k + 1))) (K * q.1 + N, K * q.2) = true := by
        have z : cx (sc K (p k)) (sc K (p (k + 1))) (K * q.1 + N, K * q.2) = 0 := by
          have : cx (sc K (p k)) (sc K (p (k + 1))) (K * q.1 + N, K * q.2) = K * (K * cx (p k) (p (k + 1)) q - N * ((p (k + 1)).2 - (p k).2)) := by unfold cx crI sc; grind
          rw [this, ← eD0, ← eN0]
          unfold eD eN
          split
          · grind
          · grind
        refine on_slant (p := sc K (p k)) (a := sc K (p (k + 1))) (by rw [cx_swap2, z]; rfl) ?_ ?_
        · simp only [sc]
          intro e
          have := Int.eq_of_mul_eq_mul_left (by omega) e
          unfold EC at hP; omega
        · simp only [sc]
          have e : (K * (p k).2 - K * q.2) * (K * (p (k + 1)).2 - K * q.2) = K * K * (((p k).2 - q.2) * ((p (k + 1)).2 - q.2)) := by grind
          rw [e]
          refine mul_0n (Int.le_of_lt (mul_pp hK hK)) ?_
          rcases hP with ⟨a1, a2, _⟩ | ⟨a1, a2, _⟩
          · exact mul_n0 (by omega) (by omega)
          · exact mul_0n (by omega) (by omega)
      have yk : ∀ a : P2, a.2 ≠ q.2 → (K * q.2 : Int) ≠ (sc K a).2 := fun a ha e => ha (Int.eq_of_mul_eq_mul_left (by omega) e).symm
      have hy1 : (p k).2 ≠ q.2 := by unfold EC at hP; omega
      have hy2 : (p (k + 1)).2 ≠ q.2 := by unfold EC at hP; omega
      have hs := h.scaled hK
      have := hs.wn_edge k (m := (K * q.1 + N, K * q.2)) (q := sc K q) hm (yk _ hy1) (yk _ hy2) rfl (by simp only [sc]; omega) (fun i h1 h2 => by
        rw [← Bool.not_eq_true]
        intro hc
        have := touch_m (u := p (k + i)) (v := p (k + i + 1)) hK hN rfl (hoff (k + i)) (fun hv => by have := vmin _ hv; omega) (fun hv => by have := vmin _ hv; omega) (fun hv => emin _ hv) hc
        rw [hs.inner (k := k) hm (fun e => yk _ hy1 (congrArg Prod.snd e)) (fun e => yk _ hy2 (congrArg Prod.snd e)) i h1 (by omega)] at this
        cases this)
      rw [wn_sc hK] at this
      have w01' := hs.WW_01
      have eW : WW (fun k => sc K (p k)) n 0 = WW p n 0 := by
        obtain ⟨i, _, hi⟩ := h.top
        have t1 := h.WW_top hi
        have t2 := hs.WW_top (i := i) (fun j => by
          have := hi j
          unfold lexLe at *
          simp only [sc]
          rcases this with h1 | ⟨h1, h2⟩
          · exact Or.inl ((mul_le_iff hK).2.2 h1)
          · exact Or.inr ⟨by rw [h1], (mul_le_iff hK).1.2 h2⟩)
        rw [t1.2, t2.2, cx_sc]
        simp only [(pos_iff (mul_pp hK hK)).1]
      rw [eW] at this
      omega
  · left
    refine sumTo_zero fun k hk => ?_
    by_cases hc : cr1 (p k) (p (k + 1)) q = 0
    · exact hc
    · exfalso
      rcases cr1_cand hc with hv | hv | hv
      · exact hex ⟨2 * k, by omega, by simp only [show 2 * k % 2 = 0 by omega, if_true, show 2 * k / 2 = k by omega]; exact hv⟩
      · rw [h.mod] at hv
        have hlt : (k + 1) % n < n := Nat.mod_lt _ (by omega)
        exact hex ⟨2 * ((k + 1) % n), by omega, by simp only [show 2 * ((k + 1) % n) % 2 = 0 by omega, if_true, show 2 * ((k + 1) % n) / 2 = (k + 1) % n by omega]; exact hv⟩
      · exact hex ⟨2 * k + 1, by omega, by simp only [show ¬ (2 * k + 1) % 2 = 0 by omega, if_false, show (2 * k + 1) / 2 = k by omega]; exact hv⟩
end Go.Proofs.Ythflkkkpggaalaa.J
