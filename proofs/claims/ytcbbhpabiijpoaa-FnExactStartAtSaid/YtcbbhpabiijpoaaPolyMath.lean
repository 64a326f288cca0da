/- Polygons as lists of points: what a valid one is, its area, its border; plain number theory. -/
import Derived.Test.YtcbbhpabiijpoaaSegMath
import Derived.Test.YtcbbhpabiijpoaaPtImpl
namespace Go.Proofs.Ytcbbhpabiijpoaa

abbrev P2 := Int × Int
/-- The point with an index, going around. -/
def pt (zs : List P2) (k : Nat) : P2 := zs.getD (k % zs.length) (0, 0)
def allTo (f : Nat → Bool) : Nat → Bool
  | 0 => true
  | k + 1 => allTo f k && f k
def sumTo (f : Nat → Int) : Nat → Int
  | 0 => 0
  | k + 1 => sumTo f k + f k
theorem allTo_iff (f : Nat → Bool) (n : Nat) : allTo f n = true ↔ ∀ j, j < n → f j = true := by
  induction n with
  | zero => simp [allTo]
  | succ n ih =>
    simp only [allTo, Bool.and_eq_true, ih]
    constructor
    · rintro ⟨h1, h2⟩ j hj
      rcases Nat.lt_succ_iff_lt_or_eq.1 hj with h | rfl
      · exact h1 j h
      · exact h2
    · intro h
      exact ⟨fun j hj => h j (by omega), h n (by omega)⟩
theorem allTo_bad {f : Nat → Bool} {n k : Nat} (hk : k < n) (h : f k = false) : allTo f n = false := by
  rw [Bool.eq_false_iff]
  intro hc
  rw [(allTo_iff f n).1 hc k hk] at h
  cases h
theorem allTo_ok {f : Nat → Bool} {n : Nat} (h : ∀ j, j < n → f j = true) : allTo f n = true := (allTo_iff f n).2 h
theorem allTo_congr {f g : Nat → Bool} {n : Nat} (h : ∀ j, j < n → f j = g j) : allTo f n = allTo g n := by
  rw [Bool.eq_iff_iff, allTo_iff, allTo_iff]
  exact ⟨fun a j hj => by rw [← h j hj]; exact a j hj, fun a j hj => by rw [h j hj]; exact a j hj⟩
theorem sumTo_bd {f : Nat → Int} {n : Nat} {M : Int} (h : ∀ j, j < n → -M ≤ f j ∧ f j ≤ M) : -(n * M) ≤ sumTo f n ∧ sumTo f n ≤ n * M := by
  induction n with
  | zero => simp [sumTo]
  | succ n ih =>
    have h1 := ih (fun j hj => h j (by omega))
    have h2 := h n (by omega)
    have e : ((n + 1 : Nat) : Int) * M = n * M + M := by rw [Int.natCast_add, Int.add_mul]; simp
    simp only [sumTo]
    omega
theorem sumTo_congr {f g : Nat → Int} {n : Nat} (h : ∀ j, j < n → f j = g j) : sumTo f n = sumTo g n := by
  induction n with
  | zero => rfl
  | succ n ih => simp only [sumTo]; rw [ih (fun j hj => h j (by omega)), h n (by omega)]

def onP (a b p : P2) : Bool := onB a.1 a.2 b.1 b.2 p.1 p.2
def tcP (a b c d : P2) : Bool := tcB a.1 a.2 b.1 b.2 c.1 c.2 d.1 d.2
def crP (a b : P2) : Int := a.1 * b.2 - a.2 * b.1
def okP (a : P2) : Bool := okI a.1 a.2
def eqP (a b : P2) : Bool := decide (a.1 = b.1) && decide (a.2 = b.2)
def goOk (zs : List P2) (k : Nat) : Bool := !(eqP (pt zs k) (pt zs (k + 1)) || onP (pt zs k) (pt zs (k + 1)) (pt zs (k + 2)) || onP (pt zs (k + 1)) (pt zs (k + 2)) (pt zs k))
def cellOk (zs : List P2) (i k : Nat) : Bool := !(decide (i + 2 ≤ k) && decide ((k + 1) % zs.length ≠ i) && tcP (pt zs i) (pt zs (i + 1)) (pt zs k) (pt zs (k + 1)))
def goB (zs : List P2) : Bool := allTo (goOk zs) zs.length
def apB (zs : List P2) : Bool := allTo (fun i => allTo (cellOk zs i) zs.length) zs.length
def areaI (zs : List P2) : Int := sumTo (fun k => crP (pt zs k) (pt zs (k + 1))) zs.length
def polyB (zs : List P2) : Bool := decide (3 ≤ zs.length) && decide (zs.length ≤ 24) && allOk zs && goB zs && apB zs && decide (0 < areaI zs)

theorem eqP_iff (a b : P2) : eqP a b = true ↔ a = b := by
  obtain ⟨a1, a2⟩ := a
  obtain ⟨b1, b2⟩ := b
  simp [eqP]
theorem allOk_at {zs : List P2} (h : allOk zs = true) (k : Nat) (hk : k < zs.length) : okI (zs.getD k (0, 0)).1 (zs.getD k (0, 0)).2 = true := by
  unfold allOk at h
  rw [List.all_eq_true] at h
  have e : zs.getD k (0, 0) = zs[k] := by simp [hk]
  rw [e]
  exact h _ (List.getElem_mem hk)
theorem pt_ok {zs : List P2} (h : allOk zs = true) (h0 : 0 < zs.length) (k : Nat) : okI (pt zs k).1 (pt zs k).2 = true := allOk_at h _ (Nat.mod_lt _ h0)
theorem pt_lt {zs : List P2} {k : Nat} (h : k < zs.length) : pt zs k = zs.getD k (0, 0) := by rw [pt, Nat.mod_eq_of_lt h]
theorem cr_bd {a b : P2} (ha : okI a.1 a.2 = true) (hb : okI b.1 b.2 = true) : -400000000 ≤ crP a b ∧ crP a b ≤ 400000000 := by
  have h1 := ok_bd ha
  have h2 := ok_bd hb
  have m1 := mulB a.1 b.2 20000 20000 (by omega) (by omega) (by omega) (by omega)
  have m2 := mulB a.2 b.1 20000 20000 (by omega) (by omega) (by omega) (by omega)
  have p1 := Int.mul_nonneg (show 0 ≤ a.1 by omega) (show 0 ≤ b.2 by omega)
  have p2 := Int.mul_nonneg (show 0 ≤ a.2 by omega) (show 0 ≤ b.1 by omega)
  unfold crP
  omega
theorem area_bd {zs : List P2} (h : allOk zs = true) (h0 : 0 < zs.length) (k : Nat) : -(k * 400000000) ≤ sumTo (fun k => crP (pt zs k) (pt zs (k + 1))) k ∧ sumTo (fun k => crP (pt zs k) (pt zs (k + 1))) k ≤ k * 400000000 :=
  sumTo_bd fun j _ => cr_bd (pt_ok h h0 j) (pt_ok h h0 (j + 1))
theorem poly_len {zs : List P2} (h : ¬ (3 ≤ zs.length ∧ zs.length ≤ 24)) : polyB zs = false := by
  unfold polyB
  rw [show (decide (3 ≤ zs.length) && decide (zs.length ≤ 24)) = false by simp; omega]
  rfl
theorem poly_ok {zs : List P2} (h : polyB zs = true) : 3 ≤ zs.length ∧ zs.length ≤ 24 ∧ allOk zs = true ∧ goB zs = true ∧ apB zs = true ∧ 0 < areaI zs := by
  unfold polyB at h
  simp only [Bool.and_eq_true, decide_eq_true_eq] at h
  exact ⟨h.1.1.1.1.1, h.1.1.1.1.2, h.1.1.1.2, h.1.1.2, h.1.2, h.2⟩
theorem poly_of {zs : List P2} (h1 : 3 ≤ zs.length) (h2 : zs.length ≤ 24) (h3 : allOk zs = true) : polyB zs = (goB zs && apB zs && decide (0 < areaI zs)) := by
  unfold polyB
  rw [decide_eq_true h1, decide_eq_true h2, h3]
  rfl
theorem poly_bad {zs : List P2} (h3 : allOk zs = false) : polyB zs = false := by
  unfold polyB
  rw [h3]
  simp
end Go.Proofs.Ytcbbhpabiijpoaa
