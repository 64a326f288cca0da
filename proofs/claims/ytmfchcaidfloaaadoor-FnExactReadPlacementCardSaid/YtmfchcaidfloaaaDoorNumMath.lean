/- Canonical decimal numerals of at most 18 digits: what spec reads, and that strconv reads the same of them. -/
import Derived.Test.YtmfchcaidfloaaaDoorK15
import Derived.Lib.ParseIntB
import Derived.Lib.Strings
namespace Go.Proofs.YtmfchcaidfloaaaDoor

def isD (c : UInt8) : Bool := decide (48 ≤ (c.toNat : Int)) && decide ((c.toNat : Int) ≤ 57)
def dV (c : UInt8) : Nat := c.toNat - 48
def valF (acc : Nat) (l : List UInt8) : Nat := l.foldl (fun a c => 10 * a + dV c) acc
/-- The text behind the sign. -/
def tailD (l : List UInt8) : List UInt8 := if l.head? = some 45 then l.tail else l
def okNum (l : List UInt8) : Bool := decide (tailD l ≠ []) && decide ((tailD l).length ≤ 18) && !(decide ((tailD l).head? = some 48) && decide (1 < l.length)) && (tailD l).all isD
/-- The number with the numeral l, if l is one of at most 18 digits. -/
def numI (l : List UInt8) : Option Int := if okNum l then some (if l.head? = some 45 then -(valF 0 (tailD l) : Int) else valF 0 (tailD l)) else none

theorem isD_iff (c : UInt8) : isD c = true ↔ 48 ≤ c.toNat ∧ c.toNat ≤ 57 := by
  unfold isD
  rw [Bool.and_eq_true, decide_eq_true_eq, decide_eq_true_eq]
  omega
theorem valF_one (c : UInt8) : valF 0 [c] = dV c := by simp [valF]
theorem all_one1 {c : UInt8} (h : isD c = true) : [c].all isD = true := by rw [List.all_cons, h]; rfl
theorem dV_le {c : UInt8} (h : isD c = true) : dV c ≤ 9 := by rw [isD_iff] at h; unfold dV; omega
theorem valF_snoc (acc : Nat) (l : List UInt8) (c : UInt8) : valF acc (l ++ [c]) = 10 * valF acc l + dV c := by
  unfold valF; rw [List.foldl_append, List.foldl_cons, List.foldl_nil]
theorem valF_cons (acc : Nat) (c : UInt8) (l : List UInt8) : valF acc (c :: l) = valF (10 * acc + dV c) l := by
  unfold valF; rw [List.foldl_cons]
theorem valF_le : ∀ (l : List UInt8) (acc : Nat), acc ≤ valF acc l
  | [], acc => Nat.le_refl _
  | c :: l, acc => by rw [valF_cons]; have := valF_le l (10 * acc + dV c); omega
theorem valF_lt : ∀ (l : List UInt8) (acc : Nat), l.all isD = true → valF acc l < (acc + 1) * 10 ^ l.length
  | [], acc, _ => by simp [valF]
  | c :: l, acc, h => by
    simp only [List.all_cons, Bool.and_eq_true] at h
    rw [valF_cons, List.length_cons, Nat.pow_succ]
    have h1 := valF_lt l (10 * acc + dV c) h.2
    have h2 := dV_le h.1
    have h3 : (10 * acc + dV c + 1) * 10 ^ l.length ≤ (10 * (acc + 1)) * 10 ^ l.length := Nat.mul_le_mul_right _ (by omega)
    have h4 : (10 * (acc + 1)) * 10 ^ l.length = (acc + 1) * (10 ^ l.length * 10) := by
      rw [Nat.mul_comm 10 (acc + 1), Nat.mul_assoc, Nat.mul_comm 10]
    omega
theorem val_18 (l : List UInt8) (h : l.all isD = true) (hl : l.length ≤ 18) : valF 0 l < 1000000000000000000 := by
  have h1 := valF_lt l 0 h
  have h2 : 10 ^ l.length ≤ 10 ^ 18 := Nat.pow_le_pow_right (by omega) hl
  omega

theorem byte_back {c : UInt8} (h : isD c = true) : UInt8.ofNat (48 + dV c) = c := by
  rw [isD_iff] at h
  unfold dV
  rw [show 48 + (c.toNat - 48) = c.toNat by omega]
  exact UInt8.ofNat_toNat
theorem dV_ofNat (k : Nat) (h : k < 10) : dV (UInt8.ofNat (48 + k)) = k := by
  unfold dV; rw [UInt8.toNat_ofNat']; omega
theorem isD_ofNat (k : Nat) (h : k < 10) : isD (UInt8.ofNat (48 + k)) = true := by
  rw [isD_iff, UInt8.toNat_ofNat']; omega

/-- Digits, the first of which is no 0, are the numeral of their value. -/
theorem dec_val (l : List UInt8) (hl : l ≠ []) (hd : l.all isD = true) (hh : l.head? ≠ some 48 ∨ l.length = 1) : Lib.decDigits (valF 0 l) = l ∧ (l.head? ≠ some 48 → 1 ≤ valF 0 l) := by
  induction hn : l.length generalizing l with
  | zero => exact absurd (List.eq_nil_of_length_eq_zero hn) hl
  | succ n ih =>
    obtain ⟨b, c, rfl⟩ : ∃ b c, l = b ++ [c] := ⟨l.dropLast, l.getLast hl, (List.dropLast_concat_getLast hl).symm⟩
    simp only [List.all_append, List.all_cons, List.all_nil, Bool.and_true, Bool.and_eq_true] at hd
    rw [valF_snoc]
    have h9 := dV_le hd.2
    by_cases hb : b = []
    · subst hb
      simp only [valF, List.foldl_nil, Nat.mul_zero, Nat.zero_add, List.nil_append]
      refine ⟨by rw [Lib.decDigits_one (by omega), byte_back hd.2], fun h => ?_⟩
      have : c ≠ 48 := by simpa using h
      have h2 := (isD_iff c).1 hd.2
      have h3 : c.toNat ≠ 48 := fun e => this (by rw [← UInt8.toNat_inj]; exact e)
      unfold dV; omega
    · have hbh : (b ++ [c]).head? = b.head? := by cases b <;> simp_all
      have hb48 : b.head? ≠ some 48 := by
        rcases hh with hh | hh
        · rw [← hbh]; exact hh
        · simp at hh; exact absurd hh hb
      obtain ⟨i1, i2⟩ := ih b hb hd.1 (Or.inl hb48) (by simp at hn; exact hn)
      have h1 := i2 hb48
      refine ⟨?_, fun _ => by omega⟩
      rw [Lib.decDigits, dif_neg (by omega), show (10 * valF 0 b + dV c) / 10 = valF 0 b by omega, show (10 * valF 0 b + dV c) % 10 = dV c by omega, i1, byte_back hd.2]

theorem val_dec (m : Nat) : valF 0 (Lib.decDigits m) = m ∧ (Lib.decDigits m).all isD = true ∧ Lib.decDigits m ≠ [] ∧ ((Lib.decDigits m).head? = some 48 → m = 0) := by
  induction m using Nat.strongRecOn with
  | _ m ih =>
    by_cases h : m < 10
    · rw [Lib.decDigits_one h]
      refine ⟨by rw [valF_one, dV_ofNat m h], all_one1 (isD_ofNat m h), by simp, fun e => ?_⟩
      simp only [List.head?_cons, Option.some.injEq] at e
      have := congrArg UInt8.toNat e
      rw [UInt8.toNat_ofNat'] at this
      simp at this; omega
    · rw [Lib.decDigits, dif_neg h]
      obtain ⟨i1, i2, i3, i4⟩ := ih (m / 10) (by omega)
      refine ⟨by rw [valF_snoc, i1, dV_ofNat _ (by omega)]; omega, by rw [List.all_append, i2, all_one1 (isD_ofNat (m % 10) (by omega))]; rfl, by simp, fun e => ?_⟩
      have : (Lib.decDigits (m / 10) ++ [UInt8.ofNat (48 + m % 10)]).head? = (Lib.decDigits (m / 10)).head? := by
        cases hd : Lib.decDigits (m / 10) with
        | nil => exact absurd hd i3
        | cons a r => rfl
      rw [this] at e
      have := i4 e
      omega

theorem tail_itoa_neg (m : Nat) : tailD (45 :: Lib.decDigits m) = Lib.decDigits m := by unfold tailD; simp
theorem head_dec (m : Nat) : (Lib.decDigits m).head? ≠ some 45 := by
  obtain ⟨_, h2, h3, _⟩ := val_dec m
  cases hd : Lib.decDigits m with
  | nil => exact absurd hd h3
  | cons a r =>
    rw [hd] at h2
    simp only [List.all_cons, Bool.and_eq_true] at h2
    have := (isD_iff a).1 h2.1
    intro e
    simp only [List.head?_cons, Option.some.injEq] at e
    subst e
    simp at this
theorem tail_itoa_pos (m : Nat) : tailD (Lib.decDigits m) = Lib.decDigits m := by unfold tailD; rw [if_neg (head_dec m)]

/-- What spec reads of a numeral of at most 18 digits. -/
theorem num_itoa (n : Int) (h : (tailD (Lib.itoa n)).length ≤ 18) : numI (Lib.itoa n) = some n := by
  unfold Lib.itoa at *
  by_cases hn : n < 0
  · rw [if_pos hn] at *
    rw [tail_itoa_neg] at h
    obtain ⟨h1, h2, h3, h4⟩ := val_dec n.natAbs
    have h5 : (Lib.decDigits n.natAbs).head? ≠ some 48 := fun e => by have := h4 e; omega
    have ok : okNum (45 :: Lib.decDigits n.natAbs) = true := by simp [okNum, tail_itoa_neg, h3, h, h2, h5]
    rw [numI, if_pos ok, tail_itoa_neg, h1]
    simp; omega
  · rw [if_neg hn] at *
    rw [tail_itoa_pos] at h
    obtain ⟨h1, h2, h3, h4⟩ := val_dec n.toNat
    have h5 : (Lib.decDigits n.toNat).head? = some 48 → (Lib.decDigits n.toNat).length = 1 := fun e => by
      have := h4 e
      rw [this, Lib.decDigits_one (by omega)]; rfl
    have ok : okNum (Lib.decDigits n.toNat) = true := by
      by_cases e : (Lib.decDigits n.toNat).head? = some 48
      · have := h5 e
        simp [okNum, tail_itoa_pos, h3, h2, this]
      · simp [okNum, tail_itoa_pos, h3, h, h2, e]
    rw [numI, if_pos ok, tail_itoa_pos, h1, if_neg (head_dec _)]
    simp; omega

theorem parse_ok : ∀ (l : List UInt8) (acc M : Nat), l.all isD = true → valF acc l < 1000000000000000000 → 1000000000000000000 ≤ M → Lib.parseUintM M acc l = .ok (valF acc l)
  | [], acc, M, _, _, _ => rfl
  | c :: l, acc, M, hd, hv, hM => by
    simp only [List.all_cons, Bool.and_eq_true] at hd
    have h1 := (isD_iff c).1 hd.1
    rw [valF_cons] at hv ⊢
    have h2 := valF_le l (10 * acc + dV c)
    have e : acc * 10 + (c.toNat - 48) = 10 * acc + dV c := by unfold dV; omega
    rw [Lib.parseUintM, if_pos h1, if_neg (by omega), e, if_neg (by omega)]
    exact parse_ok l _ M hd.2 hv hM

/-- Of what spec reads strconv reads the same, and writes it back. -/
theorem num_some (l : List UInt8) (n : Int) (h : numI l = some n) : (tailD l).length ≤ 18 ∧ Lib.parseIntB 64 l = .ok n ∧ Lib.itoa n = l ∧ -1000000000000000000 < n ∧ n < 1000000000000000000 := by
  unfold numI at h
  split at h
  · rename_i ok
    simp only [okNum, Bool.and_eq_true, decide_eq_true_eq, Bool.not_eq_true', Bool.and_eq_false_iff, decide_eq_false_iff_not] at ok
    obtain ⟨⟨⟨k1, k2⟩, k3⟩, k4⟩ := ok
    have hv := val_18 _ k4 k2
    have hp := parse_ok (tailD l) 0 18446744073709551615 k4 hv (by omega)
    cases l with
    | nil => exact absurd rfl k1
    | cons c r =>
      by_cases hc : c = 45
      · subst hc
        have e : tailD (45 :: r) = r := by unfold tailD; simp
        rw [e] at h k1 k2 k3 k4 hv hp ⊢
        simp only [List.head?_cons, if_true, Option.some.injEq] at h
        have hr : r.head? ≠ some 48 := by
          rcases k3 with k3 | k3
          · exact k3
          · cases r with
            | nil => exact absurd rfl k1
            | cons a r => simp at k3
        obtain ⟨g1, g2⟩ := dec_val r k1 k4 (Or.inl hr)
        have g3 := g2 hr
        subst h
        refine ⟨k2, ?_, ?_, by omega, by omega⟩
        · have e45 : (45 : UInt8).toNat = 45 := rfl
          have hpu : Lib.parseUintB 64 r = .ok (valF 0 r) := by rw [Lib.parseUintB, if_neg k1]; exact hp
          simp only [Lib.parseIntB, e45, or_true, if_true, hpu]
          rw [if_neg (by simp), if_neg (by omega)]
        · unfold Lib.itoa
          rw [if_pos (by omega), Int.natAbs_neg, Int.natAbs_natCast, g1]
      · have e : tailD (c :: r) = c :: r := by unfold tailD; simp [hc]
        rw [e] at h k1 k2 k3 k4 hv hp ⊢
        simp only [List.head?_cons, Option.some.injEq, hc, if_false] at h
        have hr : (c :: r).head? ≠ some 48 ∨ (c :: r).length = 1 := by
          rcases k3 with k3 | k3
          · exact Or.inl k3
          · right; simp at k3 ⊢; exact k3
        obtain ⟨g1, g2⟩ := dec_val (c :: r) k1 k4 hr
        subst h
        simp only [List.all_cons, Bool.and_eq_true] at k4
        have hcd := (isD_iff c).1 k4.1
        refine ⟨k2, ?_, ?_, by omega, by omega⟩
        · have hpu : Lib.parseUintB 64 (c :: r) = .ok (valF 0 (c :: r)) := by rw [Lib.parseUintB, if_neg k1]; exact hp
          simp only [Lib.parseIntB]
          rw [if_neg (by omega : ¬ (c.toNat = 43 ∨ c.toNat = 45)), hpu]
          simp only
          rw [if_neg (by omega), if_neg (by omega), if_neg (by omega)]
        · unfold Lib.itoa
          rw [if_neg (by omega), Int.toNat_natCast, g1]
  · cases h
/-- What strconv reads and writes back within 18 digits, spec reads. -/
theorem num_none (l : List UInt8) (n : Int) (h : numI l = none) (hl : (tailD l).length ≤ 18) : Lib.itoa n ≠ l := by
  intro e
  have := num_itoa n (by rw [e]; exact hl)
  rw [e, h] at this
  cases this
theorem parse_bd (l : List UInt8) (n : Int) (h : Lib.parseIntB 64 l = .ok n) : -9223372036854775808 ≤ n ∧ n ≤ 9223372036854775807 := by
  cases l with
  | nil => cases h
  | cons c r =>
    simp only [Lib.parseIntB] at h
    generalize Lib.parseUintB 64 (if c.toNat = 43 ∨ c.toNat = 45 then r else c :: r) = x at h
    rcases x with u | _ | _
    all_goals first | cases h | skip
    all_goals
      simp only at h
      split at h
      · cases h
      · split at h
        · cases h
        · rename_i h1 h2
          have := Lib.NumEnd.ok.inj h
          subst this
          by_cases hc : c.toNat = 45 <;> simp [hc] at h1 h2 ⊢ <;> omega
theorem trim_tail (l : List UInt8) : Lib.trimPrefix l [45] = tailD l := by
  unfold Lib.trimPrefix Lib.hasPrefix tailD
  cases l with
  | nil => rfl
  | cons c r =>
    by_cases hc : c = 45
    · subst hc; simp
    · have : ¬ (45 = c) := fun e => hc e.symm
      simp [hc, this]
end Go.Proofs.YtmfchcaidfloaaaDoor
