/- No two edges of a polygon that do not follow one another meet, of impl. -/
import Derived.Test.YtjhmpmaademdcaaK2
namespace Go.Proofs.Ytjhmpmaademdcaa
open Go.ChangeShapes Go.WideShapes Go.ChangeAt Go.RowKit
set_option linter.unusedVariables false

theorem segCs_at (zs : List P2) (pre : List Nat) (j r : Nat) (hj : j < pre.length) (hr : r < 4) : (segCs zs pre)[j * 4 + r]? = (segC zs (pre.getD j 0))[r]? := by
  induction pre generalizing j with
  | nil => simp at hj
  | cons a l ih =>
    have e : segCs zs (a :: l) = segC zs a ++ segCs zs l := by simp [segCs]
    rw [e]
    match j with
    | 0 =>
      rw [List.getElem?_append_left (by simp [segC]; omega)]
      simp
    | j + 1 =>
      rw [List.getElem?_append_right (by simp [segC]; omega)]
      rw [show (j + 1) * 4 + r - (segC zs a).length = j * 4 + r by simp [segC]; omega, ih j (by simpa using hj)]
      simp
/-- The edges of a polygon lie in a row from the start of block g. -/
def SegsAt (w : World) (g : Nat) (zs : List P2) (len : Nat) : Prop := g < w.heap.size ∧ ∀ k, k < len → w.cell? ⟨g, k * 4, none⟩ = some (.int .i64 (pt zs k).1) ∧ w.cell? ⟨g, k * 4 + 1, none⟩ = some (.int .i64 (pt zs k).2) ∧ w.cell? ⟨g, k * 4 + 2, none⟩ = some (.int .i64 (pt zs (k + 1)).1) ∧ w.cell? ⟨g, k * 4 + 3, none⟩ = some (.int .i64 (pt zs (k + 1)).2)
theorem SegsAt.below {B g len : Nat} {w w' : World} {zs : List P2} (h : SegsAt w g zs len) (hb : Below B w w') (hB : g < B) : SegsAt w' g zs len :=
  ⟨Nat.lt_of_lt_of_le h.1 hb.size, fun k hk => by
    obtain ⟨c0, c1, c2, c3⟩ := h.2 k hk
    exact ⟨(hb.cell (p := ⟨g, k * 4, none⟩) hB).trans c0, (hb.cell (p := ⟨g, k * 4 + 1, none⟩) hB).trans c1, (hb.cell (p := ⟨g, k * 4 + 2, none⟩) hB).trans c2, (hb.cell (p := ⟨g, k * 4 + 3, none⟩) hB).trans c3⟩⟩
theorem segsAt_of {w : World} {base len : Nat} {v : Value} {zs : List P2} (h1 : 1 ≤ len) (h : w.ownsRow base 105 4 v len (segCs zs (List.range len))) :
    ∃ g cap, v = .slice (some ⟨g, 0, none⟩) len cap ∧ base ≤ g ∧ len ≤ cap ∧ SegsAt w g zs len := by
  obtain ⟨g, cap, rfl⟩ := ownsRow_succ (k := len - 1) (by rw [show len - 1 + 1 = len by omega]; exact h)
  rw [show len - 1 + 1 = len by omega] at h ⊢
  obtain ⟨hl, ⟨h0, _⟩ | ⟨g', cap', cur, hv, hb, hg, hc1, hc2, hcs, hx⟩⟩ := id h
  · cases h0
  · cases hv
    refine ⟨g, cap, rfl, hb, hc1, (Array.getElem?_eq_some_iff.1 hg).1, fun k hk => ?_⟩
    have key : ∀ r, r < 4 → w.cell? ⟨g, k * 4 + r, none⟩ = (segC zs k)[r]? := fun r hr => by
      have e := segCs_at zs (List.range len) k r (by simpa using hk) hr
      rw [← hx, List.getElem?_take_of_lt (by omega)] at e
      have e2 : (List.range len).getD k 0 = k := by simp [hk]
      rw [e2] at e
      unfold World.cell?
      simp only [hg]
      simpa using e
    exact ⟨key 0 (by omega), key 1 (by omega), key 2 (by omega), key 3 (by omega)⟩
/-- The first index that meets f, or -1. -/
def firstIx (f : Nat → Bool) : Nat → Int
  | 0 => -1
  | n + 1 => if 0 ≤ firstIx f n then firstIx f n else if f n then n else -1
theorem firstIx_none {f : Nat → Bool} {n : Nat} (h : ∀ j, j < n → f j = false) : firstIx f n = -1 := by
  induction n with
  | zero => rfl
  | succ n ih => simp [firstIx, ih (fun j hj => h j (by omega)), h n (by omega)]
theorem firstIx_at {f : Nat → Bool} {k : Nat} (h : ∀ j, j < k → f j = false) (hf : f k = true) : ∀ n, k < n → firstIx f n = k := by
  intro n
  induction n with
  | zero => intro h; omega
  | succ n ih =>
    intro hk
    rcases Nat.lt_succ_iff_lt_or_eq.1 hk with h1 | rfl
    · rw [firstIx, ih h1, if_pos (by omega)]
    · rw [firstIx, firstIx_none h, if_neg (by omega), hf, if_pos rfl]
theorem firstIx_rng (f : Nat → Bool) (n : Nat) : -1 ≤ firstIx f n ∧ firstIx f n < n := by
  induction n with
  | zero => simp [firstIx]
  | succ n ih => simp only [firstIx]; split <;> (try split) <;> omega
def anyTo (f : Nat → Bool) (n : Nat) : Bool := !allTo (fun j => !f j) n
theorem firstIx_ge (f : Nat → Bool) (n : Nat) : decide (0 ≤ firstIx f n) = anyTo f n := by
  unfold anyTo
  induction n with
  | zero => rfl
  | succ n ih =>
    show decide (0 ≤ firstIx f (n + 1)) = !(allTo (fun j => !f j) n && !f n)
    rw [Bool.not_and, ← ih]
    have e : firstIx f (n + 1) = if 0 ≤ firstIx f n then firstIx f n else if f n then n else -1 := rfl
    by_cases h : 0 ≤ firstIx f n
    · rw [e, if_pos h]; simp [h]
    · rw [e, if_neg h]
      cases f n <;> simp [h]
def tcF (zs : List P2) (i s j : Nat) : Bool := tcP (pt zs i) (pt zs (i + 1)) (pt zs (s + j)) (pt zs (s + j + 1))
set_option maxRecDepth 100000 in
set_option maxHeartbeats 2000000 in
theorem indexSeg_any (i s n c len g : Nat) (ao : Option Addr) (zs : List P2) (w : World) (hv : allOk zs = true) (hz : 0 < zs.length) (hn : s + n ≤ len) (hl : len ≤ 24) (ha : n = 0 ∨ ao = some ⟨g, s * 4, none⟩) (hp : SegsAt w g zs len) :
    Calls Try.prog 198 #[.slice ao n c, .func (.func 117) #[segV zs i] #[]] w fun e w' => e = .returned (.int .i64 (firstIx (tcF zs i s) n)) ∧ Below w.heap.size w w' := by
  have HV := Lib.hid hv
  have HP := Lib.hid hp
  have HZ := Lib.hid hz
  clear hv hp hz
  rcases ha with rfl | rfl
  · go_enter Try.func198, Try.ntmps198
    go_wp2
    go_loopw [8] (fun i wr => i = .int .i64 0 ∧ w = wr) (fun i _ => 0)
    case atStart => exact ⟨rfl, rfl⟩
    case round =>
      obtain ⟨rfl, rfl⟩ := hrel
      go_wp2
      go_ret
      exact ⟨rfl, Below.refl _ _⟩
  · go_enter Try.func198, Try.ntmps198
    go_wp2
    go_loopw [8] (fun iv wr => ∃ k : Nat, k ≤ n ∧ iv = .int .i64 k ∧ Hid (∀ j, j < k → tcF zs i s j = false) ∧ Hid (Below w.heap.size w wr)) (fun i _ => n - (intOf i).toNat)
    case atStart => exact ⟨0, by omega, rfl, Lib.hid (fun j hj => absurd hj (by omega)), Lib.hid (Below.refl _ _)⟩
    case round =>
      obtain ⟨k, hk, rfl, hi, hb⟩ := hrel
      by_cases hlt : k < n
      · have hgw : g < wr.heap.size := Nat.lt_of_lt_of_le HP.out.1 hb.out.size
        obtain ⟨c0, c1, c2, c3⟩ := (HP.out.below hb.out HP.out.1).2 (s + k) (by omega)
        have HT := Lib.hid (show tcF zs i s k = tcB (pt zs i).1 (pt zs i).2 (pt zs (i + 1)).1 (pt zs (i + 1)).2 (pt zs (s + k)).1 (pt zs (s + k)).2 (pt zs (s + k + 1)).1 (pt zs (s + k + 1)).2 from rfl)
        have O1 := Lib.hid (pt_ok HV.out HZ.out i)
        have O2 := Lib.hid (pt_ok HV.out HZ.out (i + 1))
        have O3 := Lib.hid (pt_ok HV.out HZ.out (s + k))
        have O4 := Lib.hid (pt_ok HV.out HZ.out (s + k + 1))
        have ea : s * 4 + k * 4 = (s + k) * 4 := by omega
        have ea0 : (⟨g, s * 4 + k * 4, none⟩ : Addr) = ⟨g, (s + k) * 4, none⟩ := by rw [ea]
        unfold segV
        generalize (pt zs i).1 = xa at *
        generalize (pt zs i).2 = ya at *
        generalize (pt zs (i + 1)).1 = xb at *
        generalize (pt zs (i + 1)).2 = yb at *
        generalize (pt zs (s + k)).1 = xc at *
        generalize (pt zs (s + k)).2 = yc at *
        generalize (pt zs (s + k + 1)).1 = xd at *
        generalize (pt zs (s + k + 1)).2 = yd at *
        rw [← ea] at c0 c1 c2 c3
        clear ea ea0
        go_wp2_with fail
        refine (touches_any _ _ _ _ _ _ _ _ _ O1.out O2.out O3.out O4.out).mono ?_
        rintro e w1 ⟨rfl, hb1⟩
        have HB1 := Lib.hid (bseq hb.out hb1)
        clear hb1 c0 c1 c2 c3
        cases hm : tcB xa ya xb yb xc yc xd yd
        · rw [hm] at HT
          go_wp2
          go_roundw
          case rel => exact ⟨k + 1, by omega, by go_num, Lib.hid (fun j hj => (Nat.lt_succ_iff_lt_or_eq.1 hj).elim (hi.out j) (fun e => e ▸ HT.out)), HB1⟩
          case measure => simp [intOf]; omega
        · rw [hm] at HT
          go_wp2
          go_ret
          exact ⟨ret_int (firstIx_at hi.out HT.out n hlt).symm, HB1.out⟩
      · obtain rfl : k = n := by omega
        go_wp2
        go_ret
        exact ⟨ret_int (firstIx_none hi.out).symm, hb.out⟩
theorem hasSeg_any (i s n c len g : Nat) (ao : Option Addr) (zs : List P2) (w : World) (hv : allOk zs = true) (hz : 0 < zs.length) (hn : s + n ≤ len) (hl : len ≤ 24) (ha : n = 0 ∨ ao = some ⟨g, s * 4, none⟩) (hp : SegsAt w g zs len) :
    Calls Try.prog 181 #[.slice ao n c, .func (.func 117) #[segV zs i] #[]] w fun e w' => e = .returned (.bool (anyTo (tcF zs i s) n)) ∧ Below w.heap.size w w' := by
  rw [← firstIx_ge]
  have hr := firstIx_rng (tcF zs i s) n
  have H := Lib.hid (indexSeg_any i s n c len g ao zs w hv hz hn hl ha hp)
  clear ha hp hv hz
  go_enter Try.func181, Try.ntmps181
  go_wp2_with fail
  refine H.out.mono ?_
  rintro e w1 ⟨rfl, hb1⟩
  have HB1 := Lib.hid hb1
  clear hb1 H
  go_wp2
  go_ret
  exact ⟨rfl, HB1.out⟩
theorem collect_any (B b len cap : Nat) (zs : List P2) (w : World) (hz : len = zs.length) (h1 : 1 ≤ len) (hl : len ≤ 24) (hB : B < w.heap.size) (hBc : w.cell? ⟨B, 0, none⟩ = some (.slice (some ⟨b, 0, none⟩) len cap)) (hp : PtsAt w b zs) :
    Calls Try.prog 148 #[.func (.func 165) #[] #[.pointer (some ⟨B, 0, none⟩)]] w (CollPost zs len w) := by
  have H := Lib.hid (appendSeq_any B b len cap zs w hz h1 hl hB hBc hp)
  clear hz hBc hp
  go_enter Try.func148, Try.ntmps148
  go_wp2_with fail
  refine H.out.mono ?_
  rintro e w1 ⟨v, rfl, hr, hb⟩
  have HR := Lib.hid hr
  have HB := Lib.hid hb
  clear hr hb
  go_wp2
  go_ret
  exact ⟨v, rfl, HR.out, HB.out⟩
end Go.Proofs.Ytjhmpmaademdcaa
