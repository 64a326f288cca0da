/- Several texts in one: Apart, IsApart, PolyValid, PtArg, Again, PolyArg, OwnP. -/
import Derived.Test.YtmfchcaidfloaaaDoorK2
import Derived.Test.YtmfchcaidfloaaaDoorK1
import Derived.Test.YtmfchcaidfloaaaDoorProg
import Derived.Lib.SmallJoins
import Derived.ChangeStays
import Derived.ReadAgain
import Derived.Deep.Slices
import Derived.Deep.OwnRows
import Derived.LoopTactic
import Derived.Test.YtmfchcaidfloaaaDoorK3
import Derived.Laws.OwnMore
namespace Go.Proofs.YtmfchcaidfloaaaDoor
open Go.ChangeShapes Go.WideShapes Go.ChangeAt Go.RowKit
set_option linter.unusedVariables false

theorem segCs_at (zs : List P2) (pre : List Nat) (j r : Nat) (hj : j < pre.length) (hr : r < 4) : (segCs zs pre)[j * 4 + r]? = (segC zs (pre.getD j 0))[r]? := by
  induction pre generalizing j with
  | nil => simp at hj
  | cons a l ih =>
    have e : segCs zs (a :: l) = segC zs a ++ segCs zs l := by simp [segCs]
    rw [e]
    match j with
    | 0 =>
      rw [List.getElem?_append_left (by simp [segC]; omega)]
      simp
    | j + 1 =>
      rw [List.getElem?_append_right (by simp [segC]; omega)]
      rw [show (j + 1) * 4 + r - (segC zs a).length = j * 4 + r by simp [segC]; omega, ih j (by simpa using hj)]
      simp
/-- The edges of a polygon lie in a row from the start of block g. -/
def SegsAt (w : World) (g : Nat) (zs : List P2) (len : Nat) : Prop := g < w.heap.size ∧ ∀ k, k < len → w.cell? ⟨g, k * 4, none⟩ = some (.int .i64 (pt zs k).1) ∧ w.cell? ⟨g, k * 4 + 1, none⟩ = some (.int .i64 (pt zs k).2) ∧ w.cell? ⟨g, k * 4 + 2, none⟩ = some (.int .i64 (pt zs (k + 1)).1) ∧ w.cell? ⟨g, k * 4 + 3, none⟩ = some (.int .i64 (pt zs (k + 1)).2)
theorem SegsAt.below {B g len : Nat} {w w' : World} {zs : List P2} (h : SegsAt w g zs len) (hb : Below B w w') (hB : g < B) : SegsAt w' g zs len :=
  ⟨Nat.lt_of_lt_of_le h.1 hb.size, fun k hk => by
    obtain ⟨c0, c1, c2, c3⟩ := h.2 k hk
    exact ⟨(hb.cell (p := ⟨g, k * 4, none⟩) hB).trans c0, (hb.cell (p := ⟨g, k * 4 + 1, none⟩) hB).trans c1, (hb.cell (p := ⟨g, k * 4 + 2, none⟩) hB).trans c2, (hb.cell (p := ⟨g, k * 4 + 3, none⟩) hB).trans c3⟩⟩
theorem segsAt_of {w : World} {base len : Nat} {v : Value} {zs : List P2} (h1 : 1 ≤ len) (h : w.ownsRow base 159 4 v len (segCs zs (List.range len))) :
    ∃ g cap, v = .slice (some ⟨g, 0, none⟩) len cap ∧ base ≤ g ∧ len ≤ cap ∧ SegsAt w g zs len := by
  obtain ⟨g, cap, rfl⟩ := ownsRow_succ (k := len - 1) (by rw [show len - 1 + 1 = len by omega]; exact h)
  rw [show len - 1 + 1 = len by omega] at h ⊢
  obtain ⟨hl, ⟨h0, _⟩ | ⟨g', cap', cur, hv, hb, hg, hc1, hc2, hcs, hx⟩⟩ := id h
  · cases h0
  · cases hv
    refine ⟨g, cap, rfl, hb, hc1, (Array.getElem?_eq_some_iff.1 hg).1, fun k hk => ?_⟩
    have key : ∀ r, r < 4 → w.cell? ⟨g, k * 4 + r, none⟩ = (segC zs k)[r]? := fun r hr => by
      have e := segCs_at zs (List.range len) k r (by simpa using hk) hr
      rw [← hx, List.getElem?_take_of_lt (by omega)] at e
      have e2 : (List.range len).getD k 0 = k := by simp [hk]
      rw [e2] at e
      unfold World.cell?
      simp only [hg]
      simpa using e
    exact ⟨key 0 (by omega), key 1 (by omega), key 2 (by omega), key 3 (by omega)⟩
/-- The first index that meets f, or -1. -/
def firstIx (f : Nat → Bool) : Nat → Int
  | 0 => -1
  | n + 1 => if 0 ≤ firstIx f n then firstIx f n else if f n then n else -1
theorem firstIx_none {f : Nat → Bool} {n : Nat} (h : ∀ j, j < n → f j = false) : firstIx f n = -1 := by
  induction n with
  | zero => rfl
  | succ n ih => simp [firstIx, ih (fun j hj => h j (by omega)), h n (by omega)]
theorem firstIx_at {f : Nat → Bool} {k : Nat} (h : ∀ j, j < k → f j = false) (hf : f k = true) : ∀ n, k < n → firstIx f n = k := by
  intro n
  induction n with
  | zero => intro h; omega
  | succ n ih =>
    intro hk
    rcases Nat.lt_succ_iff_lt_or_eq.1 hk with h1 | rfl
    · rw [firstIx, ih h1, if_pos (by omega)]
    · rw [firstIx, firstIx_none h, if_neg (by omega), hf, if_pos rfl]
theorem firstIx_rng (f : Nat → Bool) (n : Nat) : -1 ≤ firstIx f n ∧ firstIx f n < n := by
  induction n with
  | zero => simp [firstIx]
  | succ n ih => simp only [firstIx]; split <;> (try split) <;> omega
def anyTo (f : Nat → Bool) (n : Nat) : Bool := !allTo (fun j => !f j) n
theorem firstIx_ge (f : Nat → Bool) (n : Nat) : decide (0 ≤ firstIx f n) = anyTo f n := by
  unfold anyTo
  induction n with
  | zero => rfl
  | succ n ih =>
    show decide (0 ≤ firstIx f (n + 1)) = !(allTo (fun j => !f j) n && !f n)
    rw [Bool.not_and, ← ih]
    have e : firstIx f (n + 1) = if 0 ≤ firstIx f n then firstIx f n else if f n then n else -1 := rfl
    by_cases h : 0 ≤ firstIx f n
    · rw [e, if_pos h]; simp [h]
    · rw [e, if_neg h]
      cases f n <;> simp [h]
def tcF (zs : List P2) (i s j : Nat) : Bool := tcP (pt zs i) (pt zs (i + 1)) (pt zs (s + j)) (pt zs (s + j + 1))
set_option maxRecDepth 100000 in
set_option maxHeartbeats 2000000 in
theorem indexSeg_any (i s n c len g : Nat) (ao : Option Addr) (zs : List P2) (w : World) (hv : allOk zs = true) (hz : 0 < zs.length) (hn : s + n ≤ len) (hl : len ≤ 24) (ha : n = 0 ∨ ao = some ⟨g, s * 4, none⟩) (hp : SegsAt w g zs len) :
    Calls Tryd.prog 155 #[.slice ao n c, .func (.func 132) #[segV zs i] #[]] w fun e w' => e = .returned (.int .i64 (firstIx (tcF zs i s) n)) ∧ Below w.heap.size w w' := by
  have HV := Lib.hid hv
  have HP := Lib.hid hp
  have HZ := Lib.hid hz
  clear hv hp hz
  rcases ha with rfl | rfl
  · go_enter Tryd.func155, Tryd.ntmps155
    go_wp2
    go_loopw [8] (fun i wr => i = .int .i64 0 ∧ w = wr) (fun i _ => 0)
    case atStart => exact ⟨rfl, rfl⟩
    case round =>
      obtain ⟨rfl, rfl⟩ := hrel
      go_wp2
      go_ret
      exact ⟨rfl, Below.refl _ _⟩
  · go_enter Tryd.func155, Tryd.ntmps155
    go_wp2
    go_loopw [8] (fun iv wr => ∃ k : Nat, k ≤ n ∧ iv = .int .i64 k ∧ Hid (∀ j, j < k → tcF zs i s j = false) ∧ Hid (Below w.heap.size w wr)) (fun i _ => n - (intOf i).toNat)
    case atStart => exact ⟨0, by omega, rfl, Lib.hid (fun j hj => absurd hj (by omega)), Lib.hid (Below.refl _ _)⟩
    case round =>
      obtain ⟨k, hk, rfl, hi, hb⟩ := hrel
      by_cases hlt : k < n
      · have hgw : g < wr.heap.size := Nat.lt_of_lt_of_le HP.out.1 hb.out.size
        obtain ⟨c0, c1, c2, c3⟩ := (HP.out.below hb.out HP.out.1).2 (s + k) (by omega)
        have HT := Lib.hid (show tcF zs i s k = tcB (pt zs i).1 (pt zs i).2 (pt zs (i + 1)).1 (pt zs (i + 1)).2 (pt zs (s + k)).1 (pt zs (s + k)).2 (pt zs (s + k + 1)).1 (pt zs (s + k + 1)).2 from rfl)
        have O1 := Lib.hid (pt_ok HV.out HZ.out i)
        have O2 := Lib.hid (pt_ok HV.out HZ.out (i + 1))
        have O3 := Lib.hid (pt_ok HV.out HZ.out (s + k))
        have O4 := Lib.hid (pt_ok HV.out HZ.out (s + k + 1))
        have ea : s * 4 + k * 4 = (s + k) * 4 := by omega
        have ea0 : (⟨g, s * 4 + k * 4, none⟩ : Addr) = ⟨g, (s + k) * 4, none⟩ := by rw [ea]
        unfold segV
        generalize (pt zs i).1 = xa at *
        generalize (pt zs i).2 = ya at *
        generalize (pt zs (i + 1)).1 = xb at *
        generalize (pt zs (i + 1)).2 = yb at *
        generalize (pt zs (s + k)).1 = xc at *
        generalize (pt zs (s + k)).2 = yc at *
        generalize (pt zs (s + k + 1)).1 = xd at *
        generalize (pt zs (s + k + 1)).2 = yd at *
        rw [← ea] at c0 c1 c2 c3
        clear ea ea0
        go_wp2_with fail
        refine (touches_any _ _ _ _ _ _ _ _ _ O1.out O2.out O3.out O4.out).mono ?_
        rintro e w1 ⟨rfl, hb1⟩
        have HB1 := Lib.hid (bseq hb.out hb1)
        clear hb1 c0 c1 c2 c3
        cases hm : tcB xa ya xb yb xc yc xd yd
        · rw [hm] at HT
          go_wp2
          go_roundw
          case rel => exact ⟨k + 1, by omega, by go_num, Lib.hid (fun j hj => (Nat.lt_succ_iff_lt_or_eq.1 hj).elim (hi.out j) (fun e => e ▸ HT.out)), HB1⟩
          case measure => simp [intOf]; omega
        · rw [hm] at HT
          go_wp2
          go_ret
          exact ⟨ret_int (firstIx_at hi.out HT.out n hlt).symm, HB1.out⟩
      · obtain rfl : k = n := by omega
        go_wp2
        go_ret
        exact ⟨ret_int (firstIx_none hi.out).symm, hb.out⟩
theorem hasSeg_any (i s n c len g : Nat) (ao : Option Addr) (zs : List P2) (w : World) (hv : allOk zs = true) (hz : 0 < zs.length) (hn : s + n ≤ len) (hl : len ≤ 24) (ha : n = 0 ∨ ao = some ⟨g, s * 4, none⟩) (hp : SegsAt w g zs len) :
    Calls Tryd.prog 131 #[.slice ao n c, .func (.func 132) #[segV zs i] #[]] w fun e w' => e = .returned (.bool (anyTo (tcF zs i s) n)) ∧ Below w.heap.size w w' := by
  rw [← firstIx_ge]
  have hr := firstIx_rng (tcF zs i s) n
  have H := Lib.hid (indexSeg_any i s n c len g ao zs w hv hz hn hl ha hp)
  clear ha hp hv hz
  go_enter Tryd.func131, Tryd.ntmps131
  go_wp2_with fail
  refine H.out.mono ?_
  rintro e w1 ⟨rfl, hb1⟩
  have HB1 := Lib.hid hb1
  clear hb1 H
  go_wp2
  go_ret
  exact ⟨rfl, HB1.out⟩
theorem collect_any (B b len cap : Nat) (zs : List P2) (w : World) (hz : len = zs.length) (h1 : 1 ≤ len) (hl : len ≤ 24) (hB : B < w.heap.size) (hBc : w.cell? ⟨B, 0, none⟩ = some (.slice (some ⟨b, 0, none⟩) len cap)) (hp : PtsAt w b zs) :
    Calls Tryd.prog 129 #[.func (.func 154) #[] #[.pointer (some ⟨B, 0, none⟩)]] w (CollPost zs len w) := by
  have H := Lib.hid (appendSeq_any B b len cap zs w hz h1 hl hB hBc hp)
  clear hz hBc hp
  go_enter Tryd.func129, Tryd.ntmps129
  go_wp2_with fail
  refine H.out.mono ?_
  rintro e w1 ⟨v, rfl, hr, hb⟩
  have HR := Lib.hid hr
  have HB := Lib.hid hb
  clear hr hb
  go_wp2
  go_ret
  exact ⟨v, rfl, HR.out, HB.out⟩
end Go.Proofs.YtmfchcaidfloaaaDoor
namespace Go.Proofs.YtmfchcaidfloaaaDoor
open Go.ChangeShapes Go.WideShapes Go.ChangeAt Go.RowKit
set_option linter.unusedVariables false

theorem cells_any (zs : List P2) (i s m : Nat) (h3 : 3 ≤ zs.length) (hi : i < zs.length) (hs : s = min (i + 2) zs.length) (hm : m = if i = 0 then zs.length - 3 else zs.length - s) : allTo (cellOk zs i) zs.length = !anyTo (tcF zs i s) m := by
  unfold anyTo
  rw [Bool.not_not, Bool.eq_iff_iff, allTo_iff, allTo_iff]
  constructor
  · intro h j hj
    have hsj : s = i + 2 := by split at hm <;> omega
    have hk : s + j < zs.length := by split at hm <;> omega
    have h1 := h (s + j) hk
    unfold cellOk at h1
    rw [decide_eq_true (by omega), Bool.true_and] at h1
    have hne : (s + j + 1) % zs.length ≠ i := by
      by_cases he : s + j + 1 = zs.length
      · rw [he, Nat.mod_self]; split at hm <;> omega
      · rw [Nat.mod_eq_of_lt (by omega)]; omega
    rw [decide_eq_true hne, Bool.true_and] at h1
    exact h1
  · intro h k hk
    unfold cellOk
    by_cases hik : i + 2 ≤ k
    · by_cases hne : (k + 1) % zs.length = i
      · simp [hne]
      · have hsj : s = i + 2 := by omega
        have hkm : k - s < m := by
          by_cases he : k + 1 = zs.length
          · rw [he, Nat.mod_self] at hne; rw [if_neg (by omega)] at hm; omega
          · split at hm <;> omega
        have h1 := h (k - s) hkm
        unfold tcF at h1
        rw [show s + (k - s) = k by omega] at h1
        simp only [Bool.not_and, Bool.or_eq_true]
        right
        exact h1
    · simp [hik]
def apTo (zs : List P2) (i : Nat) : Bool := allTo (cellOk zs i) zs.length
theorem apB_bad {zs : List P2} {i : Nat} (hi : i < zs.length) (h : apTo zs i = false) : apB zs = false := allTo_bad hi h
theorem apB_end {zs : List P2} {k : Nat} (hk : zs.length ≤ k) (h : allTo (apTo zs) k = true) : apB zs = true := allTo_ok fun j hj => (allTo_iff _ _).1 h j (by omega)
set_option maxRecDepth 100000 in
set_option maxHeartbeats 4000000 in
theorem isApart_any (b len cap : Nat) (zs : List P2) (w : World) (hz : len = zs.length) (h3 : 3 ≤ len) (hl : len ≤ 24) (hv : allOk zs = true) (hp : PtsAt w b zs) :
    Calls Tryd.prog 113 #[.slice (some ⟨b, 0, none⟩) len cap] w fun e w' => e = .returned (.bool (apB zs)) ∧ Below w.heap.size w w' := by
  have HZ := Lib.hid hz
  have HP := Lib.hid hp
  have HV := Lib.hid hv
  clear hz hp hv
  go_enter Tryd.func113, Tryd.ntmps113
  go_wp2_with fail
  refine (edges_any _ _ _ _).mono ?_
  rintro e w1 ⟨B, rfl, hm⟩
  have HM := Lib.hid hm
  clear hm
  go_wp2_with fail
  refine (collect_any B b len cap zs _ HZ.out (by omega) hl HM.out.high (by simp [World.cell?, HM.out.here]) (HP.out.below HM.out.below HP.out.1)).mono ?_
  rintro e w2 ⟨v, rfl, hr, hb2⟩
  obtain ⟨g, cp, rfl, hg1, hg2, hsg⟩ := segsAt_of (by omega) hr
  have HB := Lib.hid (bseq HM.out.below hb2)
  have HSG := Lib.hid hsg
  clear hr hb2 hsg
  go_wp2
  go_loopw [12] (fun iv wr => ∃ k : Nat, k ≤ len ∧ iv = .int .i64 k ∧ Hid (allTo (apTo zs) k = true) ∧ Hid (Below w2.heap.size w2 wr)) (fun i _ => len - (intOf i).toNat)
  case atStart => exact ⟨0, by omega, rfl, Lib.hid rfl, Lib.hid (Below.refl _ _)⟩
  case round =>
    obtain ⟨k, hk, rfl, hi, hb⟩ := hrel
    by_cases hlt : k < len
    · have hgw : g < wr.heap.size := Nat.lt_of_lt_of_le HSG.out.1 hb.out.size
      obtain ⟨c0, c1, c2, c3⟩ := (HSG.out.below hb.out HSG.out.1).2 k hlt
      have HF := Lib.hid (apB_bad (zs := zs) (i := k) (by have := HZ.out; omega))
      by_cases hk0 : k = 0
      · subst hk0
        have hmin : min (2 : Int) (len : Int) = 2 := by omega
        have hmin0 : min ((0 : Int) + 2) (len : Int) = 2 := by omega
        have hcp : ¬ cp = 2 := by omega
        have hcp2 : ¬ 2 = cp := by omega
        have HA := Lib.hid (cells_any zs 0 2 (len - 3) (by have := HZ.out; omega) (by have := HZ.out; omega) (by have := HZ.out; omega) (by have := HZ.out; rw [if_pos rfl]; omega))
        have el : ((len - 2 : Nat) : Int) - 1 = ((len - 3 : Nat) : Int) := by omega
        have el2 : ((len : Int) - 2 - 1) = ((len - 3 : Nat) : Int) := by omega
        go_wp2_with fail
        refine (hasSeg_any 0 2 (len - 3) _ len g _ zs _ HV.out (by have := HZ.out; omega) (by omega) hl (Or.inr rfl) ((HSG.out.below hb.out HSG.out.1).below (one_alloc _) hgw)).mono ?_
        rintro e w3 ⟨rfl, hb3⟩
        have HB3 := Lib.hid (bseq (one_alloc _) hb3)
        clear hb3
        cases hm : anyTo (tcF zs 0 2) (len - 3)
        · rw [hm] at HA
          clear hm
          go_wp2
          go_roundw
          case rel => exact ⟨0 + 1, by omega, by go_num, Lib.hid (allTo_succ hi.out HA.out), Lib.hid (bseq hb.out HB3.out)⟩
          case measure => simp [intOf]; omega
        · rw [hm] at HA
          clear hm
          go_wp2
          go_ret
          exact ⟨ret_bool (HF.out HA.out).symm, HB.out.trans ((bseq hb.out HB3.out).mono HB.out.size)⟩
      · have hs1 : min ((k : Int) + 2) (len : Int) = ((min (k + 2) len : Nat) : Int) := by omega
        obtain ⟨s, hs⟩ : ∃ s, min (k + 2) len = s := ⟨_, rfl⟩
        rw [hs] at hs1
        have hsl : s ≤ len := by omega
        have hk00 : ((k : Int) == 0) = false := by simp; omega
        have HA := Lib.hid (cells_any zs k s (len - s) (by have := HZ.out; omega) (by have := HZ.out; omega) (by have := HZ.out; omega) (by have := HZ.out; rw [if_neg hk0]; omega))
        clear hs
        by_cases hcp : s = cp
        · have hls : len - s = 0 := by omega
          subst hcp
          go_wp2_with fail
          refine (hasSeg_any k s _ _ len g _ zs _ HV.out (by have := HZ.out; omega) (by omega) hl (Or.inl (by omega)) ((HSG.out.below hb.out HSG.out.1).below (one_alloc _) hgw)).mono ?_
          rintro e w3 ⟨rfl, hb3⟩
          have HB3 := Lib.hid (bseq (one_alloc _) hb3)
          clear hb3
          rw [hls] at HA
          rw [show anyTo (tcF zs k s) 0 = false from rfl]
          go_wp2
          go_roundw
          case rel => exact ⟨k + 1, by omega, by go_num, Lib.hid (allTo_succ hi.out HA.out), Lib.hid (bseq hb.out HB3.out)⟩
          case measure => simp [intOf]; omega
        · have hcp' : ¬ cp = s := fun h => hcp h.symm
          go_wp2_with fail
          refine (hasSeg_any k s (len - s) _ len g _ zs _ HV.out (by have := HZ.out; omega) (by omega) hl (Or.inr rfl) ((HSG.out.below hb.out HSG.out.1).below (one_alloc _) hgw)).mono ?_
          rintro e w3 ⟨rfl, hb3⟩
          have HB3 := Lib.hid (bseq (one_alloc _) hb3)
          clear hb3
          cases hm : anyTo (tcF zs k s) (len - s)
          · rw [hm] at HA
            clear hm
            go_wp2
            go_roundw
            case rel => exact ⟨k + 1, by omega, by go_num, Lib.hid (allTo_succ hi.out HA.out), Lib.hid (bseq hb.out HB3.out)⟩
            case measure => simp [intOf]; omega
          · rw [hm] at HA
            clear hm
            go_wp2
            go_ret
            exact ⟨ret_bool (HF.out HA.out).symm, HB.out.trans ((bseq hb.out HB3.out).mono HB.out.size)⟩
    · go_wp2
      go_ret
      exact ⟨ret_bool (apB_end (by have := HZ.out; omega) hi.out).symm, HB.out.trans (hb.out.mono HB.out.size)⟩
end Go.Proofs.YtmfchcaidfloaaaDoor
namespace Go.Proofs.YtmfchcaidfloaaaDoor
open Go.ChangeShapes Go.WideShapes Go.ChangeAt Go.RowKit
set_option linter.unusedVariables false

/-- A slice of points at the start of a block, or an empty one. -/
def PV (w : World) (ao : Option Addr) (len : Nat) (zs : List P2) : Prop := len = zs.length ∧ (len = 0 ∨ ∃ b, ao = some ⟨b, 0, none⟩ ∧ PtsAt w b zs)
theorem PV.below {w w' : World} {ao : Option Addr} {len : Nat} {zs : List P2} (h : PV w ao len zs) (hb : Below w.heap.size w w') : PV w' ao len zs :=
  ⟨h.1, h.2.imp id fun ⟨b, e, hp⟩ => ⟨b, e, hp.below hb hp.1⟩⟩
theorem PV.at {w : World} {ao : Option Addr} {len : Nat} {zs : List P2} (h : PV w ao len zs) (h1 : 1 ≤ len) : ∃ b, ao = some ⟨b, 0, none⟩ ∧ PtsAt w b zs := h.2.resolve_left (by omega)
theorem pts_PV {w : World} {b len : Nat} {zs : List P2} (hz : len = zs.length) (h : PtsAt w b zs) : PV w (some ⟨b, 0, none⟩) len zs := ⟨hz, Or.inr ⟨b, rfl, h⟩⟩
theorem ok3_any (ao : Option Addr) (len cap : Nat) (zs : List P2) (w : World) (hl : len ≤ 1048576) (hp : PV w ao len zs) : Calls Tryd.prog 48 #[.slice ao len cap] w fun e w' => e = .returned (.bool (polyB zs)) ∧ Below w.heap.size w w' := by
  by_cases h3 : 3 ≤ len
  · by_cases h4 : len ≤ 24
    · obtain ⟨b, rfl, hpp⟩ := hp.at (by omega)
      exact ok3_spec b len cap zs w hp.1 h3 h4 hpp
    · rw [poly_len (by have := hp.1; omega)]
      clear hp
      have e1 : decide ((len : Int) < 3) = false := by simp; omega
      have e2 : decide (24 < (len : Int)) = true := by simp; omega
      go_enter Tryd.func48, Tryd.ntmps48
      go_wp2
      go_ret
      exact ⟨rfl, Below.refl _ _⟩
  · rw [poly_len (by have := hp.1; omega)]
    clear hp
    have e1 : decide ((len : Int) < 3) = true := by simp; omega
    go_enter Tryd.func48, Tryd.ntmps48
    go_wp2
    go_ret
    exact ⟨rfl, Below.refl _ _⟩
set_option maxHeartbeats 1000000 in
theorem isValid_at (b len cap : Nat) (zs : List P2) (w : World) (hz : len = zs.length) (h3 : 3 ≤ len) (h4 : len ≤ 24) (hp : PtsAt w b zs) : Calls Tryd.prog 90 #[.slice (some ⟨b, 0, none⟩) len cap] w fun e w' => e = .returned (.bool (polyB zs)) ∧ Below w.heap.size w w' := by
  have HZ := Lib.hid hz
  have HP := Lib.hid hp
  have h3z : 3 ≤ zs.length := by omega
  have h4z : zs.length ≤ 24 := by omega
  clear hz hp
  cases c0 : allOk zs
  · rw [poly_bad c0]
    go_enter Tryd.func90, Tryd.ntmps90
    go_wp2_with fail
    refine (allValid_any b len cap zs _ HZ.out (by omega) HP.out).mono ?_
    rintro e w1 ⟨rfl, g1⟩
    obtain ⟨k1, q1⟩ := bcell g1
    have HW1 := Lib.hid g1
    clear g1
    rw [c0]
    clear k1 q1
    go_wp2
    go_ret
    exact ⟨rfl, HW1.out⟩
  have HV := Lib.hid c0
  rw [poly_of h3z h4z c0]
  cases c1 : goB zs
  · simp only [Bool.false_and]
    go_enter Tryd.func90, Tryd.ntmps90
    go_wp2_with fail
    refine (allValid_any b len cap zs _ HZ.out (by omega) HP.out).mono ?_
    rintro e w1 ⟨rfl, g1⟩
    obtain ⟨k1, q1⟩ := bcell g1
    have HW1 := Lib.hid g1
    clear g1
    rw [c0]
    go_wp2_with fail
    refine (goesOn_any b len cap zs _ HZ.out h3 h4 HV.out (HP.out.below HW1.out HP.out.1)).mono ?_
    rintro e w2 ⟨rfl, g2⟩
    obtain ⟨k2, q2⟩ := bcell (bseq HW1.out g2)
    have HW2 := Lib.hid (bseq HW1.out g2)
    clear g2 k1 q1
    rw [c1]
    clear k2 q2
    go_wp2
    go_ret
    exact ⟨rfl, HW2.out⟩
  cases c2 : apB zs
  · simp only [Bool.true_and, Bool.false_and]
    go_enter Tryd.func90, Tryd.ntmps90
    go_wp2_with fail
    refine (allValid_any b len cap zs _ HZ.out (by omega) HP.out).mono ?_
    rintro e w1 ⟨rfl, g1⟩
    obtain ⟨k1, q1⟩ := bcell g1
    have HW1 := Lib.hid g1
    clear g1
    rw [c0]
    go_wp2_with fail
    refine (goesOn_any b len cap zs _ HZ.out h3 h4 HV.out (HP.out.below HW1.out HP.out.1)).mono ?_
    rintro e w2 ⟨rfl, g2⟩
    obtain ⟨k2, q2⟩ := bcell (bseq HW1.out g2)
    have HW2 := Lib.hid (bseq HW1.out g2)
    clear g2 k1 q1
    rw [c1]
    go_wp2_with fail
    refine (isApart_any b len cap zs _ HZ.out h3 h4 HV.out (HP.out.below HW2.out HP.out.1)).mono ?_
    rintro e w3 ⟨rfl, g3⟩
    obtain ⟨k3, q3⟩ := bcell (bseq HW2.out g3)
    have HW3 := Lib.hid (bseq HW2.out g3)
    clear g3 k2 q2
    rw [c2]
    clear k3 q3
    go_wp2
    go_ret
    exact ⟨rfl, HW3.out⟩
  simp only [Bool.true_and]
  go_enter Tryd.func90, Tryd.ntmps90
  go_wp2_with fail
  refine (allValid_any b len cap zs _ HZ.out (by omega) HP.out).mono ?_
  rintro e w1 ⟨rfl, g1⟩
  obtain ⟨k1, q1⟩ := bcell g1
  have HW1 := Lib.hid g1
  clear g1
  rw [c0]
  go_wp2_with fail
  refine (goesOn_any b len cap zs _ HZ.out h3 h4 HV.out (HP.out.below HW1.out HP.out.1)).mono ?_
  rintro e w2 ⟨rfl, g2⟩
  obtain ⟨k2, q2⟩ := bcell (bseq HW1.out g2)
  have HW2 := Lib.hid (bseq HW1.out g2)
  clear g2 k1 q1
  rw [c1]
  go_wp2_with fail
  refine (isApart_any b len cap zs _ HZ.out h3 h4 HV.out (HP.out.below HW2.out HP.out.1)).mono ?_
  rintro e w3 ⟨rfl, g3⟩
  obtain ⟨k3, q3⟩ := bcell (bseq HW2.out g3)
  have HW3 := Lib.hid (bseq HW2.out g3)
  clear g3 k2 q2
  rw [c2]
  go_wp2_with fail
  refine (area_impl b len cap zs _ HZ.out (by omega) h4 HV.out (HP.out.below HW3.out HP.out.1)).mono ?_
  rintro e w4 ⟨rfl, g4⟩
  obtain ⟨k4, q4⟩ := bcell (bseq HW3.out g4)
  have HW4 := Lib.hid (bseq HW3.out g4)
  clear g4 k3 q3
  clear k4 q4
  go_wp2
  go_ret
  exact ⟨rfl, HW4.out⟩
theorem isValid_any (ao : Option Addr) (len cap : Nat) (zs : List P2) (w : World) (hl : len ≤ 1048576) (hp : PV w ao len zs) : Calls Tryd.prog 90 #[.slice ao len cap] w fun e w' => e = .returned (.bool (polyB zs)) ∧ Below w.heap.size w w' := by
  by_cases h3 : 3 ≤ len
  · by_cases h4 : len ≤ 24
    · obtain ⟨b, rfl, hpp⟩ := hp.at (by omega)
      exact isValid_at b len cap zs w hp.1 h3 h4 hpp
    · rw [poly_len (by have := hp.1; omega)]
      clear hp
      have e1 : decide (3 ≤ (len : Int)) = true := by simp; omega
      have e2 : decide ((len : Int) ≤ 24) = false := by simp; omega
      go_enter Tryd.func90, Tryd.ntmps90
      go_wp2
      go_ret
      exact ⟨rfl, Below.refl _ _⟩
  · rw [poly_len (by have := hp.1; omega)]
    clear hp
    have e1 : decide (3 ≤ (len : Int)) = false := by simp; omega
    go_enter Tryd.func90, Tryd.ntmps90
    go_wp2
    go_ret
    exact ⟨rfl, Below.refl _ _⟩
theorem valid_pimpl (ao : Option Addr) (len cap : Nat) (zs : List P2) (w : World) (hl : len ≤ 1048576) (hp : PV w ao len zs) : Calls Tryd.prog 51 #[.slice ao len cap] w fun e w' => e = .returned (.bool (polyB zs)) ∧ Below w.heap.size w w' := by
  have HP := Lib.hid hp
  clear hp
  go_enter Tryd.func51, Tryd.ntmps51
  go_wp2_with fail
  refine (isValid_any _ _ _ zs _ hl HP.out).mono ?_
  rintro e w1 ⟨rfl, g1⟩
  obtain ⟨k1, q1⟩ := bcell g1
  have HW1 := Lib.hid g1
  clear g1
  clear k1 q1
  go_wp2
  go_ret
  exact ⟨rfl, HW1.out⟩
end Go.Proofs.YtmfchcaidfloaaaDoor
namespace Go.Proofs.YtmfchcaidfloaaaDoor
open Go.ChangeShapes Go.WideShapes Go.ChangeAt Go.RowKit Go.Joins

theorem cLP : Tryd.prog.cellsOf 92 = 2 := by kernel_rfl
set_option maxRecDepth 100000 in
theorem open_pt {H : Type} {enc : TypeId × Value → H} {W : World} {base : Nat} {v : Value} {d : DataW H} {p : List MemPlace} (hval : Value.okWide Tryd.prog W .any base 92 v)
    (h : DataW.Trod enc Tryd.prog W 0 (fun _ => true) true 92 v d p) :
    ∃ x y : Int, v = .agg #[.int .i64 x, .int .i64 y] ∧ d = .agg [.lit (.int .i64 x), .lit (.int .i64 y)] ∧ p = [] ∧ (Lit.int .i64 x).wf = true ∧ (Lit.int .i64 y).wf = true := by
  obtain ⟨c0, c1, y0, y1, m, rfl, rfl, rfl, hy0, hy1⟩ := open_agg2 Tryd.underlying92 (by kernel_rfl) cLP hval h
  obtain ⟨a, e0, rfl, wa⟩ := DataW.trod_int Tryd.underlying2 hy0
  obtain ⟨b, e1, rfl, wb⟩ := DataW.trod_int Tryd.underlying2 hy1
  simp at e0 e1
  subst e0 e1
  exact ⟨a, b, rfl, rfl, rfl, wa, wb⟩
set_option maxRecDepth 100000 in
theorem shut_pt {H : Type} {enc : TypeId × Value → H} {W : World} {sp : Nat → Bool} {x y : Int} (wx : (Lit.int .i64 x).wf = true) (wy : (Lit.int .i64 y).wf = true) :
    DataW.Trod enc Tryd.prog W 0 sp true 92 (.agg #[.int .i64 x, .int .i64 y]) (.agg [.lit (.int .i64 x), .lit (.int .i64 y)]) [] :=
  shut_agg2 (y0 := (.lit (.int .i64 x), [])) (y1 := (.lit (.int .i64 y), [])) Tryd.underlying92 (by kernel_rfl) cLP ⟨1, by simp [DataW.trod, Tryd.underlying2, wx]⟩ ⟨1, by simp [DataW.trod, Tryd.underlying2, wy]⟩

theorem toPoint_any (x y : Int) (w : World) :
    Calls Tryd.prog 50 #[.agg #[.int .i64 x, .int .i64 y]] w fun e w' => e = .returned (.agg #[.int .i64 x, .int .i64 y]) ∧ Below w.heap.size w w' := by
  go_enter Tryd.func50, Tryd.ntmps50
  go_wp2
  exact bodyPost_ret (v := .agg #[.int .i64 x, .int .i64 y]) (by simp [results, Tryd.results50, go_sem]) rfl ⟨rfl, three_allocs _ _ _⟩
end Go.Proofs.YtmfchcaidfloaaaDoor
namespace Go.Proofs.YtmfchcaidfloaaaDoor
open Go.ChangeShapes Go.WideShapes Go.ChangeAt Go.RowKit Go.Joins Go.Deep

theorem kids : Kids Tryd.prog (· < Tryd.prog.types.size) := kids_rows (by kernel_rfl) (by kernel_rfl)
theorem full : ∀ t e, t < Tryd.prog.types.size → Tryd.prog.underlying t = some (.slice e) → 0 < Tryd.prog.cellsOf e := slices_full_of _ (by kernel_rfl)
theorem sameAt_below {B : Nat} {w w' : World} (h : Below B w w') {p : MemPlace} (hp : p.block < B) : w.sameAt w' p := by
  cases p with
  | cell b o => exact World.cell?_of_block (w := w) (h.block b hp)
  | map b => exact h.block b hp
theorem trod_again {H : Type} {enc : TypeId × Value → H} {W W' : World} {t : TypeId} {v : Value} {d : DataW H} {p : List MemPlace} (ht : t < Tryd.prog.types.size)
    (h : DataW.Trod enc Tryd.prog W 0 (fun _ => true) true t v d p) (hlt : ∀ x ∈ p, x.block < W.heap.size) (hb : Below W.heap.size W W') (sp : Nat → Bool) (hsp : ∀ x ∈ p, sp x.block = true) : DataW.Trod enc Tryd.prog W' 0 sp true t v d p := by
  obtain ⟨n, hn⟩ := h
  exact ⟨n, DataW.trod_stays kids (fun ht he => full _ _ ht he) (fun h => by cases h) ht hn (fun x hx => sameAt_below hb (hlt x hx)) hsp⟩

/-- A slice of points that came in: n of them, at a place of a block. -/
def LView (w : World) (ao : Option Addr) (n : Nat) (zs : List P2) : Prop := n = zs.length ∧ (n = 0 ∨ ∃ b off, ao = some ⟨b, off, none⟩ ∧ b < w.heap.size ∧ ∀ j, j < n → w.cell? ⟨b, off + j * 2, none⟩ = some (.int .i64 (zs.getD j (0, 0)).1) ∧ w.cell? ⟨b, off + j * 2 + 1, none⟩ = some (.int .i64 (zs.getD j (0, 0)).2))
theorem LView.below {w w' : World} {ao : Option Addr} {n : Nat} {zs : List P2} (h : LView w ao n zs) (hb : Below w.heap.size w w') : LView w' ao n zs :=
  ⟨h.1, h.2.imp id fun ⟨b, off, e, h1, h2⟩ => ⟨b, off, e, Nat.lt_of_lt_of_le h1 hb.size, fun j hj => ⟨(hb.cell (p := ⟨b, off + j * 2, none⟩) h1).trans (h2 j hj).1, (hb.cell (p := ⟨b, off + j * 2 + 1, none⟩) h1).trans (h2 j hj).2⟩⟩⟩
theorem add_off (b off j : Nat) : Addr.add ⟨b, off, none⟩ j = ⟨b, off + j, none⟩ := by
  unfold Addr.add
  split
  · subst_vars; rfl
  · simp
set_option maxRecDepth 100000 in
/-- The two cells of a point. -/
theorem pt_cells {H : Type} {enc : TypeId × Value → H} {W : World} {base : Nat} {sp : Nat → Bool} {n : Nat} {cs : List Value} {x : DataW H × List MemPlace} (h : DataW.trod enc Tryd.prog W base sp true n 92 cs = some x) : ∃ a b : Int, cs = [.int .i64 a, .int .i64 b] := by
  obtain ⟨xs, m, _, _, hl, _, hf⟩ := DataW.trod_struct Tryd.underlying92 h
  rw [cLP] at hl
  match cs, hl with
  | [c0, c1], _ =>
    have h0 := hf 0 _ rfl
    have h1 := hf 1 _ rfl
    obtain ⟨x0, hx0⟩ : ∃ y, xs[0]? = some y := by
      cases h : xs[0]? with
      | none => simp_all
      | some y => exact ⟨y, rfl⟩
    obtain ⟨x1, hx1⟩ : ∃ y, xs[1]? = some y := by
      cases h : xs[1]? with
      | none => simp_all
      | some y => exact ⟨y, rfl⟩
    have hc : Tryd.prog.cellsOf 2 = 1 := by kernel_rfl
    rw [hx0] at h0
    rw [hx1] at h1
    change DataW.trod enc Tryd.prog W base sp true m 2 (([c0, c1].drop 0).take (Tryd.prog.cellsOf 2)) = _ at h0
    change DataW.trod enc Tryd.prog W base sp true m 2 (([c0, c1].drop 1).take (Tryd.prog.cellsOf 2)) = _ at h1
    rw [hc] at h0 h1
    obtain ⟨a, e0, _, _⟩ := DataW.trod_int Tryd.underlying2 h0
    obtain ⟨b, e1, _, _⟩ := DataW.trod_int Tryd.underlying2 h1
    simp at e0 e1
    subst e0 e1
    exact ⟨a, b, rfl⟩
set_option maxRecDepth 100000 in
theorem open_pts {H : Type} {enc : TypeId × Value → H} {W : World} {base : Nat} {v : Value} {d : DataW H} {p : List MemPlace} (hval : Value.okWide Tryd.prog W .any base 53 v)
    (h : DataW.Trod enc Tryd.prog W 0 (fun _ => true) true 53 v d p) (hlt : ∀ x ∈ p, x.block < W.heap.size) : ∃ ao n cap zs, v = .slice ao n cap ∧ n ≤ 9223372036854775807 ∧ LView W ao n zs := by
  obtain ⟨a0, len, cap, rfl⟩ := okWide_slice Tryd.underlying53 hval
  obtain ⟨fuel, hf⟩ := h
  rcases open_slice Tryd.underlying53 hf with ⟨hcs, hx⟩ | ⟨a, len', cap', m, n, D, Pl, hcs, _, hl, hm, hmm, hx, hi⟩
  · simp [Value.cells] at hcs
    obtain ⟨rfl, rfl, rfl⟩ := hcs
    exact ⟨none, 0, 0, [], rfl, by omega, rfl, Or.inl rfl⟩
  · simp [Value.cells] at hcs
    obtain ⟨rfl, rfl, rfl⟩ := hcs
    simp only [Prod.mk.injEq] at hx
    obtain ⟨rfl, rfl⟩ := hx
    simp only [if_true] at hmm
    rw [cLP] at hi
    have hi2 : ∀ i, i < m → ∃ q : P2, W.cell? ((a.add (i * 2)).add 0) = some (.int .i64 q.1) ∧ W.cell? ((a.add (i * 2)).add 1) = some (.int .i64 q.2) := fun i him => by
      obtain ⟨cs', hc, ht⟩ := hi i him
      obtain ⟨_, hcl, hat⟩ := World.cells?_some hc
      obtain ⟨x, y, rfl⟩ := pt_cells ht
      exact ⟨(x, y), hat 0 (by omega), hat 1 (by omega)⟩
    obtain ⟨f, hfn⟩ := choose_lt hi2
    refine ⟨some a, len, cap, (List.range len).map f, rfl, by unfold maxLen at hm; omega, by simp, ?_⟩
    by_cases h0 : len = 0
    · exact Or.inl h0
    · right
      obtain ⟨b, off, spot⟩ := a
      have hspot : spot = none := by
        have := World.cell?_spot (hfn 0 (by omega)).1
        simpa [Addr.add] using this
      subst hspot
      refine ⟨b, off, rfl, ?_, fun j hj => ?_⟩
      · have := hlt (.cell b off) (List.mem_append_left _ (MemPlace.mem_row.2 ⟨0, by rw [cLP]; omega, rfl⟩))
        exact this
      · have h2 := hfn j (by omega)
        rw [add_off, add_off, add_off] at h2
        have e : ((List.range len).map f).getD j (0, 0) = f j := by simp [hj]
        rw [e]
        exact h2
end Go.Proofs.YtmfchcaidfloaaaDoor
namespace Go.Proofs.YtmfchcaidfloaaaDoor
open Go.ChangeShapes Go.WideShapes Go.ChangeAt Go.RowKit
set_option linter.unusedVariables false

theorem szPt_ok (ao : Option Addr) (n c : Nat) (w : World) (hn : n ≤ 1048576) : Calls Tryd.prog 21 #[.slice ao n c, .int .i64 1048576] w fun e w' => e = .returned (.int .i64 (1048576 - n)) ∧ w = w' := by
  have e1 : IntKind.i64.wrap (1048576 - (n : Int)) = 1048576 - (n : Int) := IntWalk.i64_in _ (by omega)
  have e2 : decide (1048576 - (n : Int) < 0) = false := by simp; omega
  go_enter Tryd.func21, Tryd.ntmps21
  go_wp2
  go_ret
  exact ⟨rfl, rfl⟩
theorem szPt_no (ao : Option Addr) (n c : Nat) (w : World) (hn : 1048576 < n) (hm : n ≤ 9223372036854775807) : Calls Tryd.prog 21 #[.slice ao n c, .int .i64 1048576] w fun e w' => e = .returned (.int .i64 (-1)) ∧ w = w' := by
  have e1 : IntKind.i64.wrap (1048576 - (n : Int)) = 1048576 - (n : Int) := IntWalk.i64_in _ (by omega)
  have e2 : decide (1048576 - (n : Int) < 0) = true := by simp; omega
  go_enter Tryd.func21, Tryd.ntmps21
  go_wp2
  go_ret
  exact ⟨rfl, rfl⟩
theorem info_pt : (Tryd.prog.info? 90).map (fun i => (i.zero, i.size, i.bytes)) = some (some (.agg #[.int .i64 0, .int .i64 0]), 2, 16) := by kernel_rfl
theorem make_pts (n : Nat) (hn : n ≤ 1048576) (w : World) : (Instr.makeSlice 56 (.int .i64 (n : Int)) (.int .i64 (n : Int))).run Tryd.prog w = .ok (.slice (some ⟨w.heap.size, 0, none⟩) n n) (w.alloc (.cells (madeCells #[.int .i64 0, .int .i64 0] (n * 2)) 90)) := by
  obtain ⟨i0, hi, hz0, hz1, hz2⟩ := info_parts info_pt
  have h := run_make (P := Tryd.prog) w 56 90 i0 _ Tryd.underlying56 hi hz0 .i64 .i64 n n (by omega) (by omega) (by rw [hz2]; omega) (by omega)
  rw [hz1, show (Value.agg #[.int .i64 0, .int .i64 0]).cells = #[.int .i64 0, .int .i64 0] from rfl] at h
  simpa using h
/-- The cells of a row of points, of which the first k are laid. -/
def ptF (zs : List P2) (k j : Nat) : Value := if j < k * 2 then (if j % 2 = 0 then .int .i64 (zs.getD (j / 2) (0, 0)).1 else .int .i64 (zs.getD (j / 2) (0, 0)).2) else .int .i64 0
theorem made_pts (w : World) (n : Nat) (zs : List P2) (t : TypeId) : (w.alloc (.cells (madeCells #[.int .i64 0, .int .i64 0] (n * 2)) t)).rowIs w.heap.size t (n * 2) (ptF zs 0) := by
  have h := World.rowIs_alloc w (madeCells #[.int .i64 0, .int .i64 0] (n * 2)) t (ptF zs 0) (fun i hi => by
    rw [size_madeCells] at hi
    have h2 : i % 2 = 0 ∨ i % 2 = 1 := by omega
    rcases h2 with h2 | h2 <;> simp [madeCells, hi, ptF, h2])
  rw [size_madeCells] at h
  exact h
theorem ptF_step {zs : List P2} {k : Nat} {x y : Int} (h : zs.getD k (0, 0) = (x, y)) (j : Nat) : (if j = k * 2 + 1 then Value.int .i64 y else if j = k * 2 then Value.int .i64 x else ptF zs k j) = ptF zs (k + 1) j := by
  unfold ptF
  by_cases h1 : j = k * 2 + 1
  · subst h1
    have a1 : (k * 2 + 1) / 2 = k := by omega
    have a2 : (k * 2 + 1) % 2 = 1 := by omega
    rw [if_pos rfl, if_pos (by omega), a1, a2, h]; rfl
  · rw [if_neg h1]
    by_cases h2 : j = k * 2
    · subst h2
      have a1 : (k * 2) / 2 = k := by omega
      have a2 : (k * 2) % 2 = 0 := by omega
      rw [if_pos rfl, if_pos (by omega), a1, a2, h]; rfl
    · rw [if_neg h2]
      by_cases h3 : j < k * 2
      · rw [if_pos h3, if_pos (show j < (k + 1) * 2 by omega)]
      · rw [if_neg h3, if_neg (show ¬ j < (k + 1) * 2 by omega)]
theorem rowIs_below {w w' : World} {b n : Nat} {t : TypeId} {f : Nat → Value} (h : w.rowIs b t n f) (hb : Below w.heap.size w w') : w'.rowIs b t n f := h.of_block (hb.block b h.lt)
theorem rowIs_pts {w : World} {b n : Nat} {t : TypeId} {zs : List P2} (hz : n = zs.length) (h : w.rowIs b t (n * 2) (ptF zs n)) : PtsAt w b zs := by
  refine ⟨h.lt, fun j hj => ?_⟩
  have h1 := h.cell (i := j * 2) (by omega)
  have h2 := h.cell (i := j * 2 + 1) (by omega)
  have a1 : (j * 2) / 2 = j := by omega
  have a2 : (j * 2) % 2 = 0 := by omega
  have a3 : (j * 2 + 1) / 2 = j := by omega
  have a4 : (j * 2 + 1) % 2 = 1 := by omega
  rw [ptF, if_pos (by omega), a1, a2] at h1
  rw [ptF, if_pos (by omega), a3, a4] at h2
  exact ⟨h1, h2⟩
def CopyPost (n : Nat) (zs : List P2) (w : World) (e : Ending) (w' : World) : Prop := ∃ g, e = .returned (.slice (some ⟨g, 0, none⟩) n n) ∧ w.heap.size ≤ g ∧ w'.rowIs g 90 (n * 2) (ptF zs n) ∧ Below w.heap.size w w'
set_option maxRecDepth 100000 in
set_option maxHeartbeats 1000000 in
theorem toPoints_any (ao : Option Addr) (n c : Nat) (zs : List P2) (w : World) (hn : n ≤ 1048576) (hv : LView w ao n zs) :
    Calls Tryd.prog 23 #[.slice ao n c] w (CopyPost n zs w) := by
  have HV := Lib.hid hv
  clear hv
  have hmk := make_pts n hn
  go_enter Tryd.func23, Tryd.ntmps23
  go_wp2
  clear hmk
  go_loopw [4] (fun iv wr => ∃ k : Nat, k ≤ n ∧ iv = .int .i64 k ∧ Hid (wr.rowIs w.heap.size 90 (n * 2) (ptF zs k)) ∧ Hid (Below w.heap.size w wr)) (fun i _ => n - (intOf i).toNat)
  case atStart => exact ⟨0, by omega, rfl, Lib.hid (made_pts w n zs _), Lib.hid (one_alloc _)⟩
  case round =>
    obtain ⟨k, hk, rfl, hr, hb⟩ := hrel
    by_cases hlt : k < n
    · obtain ⟨b, off, rfl, hbw, hcs⟩ := HV.out.2.resolve_left (by omega)
      obtain ⟨c0, c1⟩ := hcs k hlt
      replace c0 := (hb.out.cell (p := ⟨b, off + k * 2, none⟩) hbw).trans c0
      replace c1 := (hb.out.cell (p := ⟨b, off + k * 2 + 1, none⟩) hbw).trans c1
      obtain ⟨x, y, e⟩ : ∃ x y, zs.getD k (0, 0) = (x, y) := ⟨_, _, rfl⟩
      rw [e] at c0 c1
      have HE := Lib.hid (ptF_step e)
      have hgw := hr.out.lt
      have hbr : b < wr.heap.size := Nat.lt_of_lt_of_le hbw hb.out.size
      clear hcs e
      go_wp2_with fail
      refine (toPoint_any _ _ _).mono ?_
      rintro e w1 ⟨rfl, hb1⟩
      have HB1 := Lib.hid hb1
      have hr1 := rowIs_below hr.out hb1
      have d0 := hr1.cell (i := k * 2) (by omega)
      have d1 := hr1.cell (i := k * 2 + 1) (by omega)
      rw [ptF, if_neg (by omega)] at d0 d1
      have f0 := hr1.frozen (k * 2)
      have f1 := hr1.frozen (k * 2 + 1)
      have HR1 := Lib.hid hr1
      clear hb1 hr1 c0 c1
      go_wp2
      go_roundw
      case rel => exact ⟨k + 1, by omega, by go_num, Lib.hid (((HR1.out.set (k * 2) _).set (k * 2 + 1) _).congr (fun j _ => HE.out j)), Lib.hid (((bseq hb.out HB1.out).setCell (Nat.le_refl _) _).setCell (Nat.le_refl _) _)⟩
      case measure => simp [intOf]; omega
    · obtain rfl : k = n := by omega
      go_wp2
      go_ret
      exact ⟨w.heap.size, rfl, Nat.le_refl _, hr.out, hb.out⟩
theorem eqPt_any (x y u v : Int) (w : World) : Calls Tryd.prog 54 #[.agg #[.int .i64 x, .int .i64 y], .agg #[.int .i64 u, .int .i64 v]] w fun e w' => e = .returned (.bool (decide (x = u) && decide (y = v))) ∧ Below w.heap.size w w' := by
  cases hx : decide (x = u)
  · simp only [Bool.false_and]
    have h1 : x ≠ u := by simpa using hx
    go_enter Tryd.func54, Tryd.ntmps54
    go_wp2
    go_ret
    exact ⟨rfl, two_allocs _ _⟩
  · simp only [Bool.true_and]
    obtain rfl : x = u := by simpa using hx
    cases hy : decide (y = v)
    · have h2 : y ≠ v := by simpa using hy
      clear hx
      go_enter Tryd.func54, Tryd.ntmps54
      go_wp2
      go_ret
      exact ⟨rfl, two_allocs _ _⟩
    · obtain rfl : y = v := by simpa using hy
      clear hx hy
      go_enter Tryd.func54, Tryd.ntmps54
      go_wp2
      go_ret
      exact ⟨rfl, two_allocs _ _⟩
set_option maxRecDepth 100000 in
set_option maxHeartbeats 1000000 in
/-- Two slices that hold the same points are equal. -/
theorem eqPts_same (ao bo : Option Addr) (n c d : Nat) (zs : List P2) (w : World) (hn : n ≤ 1048576) (ha : PV w ao n zs) (hb : PV w bo n zs) :
    Calls Tryd.prog 25 #[.slice ao n c, .slice bo n d] w fun e w' => e = .returned (.bool true) ∧ Below w.heap.size w w' := by
  have HA := Lib.hid ha
  have HB := Lib.hid hb
  clear ha hb
  go_enter Tryd.func25, Tryd.ntmps25
  go_wp2
  go_loopw [5] (fun iv wr => ∃ k : Nat, k ≤ n ∧ iv = .int .i64 k ∧ Hid (Below w.heap.size w wr)) (fun i _ => n - (intOf i).toNat)
  case atStart => exact ⟨0, by omega, rfl, Lib.hid (Below.refl _ _)⟩
  case round =>
    obtain ⟨k, hk, rfl, hw⟩ := hrel
    by_cases hlt : k < n
    · have hkz : k < zs.length := by have := HA.out.1; omega
      obtain ⟨a, rfl, hpa⟩ := (HA.out.below hw.out).at (by omega)
      obtain ⟨b, rfl, hpb⟩ := (HB.out.below hw.out).at (by omega)
      have haw := hpa.1
      have hbw := hpb.1
      obtain ⟨x, y, e, a0, a1⟩ := hpa.pt hkz
      obtain ⟨u, v, e', b0, b1⟩ := hpb.pt hkz
      rw [e] at e'
      cases e'
      clear e hpa hpb
      go_wp2
      refine wp_region_below (by kernel_rfl) (by kernel_rfl) ?_
      (refine wq_val (by go_simp) ?_; apply Exists.intro; refine ⟨fun w1 hw1 => ?_, ?_⟩; (obtain ⟨hc, hf⟩ := bcell hw1; clear hw1; go_simp; (try with_reducible rfl)); (try simp only [Act.put, List.setIfInBounds_toArray, List.set_cons_zero, List.set_cons_succ]))
      (refine wq_val (by go_simp) ?_; apply Exists.intro; refine ⟨fun w1 hw1 => ?_, ?_⟩; (obtain ⟨hc, hf⟩ := bcell hw1; clear hw1; go_simp; (try with_reducible rfl)); (try simp only [Act.put, List.setIfInBounds_toArray, List.set_cons_zero, List.set_cons_succ]))
      (refine wq_val (by go_simp) ?_; apply Exists.intro; refine ⟨fun w1 hw1 => ?_, ?_⟩; (obtain ⟨hc, hf⟩ := bcell hw1; clear hw1; go_simp; (try with_reducible rfl)); (try simp only [Act.put, List.setIfInBounds_toArray, List.set_cons_zero, List.set_cons_succ]))
      (refine wq_val (by go_simp) ?_; apply Exists.intro; refine ⟨fun w1 hw1 => ?_, ?_⟩; (obtain ⟨hc, hf⟩ := bcell hw1; clear hw1; go_simp; (try with_reducible rfl)); (try simp only [Act.put, List.setIfInBounds_toArray, List.set_cons_zero, List.set_cons_succ]))
      (refine wq_val (by go_simp) ?_; apply Exists.intro; refine ⟨fun w1 hw1 => ?_, ?_⟩; (obtain ⟨hc, hf⟩ := bcell hw1; clear hw1; go_simp; (try with_reducible rfl)); (try simp only [Act.put, List.setIfInBounds_toArray, List.set_cons_zero, List.set_cons_succ]))
      (refine wq_val (by go_simp) ?_; apply Exists.intro; refine ⟨fun w1 hw1 => ?_, ?_⟩; (obtain ⟨hc, hf⟩ := bcell hw1; clear hw1; go_simp; (try with_reducible rfl)); (try simp only [Act.put, List.setIfInBounds_toArray, List.set_cons_zero, List.set_cons_succ]))
      (refine wq_val (by go_simp) ?_; apply Exists.intro; refine ⟨fun w1 hw1 => ?_, ?_⟩; (obtain ⟨hc, hf⟩ := bcell hw1; clear hw1; go_simp; (try with_reducible rfl)); (try simp only [Act.put, List.setIfInBounds_toArray, List.set_cons_zero, List.set_cons_succ]))
      (refine wq_val (by go_simp) ?_; apply Exists.intro; refine ⟨fun w1 hw1 => ?_, ?_⟩; (obtain ⟨hc, hf⟩ := bcell hw1; clear hw1; go_simp; (try with_reducible rfl)); (try simp only [Act.put, List.setIfInBounds_toArray, List.set_cons_zero, List.set_cons_succ]))
      (refine wq_call 54 (by go_simp) ?_; apply Exists.intro; refine ⟨fun w1 hw1 => ?_, ?_⟩; (clear hw1; go_simp; (try with_reducible rfl)); apply Exists.intro; refine ⟨fun w1 hw1 => ?_, ?_⟩; (exact calls_below hw1 (eqPt_any _ _ _ _ _)); (try simp only [Act.put, List.setIfInBounds_toArray, List.set_cons_zero, List.set_cons_succ]))
      (refine wq_val (by go_simp) ?_; apply Exists.intro; refine ⟨fun w1 hw1 => ?_, ?_⟩; (obtain ⟨hc, hf⟩ := bcell hw1; clear hw1; go_simp; (try with_reducible rfl)); (try simp only [Act.put, List.setIfInBounds_toArray, List.set_cons_zero, List.set_cons_succ]))
      refine wq_nil ?_
      intro w1 hb1
      have HB1 := Lib.hid hb1
      clear hb1
      go_wp2
      go_roundw
      case rel => exact ⟨k + 1, by omega, by go_num, Lib.hid (bseq hw.out HB1.out)⟩
      case measure => simp [intOf]; omega
    · obtain rfl : k = n := by omega
      go_wp2
      go_ret
      exact ⟨rfl, hw.out⟩
end Go.Proofs.YtmfchcaidfloaaaDoor
namespace Go.Proofs.YtmfchcaidfloaaaDoor
open Go.ChangeShapes Go.WideShapes Go.ChangeAt Go.RowKit
set_option linter.unusedVariables false
set_option linter.unusedSimpArgs false

def flatP (zs : List P2) : List Value := zs.flatMap fun z => [.int .i64 z.1, .int .i64 z.2]
theorem flatP_len (zs : List P2) : (flatP zs).length = zs.length * 2 := by
  induction zs with
  | nil => rfl
  | cons z l ih => show (flatP l).length + 2 = _; rw [ih]; simp only [List.length_cons]; omega
theorem flatP_app (xs ys : List P2) : flatP (xs ++ ys) = flatP xs ++ flatP ys := by simp [flatP]
theorem flatP_at {zs : List P2} : ∀ {k : Nat}, k < zs.length → (flatP zs)[k * 2]? = some (.int .i64 (zs.getD k (0, 0)).1) ∧ (flatP zs)[k * 2 + 1]? = some (.int .i64 (zs.getD k (0, 0)).2) := by
  induction zs with
  | nil => intro k h; simp at h
  | cons z l ih =>
    intro k h
    match k, h with
    | 0, _ => exact ⟨rfl, rfl⟩
    | k + 1, h =>
      have h1 := ih (k := k) (by simpa using h)
      have e1 : (k + 1) * 2 = k * 2 + 2 := by omega
      have e2 : (k + 1) * 2 + 1 = k * 2 + 1 + 2 := by omega
      refine ⟨?_, ?_⟩
      · rw [e1]; simpa [flatP] using h1.1
      · rw [e2]; simpa [flatP] using h1.2
theorem flatP_one {zs : List P2} : ∀ u ∈ flatP zs, u.oneCell' = true := by
  intro u hu
  unfold flatP at hu
  obtain ⟨z, _, hz⟩ := List.mem_flatMap.1 hu
  simp at hz
  rcases hz with rfl | rfl <;> rfl
theorem add_lit (g s j : Nat) : Addr.add ⟨g, s, none⟩ j = ⟨g, s + j, none⟩ := by
  unfold Addr.add
  split
  · subst_vars; rfl
  · simp
/-- A piece of the points, as cells from its first one on. -/
theorem pts_cells {w : World} {b : Nat} {zs : List P2} (h : PtsAt w b zs) {s m : Nat} (hs : s + m ≤ zs.length) : ∀ j u, (flatP ((zs.drop s).take m))[j]? = some u → w.cell? (Addr.add ⟨b, s * 2, none⟩ j) = some u := by
  intro j u hj
  have hl : j < m * 2 := by
    have := (List.getElem?_eq_some_iff.1 hj).1
    rw [flatP_len, List.length_take, List.length_drop] at this
    omega
  have hk : j / 2 < ((zs.drop s).take m).length := by rw [List.length_take, List.length_drop]; omega
  have e : ((zs.drop s).take m).getD (j / 2) (0, 0) = zs.getD (s + j / 2) (0, 0) := by
    simp only [List.getD_eq_getElem?_getD, List.getElem?_take, List.getElem?_drop]
    rw [if_pos (by omega)]
  have h1 := flatP_at hk
  have h2 := h.2 (s + j / 2) (by omega)
  rw [e] at h1
  rw [add_lit]
  rcases Nat.mod_two_eq_zero_or_one j with hm | hm
  · have ej : j = j / 2 * 2 := by omega
    rw [show s * 2 + j = (s + j / 2) * 2 by omega, h2.1]
    rw [ej, h1.1] at hj
    exact hj
  · have ej : j = j / 2 * 2 + 1 := by omega
    rw [show s * 2 + j = (s + j / 2) * 2 + 1 by omega, h2.2]
    rw [ej, h1.2] at hj
    exact hj
/-- The call that began in w has made a slice of these points. -/
def NewP (w w' : World) (v : Value) (zs : List P2) : Prop := w'.ownsRow w.heap.size 90 2 v zs.length (flatP zs) ∧ Below w.heap.size w w'
def NewPost (zs : List P2) (w : World) (e : Ending) (w' : World) : Prop := ∃ v, e = .returned v ∧ NewP w w' v zs
theorem own_pts {w : World} {base g cap : Nat} {zs : List P2} (h : w.ownsRow base 90 2 (.slice (some ⟨g, 0, none⟩) zs.length cap) zs.length (flatP zs)) : PtsAt w g zs := by
  refine ⟨(h.lt g rfl).2, fun j hj => ?_⟩
  have h1 := flatP_at hj
  exact ⟨(h.cellAt (j * 2) (by omega)).trans h1.1, (h.cellAt (j * 2 + 1) (by omega)).trans h1.2⟩
theorem own_at {w : World} {base : Nat} {v : Value} {zs : List P2} (h1 : 1 ≤ zs.length) (h : w.ownsRow base 90 2 v zs.length (flatP zs)) :
    ∃ g cap, v = .slice (some ⟨g, 0, none⟩) zs.length cap ∧ base ≤ g ∧ zs.length ≤ cap ∧ cap ≤ maxLen ∧ PtsAt w g zs := by
  rcases id h with ⟨_, ⟨_, h0⟩ | ⟨g, cap, cur, rfl, hb, hg, hc1, hc2, _⟩⟩
  · omega
  · exact ⟨g, cap, rfl, hb, hc1, hc2, own_pts h⟩
theorem NewP.pv {w w' : World} {v : Value} {zs : List P2} (h : NewP w w' v zs) : ∃ ao cap, v = .slice ao zs.length cap ∧ PV w' ao zs.length zs := by
  by_cases h1 : 1 ≤ zs.length
  · obtain ⟨g, cap, rfl, _, _, _, hp⟩ := own_at h1 h.1
    exact ⟨_, _, rfl, pts_PV rfl hp⟩
  · rcases h.1 with ⟨_, ⟨rfl, _⟩ | ⟨g, cap, cur, rfl, _⟩⟩
    · exact ⟨none, 0, by rw [show zs.length = 0 by omega], rfl, Or.inl (by omega)⟩
    · exact ⟨_, _, rfl, rfl, Or.inl (by omega)⟩
theorem grown_below {w w' : World} {row : Option Nat} {B : Nat} (h : w.grownBy w' row) (hB : B ≤ w.heap.size) (hr : ∀ k, row = some k → B ≤ k) : Below B w w' :=
  ⟨h.os, h.tape, h.output, h.size, fun k hk => h.block k (by omega) (fun e => by have := hr k e.symm; omega)⟩
/-- The points from number k on, and then those before it. -/
def rotL (zs : List P2) (k : Nat) : List P2 := zs.drop k ++ zs.take k
theorem rotL_len (zs : List P2) (k : Nat) (hk : k ≤ zs.length) : (rotL zs k).length = zs.length := by simp [rotL]; omega
theorem rotL_flat (zs : List P2) (k : Nat) : flatP (rotL zs k) = flatP ((zs.drop k).take (zs.length - k)) ++ flatP ((zs.drop 0).take k) := by
  rw [rotL, flatP_app, List.drop_zero]
  congr 2
  rw [List.take_of_length_le (by simp)]
end Go.Proofs.YtmfchcaidfloaaaDoor
