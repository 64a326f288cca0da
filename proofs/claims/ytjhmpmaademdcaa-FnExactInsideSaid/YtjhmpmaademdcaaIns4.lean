/- Both say the same of a valid polygon: its edges pass a point once more in one direction than in the other, or as often. -/
import Derived.Test.YtjhmpmaademdcaaIns2
import Derived.Test.YtjhmpmaademdcaaIns3
namespace Go.Proofs.Ytjhmpmaademdcaa
open Go.ChangeShapes Go.WideShapes Go.ChangeAt Go.RowKit
set_option linter.unusedVariables false
set_option linter.unusedSimpArgs false

theorem pt_per (zs : List P2) (k : Nat) : pt zs (k + zs.length) = pt zs k := by unfold pt; rw [Nat.add_mod_right]
theorem pt_mod (zs : List P2) (k : Nat) : pt zs (k % zs.length) = pt zs k := by unfold pt; rw [Nat.mod_mod]
theorem pt_mod_add (zs : List P2) (k j : Nat) : pt zs (k % zs.length + j) = pt zs (k + j) := by unfold pt; rw [Nat.mod_add_mod]
theorem go_ns {zs : List P2} {k : Nat} (h : goOk zs k = true) : J.NS (pt zs (k + 1)) (pt zs k) (pt zs (k + 2)) := by
  unfold goOk at h
  simp only [Bool.not_eq_true', Bool.or_eq_false_iff] at h
  exact ⟨by rw [J.on_symm]; exact h.1.2, h.2⟩
/-- A valid polygon as a closed way that does not meet itself. -/
theorem poly_smp {zs : List P2} (hv : polyB zs = true) : J.Smp (pt zs) zs.length := by
  obtain ⟨h3, _, _, hg, ha, _⟩ := poly_ok hv
  have hn : 0 < zs.length := by omega
  have goA : ∀ k, goOk zs (k % zs.length) = true := fun k => (allTo_iff _ _).1 hg _ (Nat.mod_lt _ hn)
  have cellA : ∀ i k, i < zs.length → k < zs.length → i + 2 ≤ k → (k + 1) % zs.length ≠ i → tcP (pt zs i) (pt zs (i + 1)) (pt zs k) (pt zs (k + 1)) = false := fun i k hi hk h1 h2 => by
    have := (allTo_iff _ _).1 ((allTo_iff _ _).1 ha i hi) k hk
    unfold cellOk at this
    rw [decide_eq_true h1, decide_eq_true h2] at this
    simpa using this
  refine ⟨h3, pt_per zs, fun k => ?_, fun i j h1 h2 => ?_⟩
  · have := go_ns (goA k)
    rwa [pt_mod_add, pt_mod, pt_mod_add] at this
  · have hi := Nat.mod_lt i hn
    have hk := Nat.mod_lt (i + j) hn
    rw [← pt_mod zs i, ← pt_mod_add zs i 1, ← pt_mod zs (i + j), ← pt_mod_add zs (i + j) 1]
    have e : (i + j) % zs.length = if i % zs.length + j < zs.length then i % zs.length + j else i % zs.length + j - zs.length := by
      rw [Nat.add_mod, Nat.mod_eq_of_lt (show j < zs.length by omega)]
      split
      · rename_i h; exact Nat.mod_eq_of_lt h
      · rw [Nat.mod_eq_sub_mod (by omega), Nat.mod_eq_of_lt (by omega)]
    generalize hx : i % zs.length = x at *
    generalize hy : (i + j) % zs.length = y at *
    by_cases hc : x + j < zs.length
    · rw [if_pos hc] at e
      refine cellA x y hi hk (by omega) ?_
      subst e
      rcases Nat.lt_or_ge (x + j + 1) zs.length with h | h
      · rw [Nat.mod_eq_of_lt h]; omega
      · rw [show x + j + 1 = zs.length by omega, Nat.mod_self]; omega
    · rw [if_neg hc] at e
      have := cellA y x hk hi (by omega) (by
        subst e
        rcases Nat.lt_or_ge (x + 1) zs.length with h | h
        · rw [Nat.mod_eq_of_lt h]; omega
        · rw [show x + 1 = zs.length by omega, Nat.mod_self]; omega)
      rw [← Bool.not_eq_true] at this ⊢
      exact fun h => this (J.tc_symm _ _ _ _ h)
theorem pas_par (zs : List P2) (q : P2) (k : Nat) : ∃ c : Int, 2 * sumTo (pasF zs q) k = 4 * c + (insT zs q k + 1) := by
  induction k with
  | zero => exact ⟨0, by simp [sumTo, insT]⟩
  | succ k ih =>
    obtain ⟨c, hc⟩ := ih
    have hb := pas_bd zs q k
    have hr := insT_rng zs q k
    by_cases h0 : pasF zs q k = 0
    · rw [ins_keep h0 rfl]
      exact ⟨c, by simp only [sumTo]; omega⟩
    · rw [ins_flip h0 rfl]
      simp only [sumTo]
      rcases hr with hr | hr <;> rcases (show pasF zs q k = 1 ∨ pasF zs q k = -1 by omega) with h1 | h1
      · exact ⟨c + 1, by omega⟩
      · exact ⟨c, by omega⟩
      · exact ⟨c, by omega⟩
      · exact ⟨c - 1, by omega⟩
theorem pas_wn (zs : List P2) (q : P2) : sumTo (pasF zs q) zs.length = J.wn (pt zs) zs.length q := by
  unfold J.wn
  exact sumTo_congr fun j _ => pas_cr1 _ _ _
theorem off_all {zs : List P2} {q : P2} (h0 : 0 < zs.length) (h : allTo (offF zs q) zs.length = true) (k : Nat) : onP (pt zs k) (pt zs (k + 1)) q = false := by
  have := (allTo_iff _ _).1 h (k % zs.length) (Nat.mod_lt _ h0)
  unfold offF at this
  rw [pt_mod, pt_mod_add] at this
  simpa using this
theorem ins_same {zs : List P2} (hv : polyB zs = true) (q : P2) : insI zs q = insS zs q := by
  unfold insI insS
  by_cases h : allTo (offF zs q) zs.length = true
  · rw [if_pos h, if_pos h]
    have hs := poly_smp hv
    have hw := hs.wn_off (off_all (by have := hs.n3; omega) h)
    have h01 := hs.WW_01
    obtain ⟨c, hc⟩ := pas_par zs q zs.length
    have hr := insT_rng zs q zs.length
    rw [pas_wn] at hc ⊢
    rcases hr with hr | hr
    · rw [hr] at hc ⊢
      rw [if_neg (by omega)]
    · rw [hr] at hc ⊢
      rw [if_pos (by omega)]
  · rw [if_neg h, if_neg h]
def insR (zs : List P2) (x y : Int) : Int × Int := if polyB zs && okI x y then (insS zs (x, y), 0) else (0, 1)
set_option maxRecDepth 100000 in
set_option maxHeartbeats 1000000 in
theorem inside_spec (ao : Option Addr) (n c : Nat) (zs : List P2) (x y : Int) (w : World) (hn : n ≤ 1048576) (hp : PV w ao n zs) :
    Calls Try.prog 17 #[.slice ao n c, .agg #[.int .i64 x, .int .i64 y]] w fun e w' => e = .returned (.tuple #[.int .i64 (insR zs x y).1, .int .i64 (insR zs x y).2]) ∧ Below w.heap.size w w' := by
  have HN := Lib.hid hp.1
  have HR := Lib.hid (show insR zs x y = if polyB zs && okI x y then (insS zs (x, y), 0) else (0, 1) from rfl)
  generalize insR zs x y = r at *
  obtain ⟨r1, r2⟩ := r
  have HP := Lib.hid hp
  clear hp
  cases c1 : polyB zs with
  | false =>
    have hr : (r1, r2) = ((0 : Int), (1 : Int)) := by rw [HR.out, c1]; rfl
    obtain ⟨rfl, rfl⟩ := Prod.mk.inj hr
    clear hr
    go_enter Try.func17, Try.ntmps17
    go_wp2_with fail
    refine (ok3_any ao n c zs _ hn (HP.out.below (one_alloc _))).mono ?_
    rintro e w1 ⟨rfl, g1⟩
    have HG1 := Lib.hid g1
    clear g1
    rw [c1]
    go_wp2
    go_ret2
    exact ⟨rfl, bseq (one_alloc _) HG1.out⟩
  | true =>
    cases c2 : okI x y with
    | false =>
      have hr : (r1, r2) = ((0 : Int), (1 : Int)) := by rw [HR.out, c1, c2]; rfl
      obtain ⟨rfl, rfl⟩ := Prod.mk.inj hr
      clear hr
      go_enter Try.func17, Try.ntmps17
      go_wp2_with fail
      refine (ok3_any ao n c zs _ hn (HP.out.below (one_alloc _))).mono ?_
      rintro e w1 ⟨rfl, g1⟩
      have HG1 := Lib.hid g1
      obtain ⟨k1, q1⟩ := bcell g1
      clear g1
      rw [c1]
      go_wp2_with fail
      refine (ok_spec x y _).mono ?_
      rintro e w2 ⟨rfl, g2⟩
      have HG2 := Lib.hid (bseq HG1.out g2)
      clear g2 k1 q1
      rw [c2]
      go_wp2
      go_ret2
      exact ⟨rfl, bseq (one_alloc _) HG2.out⟩
    | true =>
      have hr : (r1, r2) = (insS zs (x, y), (0 : Int)) := by rw [HR.out, c1, c2]; rfl
      obtain ⟨rfl, rfl⟩ := Prod.mk.inj hr
      have HOK := Lib.hid (poly_ok c1)
      have h3 : 3 ≤ n := by have := HOK.out; have := HN.out; omega
      have h4 : n ≤ 24 := by have := HOK.out; have := HN.out; omega
      obtain ⟨b, rfl, hpb⟩ := HP.out.at (by omega)
      have hbw := hpb.1
      have HPB := Lib.hid hpb
      clear hpb
      clear hr
      go_enter Try.func17, Try.ntmps17
      go_wp2_with fail
      refine (ok3_any _ n c zs _ hn (HP.out.below (one_alloc _))).mono ?_
      rintro e w1 ⟨rfl, g1⟩
      have HG1 := Lib.hid g1
      obtain ⟨k1, q1⟩ := bcell g1
      clear g1
      rw [c1]
      go_wp2_with fail
      refine (ok_spec x y _).mono ?_
      rintro e w2 ⟨rfl, g2⟩
      have HG2 := Lib.hid (bseq HG1.out g2)
      obtain ⟨k2, q2⟩ := bcell (bseq HG1.out g2)
      clear g2 k1 q1
      rw [c2]
      go_wp2_with fail
      refine (ins_spec b n c zs x y _ HN.out (by omega) h4 HOK.out.2.2.1 (HPB.out.below (bseq (one_alloc _) HG2.out) hbw) c2).mono ?_
      rintro e w3 ⟨rfl, g3⟩
      have HG3 := Lib.hid (bseq HG2.out g3)
      clear g3 k2 q2
      go_wp2
      go_ret2
      exact ⟨rfl, bseq (one_alloc _) HG3.out⟩
set_option maxRecDepth 100000 in
set_option maxHeartbeats 1000000 in
theorem inside_impl (ao : Option Addr) (n c : Nat) (zs : List P2) (x y : Int) (w : World) (hn : n ≤ 1048576) (hp : PV w ao n zs) :
    Calls Try.prog 20 #[.slice ao n c, .agg #[.int .i64 x, .int .i64 y]] w fun e w' => e = .returned (.tuple #[.int .i64 (insR zs x y).1, .int .i64 (insR zs x y).2]) ∧ Below w.heap.size w w' := by
  have HN := Lib.hid hp.1
  have HR := Lib.hid (show insR zs x y = if polyB zs && okI x y then (insS zs (x, y), 0) else (0, 1) from rfl)
  generalize insR zs x y = r at *
  obtain ⟨r1, r2⟩ := r
  have HP := Lib.hid hp
  clear hp
  cases c1 : polyB zs with
  | false =>
    have hr : (r1, r2) = ((0 : Int), (1 : Int)) := by rw [HR.out, c1]; rfl
    obtain ⟨rfl, rfl⟩ := Prod.mk.inj hr
    clear hr
    go_enter Try.func20, Try.ntmps20
    go_wp2_with fail
    refine (valid_pimpl ao n c zs _ hn (HP.out.below (one_alloc _))).mono ?_
    rintro e w1 ⟨rfl, g1⟩
    have HG1 := Lib.hid g1
    clear g1
    rw [c1]
    go_wp2
    go_ret2
    exact ⟨rfl, bseq (one_alloc _) HG1.out⟩
  | true =>
    cases c2 : okI x y with
    | false =>
      have hr : (r1, r2) = ((0 : Int), (1 : Int)) := by rw [HR.out, c1, c2]; rfl
      obtain ⟨rfl, rfl⟩ := Prod.mk.inj hr
      clear hr
      go_enter Try.func20, Try.ntmps20
      go_wp2_with fail
      refine (valid_pimpl ao n c zs _ hn (HP.out.below (one_alloc _))).mono ?_
      rintro e w1 ⟨rfl, g1⟩
      have HG1 := Lib.hid g1
      obtain ⟨k1, q1⟩ := bcell g1
      clear g1
      rw [c1]
      go_wp2_with fail
      refine (valid_impl x y _).mono ?_
      rintro e w2 ⟨rfl, g2⟩
      have HG2 := Lib.hid (bseq HG1.out g2)
      clear g2 k1 q1
      rw [c2]
      go_wp2
      go_ret2
      exact ⟨rfl, bseq (one_alloc _) HG2.out⟩
    | true =>
      have hr : (r1, r2) = (insI zs (x, y), (0 : Int)) := by rw [HR.out, c1, c2, ins_same c1]; rfl
      obtain ⟨rfl, rfl⟩ := Prod.mk.inj hr
      have HOK := Lib.hid (poly_ok c1)
      have h3 : 3 ≤ n := by have := HOK.out; have := HN.out; omega
      have h4 : n ≤ 24 := by have := HOK.out; have := HN.out; omega
      obtain ⟨b, rfl, hpb⟩ := HP.out.at (by omega)
      have hbw := hpb.1
      have HPB := Lib.hid hpb
      clear hpb
      clear hr
      go_enter Try.func20, Try.ntmps20
      go_wp2_with fail
      refine (valid_pimpl _ n c zs _ hn (HP.out.below (one_alloc _))).mono ?_
      rintro e w1 ⟨rfl, g1⟩
      have HG1 := Lib.hid g1
      obtain ⟨k1, q1⟩ := bcell g1
      clear g1
      rw [c1]
      go_wp2_with fail
      refine (valid_impl x y _).mono ?_
      rintro e w2 ⟨rfl, g2⟩
      have HG2 := Lib.hid (bseq HG1.out g2)
      obtain ⟨k2, q2⟩ := bcell (bseq HG1.out g2)
      clear g2 k1 q1
      rw [c2]
      go_wp2_with fail
      refine (place_W b n c zs x y _ HN.out (by omega) h4 (allW_of HOK.out.2.2.1) (HPB.out.below (bseq (one_alloc _) HG2.out) hbw) (okW_of c2)).mono ?_
      rintro e w3 ⟨rfl, g3⟩
      have HG3 := Lib.hid (bseq HG2.out g3)
      clear g3 k2 q2
      go_wp2
      go_ret2
      exact ⟨rfl, bseq (one_alloc _) HG3.out⟩
end Go.Proofs.Ytjhmpmaademdcaa
