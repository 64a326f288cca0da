/- The centre of gravity of a polygon, of spec. -/
import Derived.Test.YtfapacdfpegibaaPolyF5
import Derived.Test.YtfapacdfpegibaaDivSpec
import Derived.Test.YtfapacdfpegibaaLawAid
namespace Go.Proofs.Ytfapacdfpegibaa
open Go.ChangeShapes Go.WideShapes Go.ChangeAt Go.RowKit
set_option linter.unusedVariables false

def wX (zs : List P2) (k : Nat) : Int := ((pt zs k).1 + (pt zs (k + 1)).1) * crF zs k
def wY (zs : List P2) (k : Nat) : Int := ((pt zs k).2 + (pt zs (k + 1)).2) * crF zs k
theorem crF_bd {zs : List P2} (h : allOk zs = true) (h0 : 0 < zs.length) (k : Nat) : -400000000 ≤ crF zs k ∧ crF zs k ≤ 400000000 := cr_bd (pt_ok h h0 k) (pt_ok h h0 (k + 1))
theorem wX_bd {zs : List P2} (h : allOk zs = true) (h0 : 0 < zs.length) (k : Nat) : -16000000000000 ≤ wX zs k ∧ wX zs k ≤ 16000000000000 := by
  have h1 := ok_bd (pt_ok h h0 k)
  have h2 := ok_bd (pt_ok h h0 (k + 1))
  have h3 := crF_bd h h0 k
  have := mulB ((pt zs k).1 + (pt zs (k + 1)).1) (crF zs k) 40000 400000000 (by omega) (by omega) (by omega) (by omega)
  unfold wX
  omega
theorem wY_bd {zs : List P2} (h : allOk zs = true) (h0 : 0 < zs.length) (k : Nat) : -16000000000000 ≤ wY zs k ∧ wY zs k ≤ 16000000000000 := by
  have h1 := ok_bd (pt_ok h h0 k)
  have h2 := ok_bd (pt_ok h h0 (k + 1))
  have h3 := crF_bd h h0 k
  have := mulB ((pt zs k).2 + (pt zs (k + 1)).2) (crF zs k) 40000 400000000 (by omega) (by omega) (by omega) (by omega)
  unfold wY
  omega
def cenX (zs : List P2) : Int := nearI (sumTo (wX zs) zs.length) (3 * areaI zs)
def cenY (zs : List P2) : Int := nearI (sumTo (wY zs) zs.length) (3 * areaI zs)
theorem sums_bd {f : Nat → Int} {k : Nat} (h : ∀ k, -16000000000000 ≤ f k ∧ f k ≤ 16000000000000) (hk : k ≤ 24) : -384000000000000 ≤ sumTo f k ∧ sumTo f k ≤ 384000000000000 := by
  have := sumTo_bd (f := f) (n := k) (M := 16000000000000) (fun j _ => h j)
  omega
set_option maxHeartbeats 1000000 in
theorem cenS_no (ao : Option Addr) (len cap : Nat) (zs : List P2) (w : World) (hl : len ≤ 1048576) (hp : PV w ao len zs) (hv : polyB zs = false) :
    Calls Try.prog 53 #[.slice ao len cap] w fun e w' => e = .returned (.tuple #[.agg #[.int .i64 (0), .int .i64 (0)], .int .i64 1]) ∧ Below w.heap.size w w' := by
  have HP := Lib.hid (hp.below (one_alloc (w := w) (.cells #[.int .i64 0, .int .i64 0] 27)))
  have HV := Lib.hid hv
  clear hp hv
  go_enter Try.func53, Try.ntmps53
  go_wp2_with fail
  refine (ok3_any ao len cap zs _ hl HP.out).mono ?_
  rintro e w1 ⟨rfl, g1⟩
  obtain ⟨k1, q1⟩ := bcell g1
  have HW1 := Lib.hid g1
  have z0 : w.heap.size < w1.heap.size := by have := g1.size; simp at this; omega
  have a0 : w1.cell? ⟨w.heap.size, 0, none⟩ = some (.int .i64 0) := by rw [k1 _ _ (by simp)]; go_simp
  have a1 : w1.cell? ⟨w.heap.size, 1, none⟩ = some (.int .i64 0) := by rw [k1 _ _ (by simp)]; go_simp
  clear g1
  rw [HV.out]
  go_wp2
  exact bodyPost_ret (v := .tuple #[.agg #[.int .i64 (0), .int .i64 (0)], .int .i64 1]) (by simp [results, Try.results53, go_sem, a0, a1]) rfl ⟨rfl, ((bseq (one_alloc _) HW1.out).setCell (Nat.le_refl _) _).setCell (Nat.le_refl _) _⟩
set_option maxHeartbeats 1000000 in
theorem cenI_no (ao : Option Addr) (len cap : Nat) (zs : List P2) (w : World) (hl : len ≤ 1048576) (hp : PV w ao len zs) (hv : polyB zs = false) :
    Calls Try.prog 26 #[.slice ao len cap] w fun e w' => e = .returned (.tuple #[.agg #[.int .i64 (0), .int .i64 (0)], .int .i64 1]) ∧ Below w.heap.size w w' := by
  have HP := Lib.hid (hp.below (one_alloc (w := w) (.cells #[.int .i64 0, .int .i64 0] 27)))
  have HV := Lib.hid hv
  clear hp hv
  go_enter Try.func26, Try.ntmps26
  go_wp2_with fail
  refine (valid_pimpl ao len cap zs _ hl HP.out).mono ?_
  rintro e w1 ⟨rfl, g1⟩
  obtain ⟨k1, q1⟩ := bcell g1
  have HW1 := Lib.hid g1
  have z0 : w.heap.size < w1.heap.size := by have := g1.size; simp at this; omega
  have a0 : w1.cell? ⟨w.heap.size, 0, none⟩ = some (.int .i64 0) := by rw [k1 _ _ (by simp)]; go_simp
  have a1 : w1.cell? ⟨w.heap.size, 1, none⟩ = some (.int .i64 0) := by rw [k1 _ _ (by simp)]; go_simp
  clear g1
  rw [HV.out]
  go_wp2
  exact bodyPost_ret (v := .tuple #[.agg #[.int .i64 (0), .int .i64 (0)], .int .i64 1]) (by simp [results, Try.results26, go_sem, a0, a1]) rfl ⟨rfl, ((bseq (one_alloc _) HW1.out).setCell (Nat.le_refl _) _).setCell (Nat.le_refl _) _⟩
set_option maxRecDepth 100000 in
set_option maxHeartbeats 4000000 in
theorem cenS_yes (ao : Option Addr) (len cap : Nat) (zs : List P2) (w : World) (hl : len ≤ 1048576) (hp : PV w ao len zs) (hv : polyB zs = true) :
    Calls Try.prog 53 #[.slice ao len cap] w fun e w' => e = .returned (.tuple #[.agg #[.int .i64 (cenX zs), .int .i64 (cenY zs)], .int .i64 0]) ∧ Below w.heap.size w w' := by
  have harea := (poly_ok hv).2.2.2.2.2
  obtain ⟨z3, z4, hok, _, _, _⟩ := poly_ok hv
  have hz := hp.1
  obtain ⟨b, hao, hpp⟩ := hp.at (by omega)
  subst hao
  have HQ := Lib.hid hp
  have HP := Lib.hid hpp
  have HT := Lib.hid hv
  have HV := Lib.hid hok
  have HZ := Lib.hid hz
  have l3 : 3 ≤ len := by omega
  have l4 : len ≤ 24 := by omega
  have hbw := hpp.1
  clear hp hpp hv hok hz
  have HQ0 := Lib.hid (HQ.out.below (one_alloc (w := w) (.cells #[.int .i64 0, .int .i64 0] 27)))
  have HP0 := Lib.hid (HP.out.below (one_alloc (w := w) (.cells #[.int .i64 0, .int .i64 0] 27)) hbw)
  have M := Lib.hid (At.new w (.cells #[.int .i64 0, .int .i64 0] 27))
  go_enter Try.func53, Try.ntmps53
  go_wp2_with fail
  refine (ok3_any _ len cap zs _ hl HQ0.out).mono ?_
  rintro e w1 ⟨rfl, g1⟩
  have hb1 : b < w.heap.size + 1 := by omega
  have HP1 := Lib.hid (HP0.out.below g1 (by simpa using hb1))
  have HW1 := Lib.hid g1
  replace M := Lib.hid (M.out.below g1)
  clear g1
  rw [HT.out]
  go_wp2
  go_loopw [4, 5, 6] (fun sx sy iv wr => ∃ k : Nat, k ≤ len ∧ iv = .int .i64 k ∧ sx = .int .i64 (sumTo (wX zs) k) ∧ sy = .int .i64 (sumTo (wY zs) k) ∧ Hid (Below w1.heap.size w1 wr)) (fun _ _ i _ => len - (intOf i).toNat)
  case atStart => exact ⟨0, by omega, rfl, rfl, rfl, Lib.hid (Below.refl _ _)⟩
  case round =>
    obtain ⟨k, hk, rfl, rfl, rfl, hb⟩ := hrel
    by_cases hlt : k < len
    · have hkz : k < zs.length := by have := HZ.out; omega
      have hj : (k + 1) % zs.length < zs.length := Nat.mod_lt _ (by omega)
      have HPP := Lib.hid (HP1.out.below hb.out HP1.out.1)
      have hbr := HPP.out.1
      obtain ⟨x, y, e1, o1, c1, c2⟩ := HPP.out.ok HV.out hkz
      obtain ⟨u, v, e2, o2, d1, d2⟩ := HPP.out.ok HV.out hj
      have b1 := ok_bd o1
      have b2 := ok_bd o2
      have EC : crF zs k = x * v - y * u := by unfold crF crP; rw [pt_lt hkz, e1, pt_at, e2]
      have HX : Hid (sumTo (wX zs) (k + 1) = sumTo (wX zs) k + (x + u) * (x * v - y * u)) := Lib.hid (by show sumTo _ k + wX zs k = _; unfold wX; rw [EC, pt_lt hkz, e1, pt_at, e2])
      have HY : Hid (sumTo (wY zs) (k + 1) = sumTo (wY zs) k + (y + v) * (x * v - y * u)) := Lib.hid (by show sumTo _ k + wY zs k = _; unfold wY; rw [EC, pt_lt hkz, e1, pt_at, e2])
      have sx := sums_bd (k := k) (wX_bd HV.out (by omega)) (by omega)
      have sy := sums_bd (k := k) (wY_bd HV.out (by omega)) (by omega)
      generalize sumTo (wX zs) k = sx' at *
      generalize sumTo (wY zs) k = sy' at *
      have E1 := Lib.hid e1
      have m1 := mulB x v 20000 20000 (by omega) (by omega) (by omega) (by omega)
      have m2 := mulB y u 20000 20000 (by omega) (by omega) (by omega) (by omega)
      have p1 := Int.mul_nonneg (show 0 ≤ x by omega) (show 0 ≤ v by omega)
      have p2 := Int.mul_nonneg (show 0 ≤ y by omega) (show 0 ≤ u by omega)
      have q1 : IntKind.i64.wrap (x * v) = x * v := IntWalk.i64_in _ (by omega)
      have q2 : IntKind.i64.wrap (y * u) = y * u := IntWalk.i64_in _ (by omega)
      have q3 : IntKind.i64.wrap (x * v - y * u) = x * v - y * u := IntWalk.i64_in _ (by omega)
      have q5 : IntKind.i64.wrap (x + u) = x + u := IntWalk.i64_in _ (by omega)
      have q6 : IntKind.i64.wrap (y + v) = y + v := IntWalk.i64_in _ (by omega)
      have hcb : -400000000 ≤ x * v - y * u ∧ x * v - y * u ≤ 400000000 := by omega
      rw [← HZ.out] at hj d1 d2
      have gm : ((k : Int) + 1) % (len : Int) = (((k + 1) % len : Nat) : Int) := mod_int k 1 len
      generalize (k + 1) % len = j at *
      clear e1 e2 o1 o2 EC
      have NB := Lib.hid (At.new wr (.cells #[.int .i64 u, .int .i64 v] 27))
      go_wp2
      refine wp_region_below (by kernel_rfl) (by kernel_rfl) ?_
      (refine wq_val (by go_simp) ?_; apply Exists.intro; refine ⟨fun w1 hw1 => ?_, ?_⟩; (obtain ⟨hc, hf⟩ := bcell hw1; clear hw1; go_simp; (try with_reducible rfl)); (try simp only [Act.put, List.setIfInBounds_toArray, List.set_cons_zero, List.set_cons_succ]))
      (refine wq_val (by go_simp) ?_; apply Exists.intro; refine ⟨fun w1 hw1 => ?_, ?_⟩; (obtain ⟨hc, hf⟩ := bcell hw1; clear hw1; go_simp; (try with_reducible rfl)); (try simp only [Act.put, List.setIfInBounds_toArray, List.set_cons_zero, List.set_cons_succ]))
      (refine wq_val (by go_simp) ?_; apply Exists.intro; refine ⟨fun w1 hw1 => ?_, ?_⟩; (obtain ⟨hc, hf⟩ := bcell hw1; clear hw1; go_simp; (try with_reducible rfl)); (try simp only [Act.put, List.setIfInBounds_toArray, List.set_cons_zero, List.set_cons_succ]))
      (refine wq_val (by go_simp) ?_; apply Exists.intro; refine ⟨fun w1 hw1 => ?_, ?_⟩; (obtain ⟨hc, hf⟩ := bcell hw1; clear hw1; go_simp; (try with_reducible rfl)); (try simp only [Act.put, List.setIfInBounds_toArray, List.set_cons_zero, List.set_cons_succ]))
      (refine wq_val (by go_simp) ?_; apply Exists.intro; refine ⟨fun w1 hw1 => ?_, ?_⟩; (obtain ⟨hc, hf⟩ := bcell hw1; clear hw1; go_simp; (try with_reducible rfl)); (try simp only [Act.put, List.setIfInBounds_toArray, List.set_cons_zero, List.set_cons_succ]))
      (refine wq_val (by go_simp) ?_; apply Exists.intro; refine ⟨fun w1 hw1 => ?_, ?_⟩; (obtain ⟨hc, hf⟩ := bcell hw1; clear hw1; go_simp; (try with_reducible rfl)); (try simp only [Act.put, List.setIfInBounds_toArray, List.set_cons_zero, List.set_cons_succ]))
      (refine wq_val (by go_simp) ?_; apply Exists.intro; refine ⟨fun w1 hw1 => ?_, ?_⟩; (obtain ⟨hc, hf⟩ := bcell hw1; clear hw1; go_simp; (try with_reducible rfl)); (try simp only [Act.put, List.setIfInBounds_toArray, List.set_cons_zero, List.set_cons_succ]))
      (refine wq_val (by go_simp) ?_; apply Exists.intro; refine ⟨fun w1 hw1 => ?_, ?_⟩; (obtain ⟨hc, hf⟩ := bcell hw1; clear hw1; go_simp; (try with_reducible rfl)); (try simp only [Act.put, List.setIfInBounds_toArray, List.set_cons_zero, List.set_cons_succ]))
      (refine wq_val (by go_simp) ?_; apply Exists.intro; refine ⟨fun w1 hw1 => ?_, ?_⟩; (obtain ⟨hc, hf⟩ := bcell hw1; clear hw1; go_simp; (try with_reducible rfl)); (try simp only [Act.put, List.setIfInBounds_toArray, List.set_cons_zero, List.set_cons_succ]))
      (refine wq_val (by go_simp) ?_; apply Exists.intro; refine ⟨fun w1 hw1 => ?_, ?_⟩; (obtain ⟨hc, hf⟩ := bcell hw1; clear hw1; go_simp; (try with_reducible rfl)); (try simp only [Act.put, List.setIfInBounds_toArray, List.set_cons_zero, List.set_cons_succ]))
      (refine wq_val (by go_simp) ?_; apply Exists.intro; refine ⟨fun w1 hw1 => ?_, ?_⟩; (obtain ⟨hc, hf⟩ := bcell hw1; clear hw1; go_simp; (try with_reducible rfl)); (try simp only [Act.put, List.setIfInBounds_toArray, List.set_cons_zero, List.set_cons_succ]))
      (refine wq_val (by go_simp) ?_; apply Exists.intro; refine ⟨fun w1 hw1 => ?_, ?_⟩; (obtain ⟨hc, hf⟩ := bcell hw1; clear hw1; go_simp; (try with_reducible rfl)); (try simp only [Act.put, List.setIfInBounds_toArray, List.set_cons_zero, List.set_cons_succ]))
      (refine wq_val (by go_simp) ?_; apply Exists.intro; refine ⟨fun w1 hw1 => ?_, ?_⟩; (obtain ⟨hc, hf⟩ := bcell hw1; clear hw1; go_simp; (try with_reducible rfl)); (try simp only [Act.put, List.setIfInBounds_toArray, List.set_cons_zero, List.set_cons_succ]))
      (refine wq_val (by go_simp) ?_; apply Exists.intro; refine ⟨fun w1 hw1 => ?_, ?_⟩; (obtain ⟨hc, hf⟩ := bcell hw1; clear hw1; go_simp; (try with_reducible rfl)); (try simp only [Act.put, List.setIfInBounds_toArray, List.set_cons_zero, List.set_cons_succ]))
      (refine wq_val (by go_simp) ?_; apply Exists.intro; refine ⟨fun w1 hw1 => ?_, ?_⟩; (obtain ⟨hc, hf⟩ := bcell hw1; clear hw1; go_simp; (try with_reducible rfl)); (try simp only [Act.put, List.setIfInBounds_toArray, List.set_cons_zero, List.set_cons_succ]))
      (refine wq_val (by go_simp) ?_; apply Exists.intro; refine ⟨fun w1 hw1 => ?_, ?_⟩; (obtain ⟨hc, hf⟩ := bcell hw1; clear hw1; go_simp; (try with_reducible rfl)); (try simp only [Act.put, List.setIfInBounds_toArray, List.set_cons_zero, List.set_cons_succ]))
      (refine wq_val (by go_simp) ?_; apply Exists.intro; refine ⟨fun w1 hw1 => ?_, ?_⟩; (obtain ⟨hc, hf⟩ := bcell hw1; clear hw1; go_simp; (try with_reducible rfl)); (try simp only [Act.put, List.setIfInBounds_toArray, List.set_cons_zero, List.set_cons_succ]))
      (refine wq_val (by go_simp) ?_; apply Exists.intro; refine ⟨fun w1 hw1 => ?_, ?_⟩; (obtain ⟨hc, hf⟩ := bcell hw1; clear hw1; go_simp; (try with_reducible rfl)); (try simp only [Act.put, List.setIfInBounds_toArray, List.set_cons_zero, List.set_cons_succ]))
      refine wq_nil ?_
      intro w2 hb2
      clear c1 c2 d1 d2
      have HP2 := Lib.hid ((HPP.out.below (one_alloc (w := wr) (.cells #[.int .i64 u, .int .i64 v] 27)) hbr).below hb2 (by simp; omega))
      replace NB := Lib.hid (NB.out.below hb2)
      have HB2 := Lib.hid (bseq (one_alloc _) hb2)
      have hbr2 := HP2.out.1
      have hnb2 := heap_lt NB.out
      clear hb2
      obtain ⟨x9, y9, e9, c1, c2⟩ := HP2.out.pt hkz
      rw [E1.out] at e9
      cases e9
      obtain ⟨n0, _, n1, _⟩ := cells2_of NB.out
      generalize hce : x * v - y * u = ce at *
      have HCE := Lib.hid hce
      clear hce q1 q2 q3 m1 m2 p1 p2
      have mx := mulB (x + u) ce 40000 400000000 (by omega) (by omega) (by omega) (by omega)
      have my := mulB (y + v) ce 40000 400000000 (by omega) (by omega) (by omega) (by omega)
      have q7 : IntKind.i64.wrap ((x + u) * ce) = (x + u) * ce := IntWalk.i64_in _ (by omega)
      have q8 : IntKind.i64.wrap ((y + v) * ce) = (y + v) * ce := IntWalk.i64_in _ (by omega)
      have q9 : IntKind.i64.wrap (sx' + (x + u) * ce) = sx' + (x + u) * ce := IntWalk.i64_in _ (by omega)
      have q10 : IntKind.i64.wrap (sy' + (y + v) * ce) = sy' + (y + v) * ce := IntWalk.i64_in _ (by omega)
      go_wp2
      refine wp_region_below (by kernel_rfl) (by kernel_rfl) ?_
      (refine wq_val (by go_simp) ?_; apply Exists.intro; refine ⟨fun w1 hw1 => ?_, ?_⟩; (obtain ⟨hc, hf⟩ := bcell hw1; clear hw1; go_simp; (try with_reducible rfl)); (try simp only [Act.put, List.setIfInBounds_toArray, List.set_cons_zero, List.set_cons_succ]))
      (refine wq_val (by go_simp) ?_; apply Exists.intro; refine ⟨fun w1 hw1 => ?_, ?_⟩; (obtain ⟨hc, hf⟩ := bcell hw1; clear hw1; go_simp; (try with_reducible rfl)); (try simp only [Act.put, List.setIfInBounds_toArray, List.set_cons_zero, List.set_cons_succ]))
      (refine wq_val (by go_simp) ?_; apply Exists.intro; refine ⟨fun w1 hw1 => ?_, ?_⟩; (obtain ⟨hc, hf⟩ := bcell hw1; clear hw1; go_simp; (try with_reducible rfl)); (try simp only [Act.put, List.setIfInBounds_toArray, List.set_cons_zero, List.set_cons_succ]))
      (refine wq_val (by go_simp) ?_; apply Exists.intro; refine ⟨fun w1 hw1 => ?_, ?_⟩; (obtain ⟨hc, hf⟩ := bcell hw1; clear hw1; go_simp; (try with_reducible rfl)); (try simp only [Act.put, List.setIfInBounds_toArray, List.set_cons_zero, List.set_cons_succ]))
      (refine wq_val (by go_simp) ?_; apply Exists.intro; refine ⟨fun w1 hw1 => ?_, ?_⟩; (obtain ⟨hc, hf⟩ := bcell hw1; clear hw1; go_simp; (try with_reducible rfl)); (try simp only [Act.put, List.setIfInBounds_toArray, List.set_cons_zero, List.set_cons_succ]))
      (refine wq_val (by go_simp) ?_; apply Exists.intro; refine ⟨fun w1 hw1 => ?_, ?_⟩; (obtain ⟨hc, hf⟩ := bcell hw1; clear hw1; go_simp; (try with_reducible rfl)); (try simp only [Act.put, List.setIfInBounds_toArray, List.set_cons_zero, List.set_cons_succ]))
      (refine wq_val (by go_simp) ?_; apply Exists.intro; refine ⟨fun w1 hw1 => ?_, ?_⟩; (obtain ⟨hc, hf⟩ := bcell hw1; clear hw1; go_simp; (try with_reducible rfl)); (try simp only [Act.put, List.setIfInBounds_toArray, List.set_cons_zero, List.set_cons_succ]))
      (refine wq_val (by go_simp) ?_; apply Exists.intro; refine ⟨fun w1 hw1 => ?_, ?_⟩; (obtain ⟨hc, hf⟩ := bcell hw1; clear hw1; go_simp; (try with_reducible rfl)); (try simp only [Act.put, List.setIfInBounds_toArray, List.set_cons_zero, List.set_cons_succ]))
      (refine wq_val (by go_simp) ?_; apply Exists.intro; refine ⟨fun w1 hw1 => ?_, ?_⟩; (obtain ⟨hc, hf⟩ := bcell hw1; clear hw1; go_simp; (try with_reducible rfl)); (try simp only [Act.put, List.setIfInBounds_toArray, List.set_cons_zero, List.set_cons_succ]))
      (refine wq_val (by go_simp) ?_; apply Exists.intro; refine ⟨fun w1 hw1 => ?_, ?_⟩; (obtain ⟨hc, hf⟩ := bcell hw1; clear hw1; go_simp; (try with_reducible rfl)); (try simp only [Act.put, List.setIfInBounds_toArray, List.set_cons_zero, List.set_cons_succ]))
      (refine wq_val (by go_simp) ?_; apply Exists.intro; refine ⟨fun w1 hw1 => ?_, ?_⟩; (obtain ⟨hc, hf⟩ := bcell hw1; clear hw1; go_simp; (try with_reducible rfl)); (try simp only [Act.put, List.setIfInBounds_toArray, List.set_cons_zero, List.set_cons_succ]))
      (refine wq_val (by go_simp) ?_; apply Exists.intro; refine ⟨fun w1 hw1 => ?_, ?_⟩; (obtain ⟨hc, hf⟩ := bcell hw1; clear hw1; go_simp; (try with_reducible rfl)); (try simp only [Act.put, List.setIfInBounds_toArray, List.set_cons_zero, List.set_cons_succ]))
      (refine wq_val (by go_simp) ?_; apply Exists.intro; refine ⟨fun w1 hw1 => ?_, ?_⟩; (obtain ⟨hc, hf⟩ := bcell hw1; clear hw1; go_simp; (try with_reducible rfl)); (try simp only [Act.put, List.setIfInBounds_toArray, List.set_cons_zero, List.set_cons_succ]))
      refine wq_nil ?_
      intro w3 hb3
      clear c1 c2 n0 n1
      have HP3 := Lib.hid (HP2.out.below hb3 hbr2)
      replace NB := Lib.hid (NB.out.below hb3)
      have HB3 := Lib.hid (bseq HB2.out hb3)
      have hbr3 := HP3.out.1
      have hnb3 := heap_lt NB.out
      clear hb3
      obtain ⟨x9, y9, e9, c1, c2⟩ := HP3.out.pt hkz
      rw [E1.out] at e9
      cases e9
      obtain ⟨n0, _, n1, _⟩ := cells2_of NB.out
      go_wp2
      refine wp_region_below (by kernel_rfl) (by kernel_rfl) ?_
      (refine wq_val (by go_simp) ?_; apply Exists.intro; refine ⟨fun w1 hw1 => ?_, ?_⟩; (obtain ⟨hc, hf⟩ := bcell hw1; clear hw1; go_simp; (try with_reducible rfl)); (try simp only [Act.put, List.setIfInBounds_toArray, List.set_cons_zero, List.set_cons_succ]))
      (refine wq_val (by go_simp) ?_; apply Exists.intro; refine ⟨fun w1 hw1 => ?_, ?_⟩; (obtain ⟨hc, hf⟩ := bcell hw1; clear hw1; go_simp; (try with_reducible rfl)); (try simp only [Act.put, List.setIfInBounds_toArray, List.set_cons_zero, List.set_cons_succ]))
      (refine wq_val (by go_simp) ?_; apply Exists.intro; refine ⟨fun w1 hw1 => ?_, ?_⟩; (obtain ⟨hc, hf⟩ := bcell hw1; clear hw1; go_simp; (try with_reducible rfl)); (try simp only [Act.put, List.setIfInBounds_toArray, List.set_cons_zero, List.set_cons_succ]))
      (refine wq_val (by go_simp) ?_; apply Exists.intro; refine ⟨fun w1 hw1 => ?_, ?_⟩; (obtain ⟨hc, hf⟩ := bcell hw1; clear hw1; go_simp; (try with_reducible rfl)); (try simp only [Act.put, List.setIfInBounds_toArray, List.set_cons_zero, List.set_cons_succ]))
      (refine wq_val (by go_simp) ?_; apply Exists.intro; refine ⟨fun w1 hw1 => ?_, ?_⟩; (obtain ⟨hc, hf⟩ := bcell hw1; clear hw1; go_simp; (try with_reducible rfl)); (try simp only [Act.put, List.setIfInBounds_toArray, List.set_cons_zero, List.set_cons_succ]))
      (refine wq_val (by go_simp) ?_; apply Exists.intro; refine ⟨fun w1 hw1 => ?_, ?_⟩; (obtain ⟨hc, hf⟩ := bcell hw1; clear hw1; go_simp; (try with_reducible rfl)); (try simp only [Act.put, List.setIfInBounds_toArray, List.set_cons_zero, List.set_cons_succ]))
      (refine wq_val (by go_simp) ?_; apply Exists.intro; refine ⟨fun w1 hw1 => ?_, ?_⟩; (obtain ⟨hc, hf⟩ := bcell hw1; clear hw1; go_simp; (try with_reducible rfl)); (try simp only [Act.put, List.setIfInBounds_toArray, List.set_cons_zero, List.set_cons_succ]))
      (refine wq_val (by go_simp) ?_; apply Exists.intro; refine ⟨fun w1 hw1 => ?_, ?_⟩; (obtain ⟨hc, hf⟩ := bcell hw1; clear hw1; go_simp; (try with_reducible rfl)); (try simp only [Act.put, List.setIfInBounds_toArray, List.set_cons_zero, List.set_cons_succ]))
      (refine wq_val (by go_simp) ?_; apply Exists.intro; refine ⟨fun w1 hw1 => ?_, ?_⟩; (obtain ⟨hc, hf⟩ := bcell hw1; clear hw1; go_simp; (try with_reducible rfl)); (try simp only [Act.put, List.setIfInBounds_toArray, List.set_cons_zero, List.set_cons_succ]))
      (refine wq_val (by go_simp) ?_; apply Exists.intro; refine ⟨fun w1 hw1 => ?_, ?_⟩; (obtain ⟨hc, hf⟩ := bcell hw1; clear hw1; go_simp; (try with_reducible rfl)); (try simp only [Act.put, List.setIfInBounds_toArray, List.set_cons_zero, List.set_cons_succ]))
      (refine wq_val (by go_simp) ?_; apply Exists.intro; refine ⟨fun w1 hw1 => ?_, ?_⟩; (obtain ⟨hc, hf⟩ := bcell hw1; clear hw1; go_simp; (try with_reducible rfl)); (try simp only [Act.put, List.setIfInBounds_toArray, List.set_cons_zero, List.set_cons_succ]))
      (refine wq_val (by go_simp) ?_; apply Exists.intro; refine ⟨fun w1 hw1 => ?_, ?_⟩; (obtain ⟨hc, hf⟩ := bcell hw1; clear hw1; go_simp; (try with_reducible rfl)); (try simp only [Act.put, List.setIfInBounds_toArray, List.set_cons_zero, List.set_cons_succ]))
      (refine wq_val (by go_simp) ?_; apply Exists.intro; refine ⟨fun w1 hw1 => ?_, ?_⟩; (obtain ⟨hc, hf⟩ := bcell hw1; clear hw1; go_simp; (try with_reducible rfl)); (try simp only [Act.put, List.setIfInBounds_toArray, List.set_cons_zero, List.set_cons_succ]))
      refine wq_nil ?_
      intro w4 hb4
      have HB4 := Lib.hid (bseq HB3.out hb4)
      clear hb4
      go_wp2
      go_roundw
      case rel => exact ⟨k + 1, by omega, by go_num, by rw [HX.out], by rw [HY.out], Lib.hid (bseq hb.out HB4.out)⟩
      case measure => simp [intOf]; omega
    · obtain rfl : k = len := by omega
      have HEQ : Hid (k = zs.length) := HZ
      have sx := sums_bd (k := k) (wX_bd HV.out (by have := HZ.out; omega)) (by omega)
      have sy := sums_bd (k := k) (wY_bd HV.out (by have := HZ.out; omega)) (by omega)
      have ab := area_bd HV.out (by have := HZ.out; omega) zs.length
      replace ab : areaI zs ≤ 24 * 400000000 := by unfold areaI; omega
      have q3 : IntKind.i64.wrap (3 * areaI zs) = 3 * areaI zs := IntWalk.i64_in _ (by omega)
      have HCX : Hid (nearI (sumTo (wX zs) k) (3 * areaI zs) = cenX zs) := Lib.hid (by rw [cenX, ← HEQ.out])
      have HCY : Hid (nearI (sumTo (wY zs) k) (3 * areaI zs) = cenY zs) := Lib.hid (by rw [cenY, ← HEQ.out])
      replace M := Lib.hid (M.out.below hb.out)
      go_wp2_with fail
      refine (area_spec b k cap zs _ HEQ.out (by omega) l4 HV.out (HP1.out.below hb.out HP1.out.1)).mono ?_
      rintro e w2 ⟨rfl, hb2⟩
      replace M := Lib.hid (M.out.below hb2)
      have HB2 := Lib.hid (bseq hb.out hb2)
      clear hb2
      go_wp2_with fail
      refine (l01Div_any _ _ _ (by omega) (by omega) (by omega) (by omega) (by omega)).mono ?_
      rintro e w3 ⟨rfl, rfl⟩
      rw [HCX.out]
      go_wp2_with fail
      refine (l01Div_any _ _ _ (by omega) (by omega) (by omega) (by omega) (by omega)).mono ?_
      rintro e w3 ⟨rfl, rfl⟩
      rw [HCY.out]
      obtain ⟨a0, f0, a1, f1⟩ := cells2_of M.out
      have hm := heap_lt M.out
      go_wp2
      exact bodyPost_ret (v := .tuple #[.agg #[.int .i64 (cenX zs), .int .i64 (cenY zs)], .int .i64 0]) (by simp [results, Try.results53, go_sem, a0, a1]) rfl ⟨rfl, ((bseq (one_alloc _) (bseq HW1.out HB2.out)).setCell (Nat.le_refl _) _).setCell (Nat.le_refl _) _⟩
end Go.Proofs.Ytfapacdfpegibaa
