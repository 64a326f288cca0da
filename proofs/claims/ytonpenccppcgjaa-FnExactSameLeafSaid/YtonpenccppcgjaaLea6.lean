/- Are two leaves equal: spec and impl. -/
import Derived.Test.YtonpenccppcgjaaSbLeaf
import Derived.Test.YtonpenccppcgjaaFeVeneer
import Derived.Test.YtonpenccppcgjaaFeBox
import Derived.Test.YtonpenccppcgjaaAtV
namespace Go.Proofs.Ytonpenccppcgjaa
open Seq2 Go.ChangeShapes Go.WideShapes Go.ChangeAt Go.RowKit
set_option linter.unusedVariables false
set_option linter.unusedSimpArgs false

def samLf (a b : Lf) : Bool := decide (a.id = b.id ∧ a.fl = b.fl ∧ a.nu = b.nu ∧ a.ve = b.ve ∧ a.wd = b.wd ∧ a.ln = b.ln ∧ a.df = b.df)
set_option maxRecDepth 100000 in
set_option maxHeartbeats 16000000 in
theorem samL_impl (u v : Value) (a b : Lf) (w : World) (ha : LfV w u a) (hb : LfV w v b) : Calls Try.prog 11 #[u, v] w fun e w' => e = .returned (.bool (samLf a b)) ∧ Below w.heap.size w w' := by
  obtain ⟨ao, n, c, rfl, _, _, _, _, _, _, _, hn, hd⟩ := ha.out
  obtain ⟨ao', n', c', rfl, _, _, _, _, _, _, _, hn', hd'⟩ := hb.out
  obtain ⟨i, f, nu, ⟨s, g, r⟩, W, L, D⟩ := a
  obtain ⟨i', f', nu', ⟨s', g', r'⟩, W', L', D'⟩ := b
  simp only at hd hd' ⊢
  have HA := Lib.hid (two_allocs (w := w) (.cells #[.string i, .string f, .int .i64 nu, .string s, .int .i64 g, .int .i64 r, .int .i64 W, .int .i64 L, .slice ao n c] 38) (.cells #[.string i', .string f', .int .i64 nu', .string s', .int .i64 g', .int .i64 r', .int .i64 W', .int .i64 L', .slice ao' n' c'] 38))
  have HV := Lib.hid (hd.below HA.out)
  have HV' := Lib.hid (hd'.below HA.out)
  have HK := Lib.hid (And.intro hn hn')
  clear ha hb hd hd'
  have HR0 := Lib.hid (show samLf ⟨i, f, nu, (s, g, r), W, L, D⟩ ⟨i', f', nu', (s', g', r'), W', L', D'⟩ = decide (i = i' ∧ f = f' ∧ nu = nu' ∧ (s, g, r) = (s', g', r') ∧ W = W' ∧ L = L' ∧ D = D') from rfl)
  by_cases h1 : i = i'
  rotate_left
  · skip
    have HR := Lib.hid (show _ = false from HR0.out.trans (by simp [h1]))
    try have n0 := tol_ne h1
    have n1 : (i.toList == i'.toList) = false := by simpa using n0
    go_enter Try.func11, Try.ntmps11
    go_wp2
    go_ret
    exact ⟨ret_bool' HR.out.symm, HA.out⟩
  subst h1
  by_cases h2 : f = f'
  rotate_left
  · skip
    have HR := Lib.hid (show _ = false from HR0.out.trans (by simp [h2]))
    try have n0 := tol_ne h2
    have n1 : (f.toList == f'.toList) = false := by simpa using n0
    go_enter Try.func11, Try.ntmps11
    go_wp2
    go_ret
    exact ⟨ret_bool' HR.out.symm, HA.out⟩
  subst h2
  by_cases h3 : nu = nu'
  rotate_left
  · skip
    have HR := Lib.hid (show _ = false from HR0.out.trans (by simp [h3]))
    try have n0 := tol_ne h3
    have n1 : (nu == nu') = false := by simpa using h3
    have n2 : decide (nu = nu') = false := by simpa using h3
    go_enter Try.func11, Try.ntmps11
    go_wp2
    go_ret
    exact ⟨ret_bool' HR.out.symm, HA.out⟩
  subst h3
  by_cases h4 : s = s'
  rotate_left
  · skip
    have HR := Lib.hid (show _ = false from HR0.out.trans (by simp [h4]))
    try have n0 := tol_ne h4
    have n1 : (s.toList == s'.toList) = false := by simpa using n0
    go_enter Try.func11, Try.ntmps11
    go_wp2
    go_ret
    exact ⟨ret_bool' HR.out.symm, HA.out⟩
  subst h4
  by_cases h5 : g = g'
  rotate_left
  · skip
    have HR := Lib.hid (show _ = false from HR0.out.trans (by simp [h5]))
    try have n0 := tol_ne h5
    have n1 : (g == g') = false := by simpa using h5
    have n2 : decide (g = g') = false := by simpa using h5
    go_enter Try.func11, Try.ntmps11
    go_wp2
    go_ret
    exact ⟨ret_bool' HR.out.symm, HA.out⟩
  subst h5
  by_cases h6 : r = r'
  rotate_left
  · skip
    have HR := Lib.hid (show _ = false from HR0.out.trans (by simp [h6]))
    try have n0 := tol_ne h6
    have n1 : (r == r') = false := by simpa using h6
    have n2 : decide (r = r') = false := by simpa using h6
    go_enter Try.func11, Try.ntmps11
    go_wp2
    go_ret
    exact ⟨ret_bool' HR.out.symm, HA.out⟩
  subst h6
  by_cases h7 : W = W'
  rotate_left
  · skip
    have HR := Lib.hid (show _ = false from HR0.out.trans (by simp [h7]))
    try have n0 := tol_ne h7
    have n1 : (W == W') = false := by simpa using h7
    have n2 : decide (W = W') = false := by simpa using h7
    go_enter Try.func11, Try.ntmps11
    go_wp2
    go_ret
    exact ⟨ret_bool' HR.out.symm, HA.out⟩
  subst h7
  by_cases h8 : L = L'
  rotate_left
  · skip
    have HR := Lib.hid (show _ = false from HR0.out.trans (by simp [h8]))
    try have n0 := tol_ne h8
    have n1 : (L == L') = false := by simpa using h8
    have n2 : decide (L = L') = false := by simpa using h8
    go_enter Try.func11, Try.ntmps11
    go_wp2
    go_ret
    exact ⟨ret_bool' HR.out.symm, HA.out⟩
  subst h8
  have HR := Lib.hid (show _ = decide (D = D') from HR0.out.trans (by simp))
  go_enter Try.func11, Try.ntmps11
  go_wp2_with fail
  refine (equal_Bxs ao ao' n n' c c' D D' _ HK.out.1 HK.out.2 HV.out HV'.out).mono ?_
  rintro e1 w1 ⟨rfl, g1⟩
  have HG := Lib.hid (bseq HA.out g1)
  clear g1
  go_wp2
  go_ret
  exact ⟨ret_bool' HR.out.symm, HG.out⟩
/-- A leaf lies in block b from offset o on. -/
def LfAt6 (w : World) (b : Nat) (z : Lf) : Prop := ∃ v, LfV w v z ∧ AtV w b 0 v
set_option maxRecDepth 100000 in
set_option maxHeartbeats 16000000 in
theorem samL_l09 (p q : Nat) (a b : Lf) (w : World) (ha : LfAt6 w p a) (hb : LfAt6 w q b) : Calls Try.prog 19 #[.pointer (some ⟨p, 0, none⟩), .pointer (some ⟨q, 0, none⟩)] w fun e w' => e = .returned (.bool (samLf a b)) ∧ Below w.heap.size w w' := by
  obtain ⟨u, ha, hat⟩ := ha
  obtain ⟨v, hb, hbt⟩ := hb
  obtain ⟨ao, n, c, rfl, _, _, _, _, _, _, _, hn, hd⟩ := ha.out
  obtain ⟨ao', n', c', rfl, _, _, _, _, _, _, _, hn', hd'⟩ := hb.out
  obtain ⟨i, f, nu, ⟨s, g, r⟩, W, L, D⟩ := a
  obtain ⟨i', f', nu', ⟨s', g', r'⟩, W', L', D'⟩ := b
  simp only at hd hd' hat hbt ⊢
  have HV := Lib.hid hd
  have HV' := Lib.hid hd'
  have HK := Lib.hid (And.intro hn hn')
  have HZ := Lib.hid (And.intro hd.1 hd'.1)
  have HAT := Lib.hid hat
  have HBT := Lib.hid hbt
  have hp := hat.1
  have hq := hbt.1
  have a0 : w.cell? ⟨p, 0, none⟩ = some (.string i) := hat.at 0 rfl
  have a1 : w.cell? ⟨p, 1, none⟩ = some (.string f) := by have := hat.at 1 rfl; rwa [Nat.zero_add] at this
  have a2 : w.cell? ⟨p, 2, none⟩ = some (.int .i64 nu) := by have := hat.at 2 rfl; rwa [Nat.zero_add] at this
  have a3 : w.cell? ⟨p, 3, none⟩ = some (.string s) := by have := hat.at 3 rfl; rwa [Nat.zero_add] at this
  have a4 : w.cell? ⟨p, 4, none⟩ = some (.int .i64 g) := by have := hat.at 4 rfl; rwa [Nat.zero_add] at this
  have a5 : w.cell? ⟨p, 5, none⟩ = some (.int .i64 r) := by have := hat.at 5 rfl; rwa [Nat.zero_add] at this
  have a6 : w.cell? ⟨p, 6, none⟩ = some (.int .i64 W) := by have := hat.at 6 rfl; rwa [Nat.zero_add] at this
  have a7 : w.cell? ⟨p, 7, none⟩ = some (.int .i64 L) := by have := hat.at 7 rfl; rwa [Nat.zero_add] at this
  have a8 : w.cell? ⟨p, 8, none⟩ = some (.slice ao n c) := by have := hat.at 8 rfl; rwa [Nat.zero_add] at this
  have b0 : w.cell? ⟨q, 0, none⟩ = some (.string i') := hbt.at 0 rfl
  have b1 : w.cell? ⟨q, 1, none⟩ = some (.string f') := by have := hbt.at 1 rfl; rwa [Nat.zero_add] at this
  have b2 : w.cell? ⟨q, 2, none⟩ = some (.int .i64 nu') := by have := hbt.at 2 rfl; rwa [Nat.zero_add] at this
  have b3 : w.cell? ⟨q, 3, none⟩ = some (.string s') := by have := hbt.at 3 rfl; rwa [Nat.zero_add] at this
  have b4 : w.cell? ⟨q, 4, none⟩ = some (.int .i64 g') := by have := hbt.at 4 rfl; rwa [Nat.zero_add] at this
  have b5 : w.cell? ⟨q, 5, none⟩ = some (.int .i64 r') := by have := hbt.at 5 rfl; rwa [Nat.zero_add] at this
  have b6 : w.cell? ⟨q, 6, none⟩ = some (.int .i64 W') := by have := hbt.at 6 rfl; rwa [Nat.zero_add] at this
  have b7 : w.cell? ⟨q, 7, none⟩ = some (.int .i64 L') := by have := hbt.at 7 rfl; rwa [Nat.zero_add] at this
  have b8 : w.cell? ⟨q, 8, none⟩ = some (.slice ao' n' c') := by have := hbt.at 8 rfl; rwa [Nat.zero_add] at this
  clear ha hb hd hd' hat hbt
  have HR0 := Lib.hid (show samLf ⟨i, f, nu, (s, g, r), W, L, D⟩ ⟨i', f', nu', (s', g', r'), W', L', D'⟩ = decide (i = i' ∧ f = f' ∧ nu = nu' ∧ (s, g, r) = (s', g', r') ∧ W = W' ∧ L = L' ∧ D = D') from rfl)
  by_cases h1 : i = i'
  rotate_left
  · skip
    have HR := Lib.hid (show _ = false from HR0.out.trans (by simp [h1]))
    try have n0 := tol_ne h1
    have n1 : (i.toList == i'.toList) = false := by simpa using n0
    clear a1 b1 a2 b2 a3 b3 a4 b4 a5 b5 a6 b6 a7 b7 a8 b8
    go_enter Try.func19, Try.ntmps19
    go_wp2
    refine wp_region_below (by kernel_rfl) (by kernel_rfl) ?_
    repeat (first | (refine wq_val ?_ ?_; (focus (go_simp; done)); apply Exists.intro; refine ⟨fun w1 hw1 => ?_, ?_⟩; (obtain ⟨hc, hf⟩ := bcell hw1; clear hw1; go_simp; (first | done | with_reducible rfl | (with_reducible exact eql2 _ _ _) | (with_reducible exact neq2 _ _ _))); (try simp only [Act.put, List.setIfInBounds_toArray, List.set_cons_zero, List.set_cons_succ])) | (refine wq_skip ?_ ?_; (focus (go_simp; (first | done | (simp [undef]; done)))); (try simp only [Act.put, List.setIfInBounds_toArray, List.set_cons_zero, List.set_cons_succ])))
    refine wq_nil ?_
    intro w1 hb1
    have HB1 := Lib.hid hb1
    clear hb1
    go_wp2
    go_ret
    exact ⟨ret_bool' HR.out.symm, HB1.out⟩
  subst h1
  by_cases h2 : f = f'
  rotate_left
  · skip
    have HR := Lib.hid (show _ = false from HR0.out.trans (by simp [h2]))
    try have n0 := tol_ne h2
    have n1 : (f.toList == f'.toList) = false := by simpa using n0
    clear a2 b2 a3 b3 a4 b4 a5 b5 a6 b6 a7 b7 a8 b8
    go_enter Try.func19, Try.ntmps19
    go_wp2
    refine wp_region_below (by kernel_rfl) (by kernel_rfl) ?_
    repeat (first | (refine wq_val ?_ ?_; (focus (go_simp; done)); apply Exists.intro; refine ⟨fun w1 hw1 => ?_, ?_⟩; (obtain ⟨hc, hf⟩ := bcell hw1; clear hw1; go_simp; (first | done | with_reducible rfl | (with_reducible exact eql2 _ _ _) | (with_reducible exact neq2 _ _ _))); (try simp only [Act.put, List.setIfInBounds_toArray, List.set_cons_zero, List.set_cons_succ])) | (refine wq_skip ?_ ?_; (focus (go_simp; (first | done | (simp [undef]; done)))); (try simp only [Act.put, List.setIfInBounds_toArray, List.set_cons_zero, List.set_cons_succ])))
    refine wq_nil ?_
    intro w1 hb1
    have HB1 := Lib.hid hb1
    clear hb1
    go_wp2
    go_ret
    exact ⟨ret_bool' HR.out.symm, HB1.out⟩
  subst h2
  by_cases h3 : nu = nu'
  rotate_left
  · skip
    have HR := Lib.hid (show _ = false from HR0.out.trans (by simp [h3]))
    try have n0 := tol_ne h3
    have n1 : (nu == nu') = false := by simpa using h3
    have n2 : decide (nu = nu') = false := by simpa using h3
    clear a3 b3 a4 b4 a5 b5 a6 b6 a7 b7 a8 b8
    go_enter Try.func19, Try.ntmps19
    go_wp2
    refine wp_region_below (by kernel_rfl) (by kernel_rfl) ?_
    repeat (first | (refine wq_val ?_ ?_; (focus (go_simp; done)); apply Exists.intro; refine ⟨fun w1 hw1 => ?_, ?_⟩; (obtain ⟨hc, hf⟩ := bcell hw1; clear hw1; go_simp; (first | done | with_reducible rfl | (with_reducible exact eql2 _ _ _) | (with_reducible exact neq2 _ _ _))); (try simp only [Act.put, List.setIfInBounds_toArray, List.set_cons_zero, List.set_cons_succ])) | (refine wq_skip ?_ ?_; (focus (go_simp; (first | done | (simp [undef]; done)))); (try simp only [Act.put, List.setIfInBounds_toArray, List.set_cons_zero, List.set_cons_succ])))
    refine wq_nil ?_
    intro w1 hb1
    have HB1 := Lib.hid hb1
    clear hb1
    go_wp2
    go_ret
    exact ⟨ret_bool' HR.out.symm, HB1.out⟩
  subst h3
  by_cases h4 : s = s'
  rotate_left
  · skip
    have HR := Lib.hid (show _ = false from HR0.out.trans (by simp [h4]))
    try have n0 := tol_ne h4
    have n1 : (s.toList == s'.toList) = false := by simpa using n0
    clear a6 b6 a7 b7 a8 b8
    go_enter Try.func19, Try.ntmps19
    go_wp2
    refine wp_region_below (by kernel_rfl) (by kernel_rfl) ?_
    repeat (first | (refine wq_val ?_ ?_; (focus (go_simp; done)); apply Exists.intro; refine ⟨fun w1 hw1 => ?_, ?_⟩; (obtain ⟨hc, hf⟩ := bcell hw1; clear hw1; go_simp; (first | done | with_reducible rfl | (with_reducible exact eql2 _ _ _) | (with_reducible exact neq2 _ _ _))); (try simp only [Act.put, List.setIfInBounds_toArray, List.set_cons_zero, List.set_cons_succ])) | (refine wq_skip ?_ ?_; (focus (go_simp; (first | done | (simp [undef]; done)))); (try simp only [Act.put, List.setIfInBounds_toArray, List.set_cons_zero, List.set_cons_succ])))
    refine wq_nil ?_
    intro w1 hb1
    have HB1 := Lib.hid hb1
    clear hb1
    go_wp2
    go_ret
    exact ⟨ret_bool' HR.out.symm, HB1.out⟩
  subst h4
  by_cases h5 : g = g'
  rotate_left
  · skip
    have HR := Lib.hid (show _ = false from HR0.out.trans (by simp [h5]))
    try have n0 := tol_ne h5
    have n1 : (g == g') = false := by simpa using h5
    have n2 : decide (g = g') = false := by simpa using h5
    clear a6 b6 a7 b7 a8 b8
    go_enter Try.func19, Try.ntmps19
    go_wp2
    refine wp_region_below (by kernel_rfl) (by kernel_rfl) ?_
    repeat (first | (refine wq_val ?_ ?_; (focus (go_simp; done)); apply Exists.intro; refine ⟨fun w1 hw1 => ?_, ?_⟩; (obtain ⟨hc, hf⟩ := bcell hw1; clear hw1; go_simp; (first | done | with_reducible rfl | (with_reducible exact eql2 _ _ _) | (with_reducible exact neq2 _ _ _))); (try simp only [Act.put, List.setIfInBounds_toArray, List.set_cons_zero, List.set_cons_succ])) | (refine wq_skip ?_ ?_; (focus (go_simp; (first | done | (simp [undef]; done)))); (try simp only [Act.put, List.setIfInBounds_toArray, List.set_cons_zero, List.set_cons_succ])))
    refine wq_nil ?_
    intro w1 hb1
    have HB1 := Lib.hid hb1
    clear hb1
    go_wp2
    go_ret
    exact ⟨ret_bool' HR.out.symm, HB1.out⟩
  subst h5
  by_cases h6 : r = r'
  rotate_left
  · skip
    have HR := Lib.hid (show _ = false from HR0.out.trans (by simp [h6]))
    try have n0 := tol_ne h6
    have n1 : (r == r') = false := by simpa using h6
    have n2 : decide (r = r') = false := by simpa using h6
    clear a6 b6 a7 b7 a8 b8
    go_enter Try.func19, Try.ntmps19
    go_wp2
    refine wp_region_below (by kernel_rfl) (by kernel_rfl) ?_
    repeat (first | (refine wq_val ?_ ?_; (focus (go_simp; done)); apply Exists.intro; refine ⟨fun w1 hw1 => ?_, ?_⟩; (obtain ⟨hc, hf⟩ := bcell hw1; clear hw1; go_simp; (first | done | with_reducible rfl | (with_reducible exact eql2 _ _ _) | (with_reducible exact neq2 _ _ _))); (try simp only [Act.put, List.setIfInBounds_toArray, List.set_cons_zero, List.set_cons_succ])) | (refine wq_skip ?_ ?_; (focus (go_simp; (first | done | (simp [undef]; done)))); (try simp only [Act.put, List.setIfInBounds_toArray, List.set_cons_zero, List.set_cons_succ])))
    refine wq_nil ?_
    intro w1 hb1
    have HB1 := Lib.hid hb1
    clear hb1
    go_wp2
    go_ret
    exact ⟨ret_bool' HR.out.symm, HB1.out⟩
  subst h6
  by_cases h7 : W = W'
  rotate_left
  · skip
    have HR := Lib.hid (show _ = false from HR0.out.trans (by simp [h7]))
    try have n0 := tol_ne h7
    have n1 : (W == W') = false := by simpa using h7
    have n2 : decide (W = W') = false := by simpa using h7
    clear a7 b7 a8 b8
    go_enter Try.func19, Try.ntmps19
    go_wp2
    refine wp_region_below (by kernel_rfl) (by kernel_rfl) ?_
    repeat (first | (refine wq_val ?_ ?_; (focus (go_simp; done)); apply Exists.intro; refine ⟨fun w1 hw1 => ?_, ?_⟩; (obtain ⟨hc, hf⟩ := bcell hw1; clear hw1; go_simp; (first | done | with_reducible rfl | (with_reducible exact eql2 _ _ _) | (with_reducible exact neq2 _ _ _))); (try simp only [Act.put, List.setIfInBounds_toArray, List.set_cons_zero, List.set_cons_succ])) | (refine wq_skip ?_ ?_; (focus (go_simp; (first | done | (simp [undef]; done)))); (try simp only [Act.put, List.setIfInBounds_toArray, List.set_cons_zero, List.set_cons_succ])))
    refine wq_nil ?_
    intro w1 hb1
    have HB1 := Lib.hid hb1
    clear hb1
    go_wp2
    go_ret
    exact ⟨ret_bool' HR.out.symm, HB1.out⟩
  subst h7
  by_cases h8 : L = L'
  rotate_left
  · skip
    have HR := Lib.hid (show _ = false from HR0.out.trans (by simp [h8]))
    try have n0 := tol_ne h8
    have n1 : (L == L') = false := by simpa using h8
    have n2 : decide (L = L') = false := by simpa using h8
    clear a8 b8
    go_enter Try.func19, Try.ntmps19
    go_wp2
    refine wp_region_below (by kernel_rfl) (by kernel_rfl) ?_
    repeat (first | (refine wq_val ?_ ?_; (focus (go_simp; done)); apply Exists.intro; refine ⟨fun w1 hw1 => ?_, ?_⟩; (obtain ⟨hc, hf⟩ := bcell hw1; clear hw1; go_simp; (first | done | with_reducible rfl | (with_reducible exact eql2 _ _ _) | (with_reducible exact neq2 _ _ _))); (try simp only [Act.put, List.setIfInBounds_toArray, List.set_cons_zero, List.set_cons_succ])) | (refine wq_skip ?_ ?_; (focus (go_simp; (first | done | (simp [undef]; done)))); (try simp only [Act.put, List.setIfInBounds_toArray, List.set_cons_zero, List.set_cons_succ])))
    refine wq_nil ?_
    intro w1 hb1
    have HB1 := Lib.hid hb1
    clear hb1
    go_wp2
    go_ret
    exact ⟨ret_bool' HR.out.symm, HB1.out⟩
  subst h8
  by_cases h9 : n = n'
  rotate_left
  · skip
    have HR := Lib.hid (show _ = false from HR0.out.trans (by simp; intro h; have := HZ.out; rw [h] at this; omega))
    have n1 : ((n : Int) != (n' : Int)) = true := by simp; omega
    have n2 : ¬ ((n : Int) = (n' : Int)) := by omega
    go_enter Try.func19, Try.ntmps19
    go_wp2
    refine wp_region_below (by kernel_rfl) (by kernel_rfl) ?_
    repeat (first | (refine wq_val ?_ ?_; (focus (go_simp; done)); apply Exists.intro; refine ⟨fun w1 hw1 => ?_, ?_⟩; (obtain ⟨hc, hf⟩ := bcell hw1; clear hw1; go_simp; (first | done | with_reducible rfl | (with_reducible exact eql2 _ _ _) | (with_reducible exact neq2 _ _ _))); (try simp only [Act.put, List.setIfInBounds_toArray, List.set_cons_zero, List.set_cons_succ])) | (refine wq_skip ?_ ?_; (focus (go_simp; (first | done | (simp [undef]; done)))); (try simp only [Act.put, List.setIfInBounds_toArray, List.set_cons_zero, List.set_cons_succ])))
    refine wq_nil ?_
    intro w1 hb1
    have HB1 := Lib.hid hb1
    clear hb1
    go_wp2
    go_ret
    exact ⟨ret_bool' HR.out.symm, HB1.out⟩
  subst h9
  have HR := Lib.hid (show _ = decide (D = D') from HR0.out.trans (by simp))
  go_enter Try.func19, Try.ntmps19
  go_wp2
  refine wp_region_below (by kernel_rfl) (by kernel_rfl) ?_
  repeat (first | (refine wq_val ?_ ?_; (focus (go_simp; done)); apply Exists.intro; refine ⟨fun w1 hw1 => ?_, ?_⟩; (obtain ⟨hc, hf⟩ := bcell hw1; clear hw1; go_simp; (first | done | with_reducible rfl | (with_reducible exact eql2 _ _ _) | (with_reducible exact neq2 _ _ _))); (try simp only [Act.put, List.setIfInBounds_toArray, List.set_cons_zero, List.set_cons_succ])) | (refine wq_skip ?_ ?_; (focus (go_simp; (first | done | (simp [undef]; done)))); (try simp only [Act.put, List.setIfInBounds_toArray, List.set_cons_zero, List.set_cons_succ])))
  refine wq_nil ?_
  intro w1 hb1
  have HB1 := Lib.hid hb1
  clear hb1
  go_wp2
  clear a0 a1 a2 a3 a4 a5 a6 a7 a8 b0 b1 b2 b3 b4 b5 b6 b7 b8
  go_loopw [5] (fun iv wr => ∃ j : Nat, j ≤ n ∧ iv = .int .i64 j ∧ Hid (D.take j = D'.take j) ∧ Hid (Below w.heap.size w wr)) (fun i _ => n - (intOf i).toNat)
  case atStart => exact ⟨0, by omega, rfl, Lib.hid rfl, HB1⟩
  case round =>
    obtain ⟨j, hj, rfl, he, hw⟩ := hrel
    have hat := HAT.out.below hw.out
    have hbt := HBT.out.below hw.out
    have hpr := hat.1
    have hqr := hbt.1
    have a8 : wr.cell? ⟨p, 8, none⟩ = some (.slice ao n c) := by have := hat.at 8 rfl; rwa [Nat.zero_add] at this
    have b8 : wr.cell? ⟨q, 8, none⟩ = some (.slice ao' n c') := by have := hbt.at 8 rfl; rwa [Nat.zero_add] at this
    clear hat hbt
    by_cases hlt : j < n
    · have hka : j < D.length := by have := HZ.out; omega
      have hkb : j < D'.length := by have := HZ.out; omega
      obtain ⟨ab, rfl, hpa⟩ := (HV.out.below hw.out).2.resolve_left (by omega)
      obtain ⟨bb, rfl, hpb⟩ := (HV'.out.below hw.out).2.resolve_left (by omega)
      obtain ⟨haw, aa0, aa1, aa2, aa3⟩ := hpa j hlt
      obtain ⟨hbw, bb0, bb1, bb2, bb3⟩ := hpb j hlt
      clear hpa hpb
      obtain ⟨z, hz⟩ : ∃ z, D.getD j bx0 = z := ⟨_, rfl⟩
      obtain ⟨z', hz'⟩ : ∃ z', D'.getD j bx0 = z' := ⟨_, rfl⟩
      rw [hz] at aa0 aa1 aa2 aa3
      rw [hz'] at bb0 bb1 bb2 bb3
      have HZ1 := Lib.hid hz
      have HZ2 := Lib.hid hz'
      clear hz hz'
      obtain ⟨x0, x1, x2, x3⟩ := z
      obtain ⟨y0, y1, y2, y3⟩ := z'
      simp only at aa0 aa1 aa2 aa3 bb0 bb1 bb2 bb3
      by_cases h1 : x0 = y0
      rotate_left
      · skip
        have HNE := Lib.hid (show decide (D = D') = false by simp; intro h; rw [h] at HZ1; have := HZ1.out.symm.trans HZ2.out; simp only [Prod.mk.injEq] at this; have h9 := h1; simp only [this] at h9; exact h9 trivial)
        have n1 : (x0 == y0) = false := by simpa using h1
        have n2 : decide (x0 = y0) = false := by simpa using h1
        go_wp2
        refine wp_region_below (by kernel_rfl) (by kernel_rfl) ?_
        repeat (first | (refine wq_val ?_ ?_; (focus (go_simp; done)); apply Exists.intro; refine ⟨fun w1 hw1 => ?_, ?_⟩; (obtain ⟨hc, hf⟩ := bcell hw1; clear hw1; go_simp; (first | done | with_reducible rfl | (with_reducible exact eql2 _ _ _) | (with_reducible exact neq2 _ _ _))); (try simp only [Act.put, List.setIfInBounds_toArray, List.set_cons_zero, List.set_cons_succ])) | (refine wq_skip ?_ ?_; (focus (go_simp; (first | done | (simp [undef]; done)))); (try simp only [Act.put, List.setIfInBounds_toArray, List.set_cons_zero, List.set_cons_succ])))
        refine wq_nil ?_
        intro w1 hb1
        have HB1 := Lib.hid hb1
        clear hb1
        go_wp2
        go_ret
        exact ⟨ret_bool' (by rw [HR.out, HNE.out]), bseq hw.out HB1.out⟩
      subst h1
      by_cases h2 : x1 = y1
      rotate_left
      · skip
        have HNE := Lib.hid (show decide (D = D') = false by simp; intro h; rw [h] at HZ1; have := HZ1.out.symm.trans HZ2.out; simp only [Prod.mk.injEq] at this; have h9 := h2; simp only [this] at h9; exact h9 trivial)
        have n1 : (x1 == y1) = false := by simpa using h2
        have n2 : decide (x1 = y1) = false := by simpa using h2
        go_wp2
        refine wp_region_below (by kernel_rfl) (by kernel_rfl) ?_
        repeat (first | (refine wq_val ?_ ?_; (focus (go_simp; done)); apply Exists.intro; refine ⟨fun w1 hw1 => ?_, ?_⟩; (obtain ⟨hc, hf⟩ := bcell hw1; clear hw1; go_simp; (first | done | with_reducible rfl | (with_reducible exact eql2 _ _ _) | (with_reducible exact neq2 _ _ _))); (try simp only [Act.put, List.setIfInBounds_toArray, List.set_cons_zero, List.set_cons_succ])) | (refine wq_skip ?_ ?_; (focus (go_simp; (first | done | (simp [undef]; done)))); (try simp only [Act.put, List.setIfInBounds_toArray, List.set_cons_zero, List.set_cons_succ])))
        refine wq_nil ?_
        intro w1 hb1
        have HB1 := Lib.hid hb1
        clear hb1
        go_wp2
        go_ret
        exact ⟨ret_bool' (by rw [HR.out, HNE.out]), bseq hw.out HB1.out⟩
      subst h2
      by_cases h3 : x2 = y2
      rotate_left
      · skip
        have HNE := Lib.hid (show decide (D = D') = false by simp; intro h; rw [h] at HZ1; have := HZ1.out.symm.trans HZ2.out; simp only [Prod.mk.injEq] at this; have h9 := h3; simp only [this] at h9; exact h9 trivial)
        have n1 : (x2 == y2) = false := by simpa using h3
        have n2 : decide (x2 = y2) = false := by simpa using h3
        go_wp2
        refine wp_region_below (by kernel_rfl) (by kernel_rfl) ?_
        repeat (first | (refine wq_val ?_ ?_; (focus (go_simp; done)); apply Exists.intro; refine ⟨fun w1 hw1 => ?_, ?_⟩; (obtain ⟨hc, hf⟩ := bcell hw1; clear hw1; go_simp; (first | done | with_reducible rfl | (with_reducible exact eql2 _ _ _) | (with_reducible exact neq2 _ _ _))); (try simp only [Act.put, List.setIfInBounds_toArray, List.set_cons_zero, List.set_cons_succ])) | (refine wq_skip ?_ ?_; (focus (go_simp; (first | done | (simp [undef]; done)))); (try simp only [Act.put, List.setIfInBounds_toArray, List.set_cons_zero, List.set_cons_succ])))
        refine wq_nil ?_
        intro w1 hb1
        have HB1 := Lib.hid hb1
        clear hb1
        go_wp2
        go_ret
        exact ⟨ret_bool' (by rw [HR.out, HNE.out]), bseq hw.out HB1.out⟩
      subst h3
      by_cases h4 : x3 = y3
      rotate_left
      · skip
        have HNE := Lib.hid (show decide (D = D') = false by simp; intro h; rw [h] at HZ1; have := HZ1.out.symm.trans HZ2.out; simp only [Prod.mk.injEq] at this; have h9 := h4; simp only [this] at h9; exact h9 trivial)
        have n1 : (x3 == y3) = false := by simpa using h4
        have n2 : decide (x3 = y3) = false := by simpa using h4
        go_wp2
        refine wp_region_below (by kernel_rfl) (by kernel_rfl) ?_
        repeat (first | (refine wq_val ?_ ?_; (focus (go_simp; done)); apply Exists.intro; refine ⟨fun w1 hw1 => ?_, ?_⟩; (obtain ⟨hc, hf⟩ := bcell hw1; clear hw1; go_simp; (first | done | with_reducible rfl | (with_reducible exact eql2 _ _ _) | (with_reducible exact neq2 _ _ _))); (try simp only [Act.put, List.setIfInBounds_toArray, List.set_cons_zero, List.set_cons_succ])) | (refine wq_skip ?_ ?_; (focus (go_simp; (first | done | (simp [undef]; done)))); (try simp only [Act.put, List.setIfInBounds_toArray, List.set_cons_zero, List.set_cons_succ])))
        refine wq_nil ?_
        intro w1 hb1
        have HB1 := Lib.hid hb1
        clear hb1
        go_wp2
        go_ret
        exact ⟨ret_bool' (by rw [HR.out, HNE.out]), bseq hw.out HB1.out⟩
      subst h4
      go_wp2
      refine wp_region_below (by kernel_rfl) (by kernel_rfl) ?_
      repeat (first | (refine wq_val ?_ ?_; (focus (go_simp; done)); apply Exists.intro; refine ⟨fun w1 hw1 => ?_, ?_⟩; (obtain ⟨hc, hf⟩ := bcell hw1; clear hw1; go_simp; (first | done | with_reducible rfl | (with_reducible exact eql2 _ _ _) | (with_reducible exact neq2 _ _ _))); (try simp only [Act.put, List.setIfInBounds_toArray, List.set_cons_zero, List.set_cons_succ])) | (refine wq_skip ?_ ?_; (focus (go_simp; (first | done | (simp [undef]; done)))); (try simp only [Act.put, List.setIfInBounds_toArray, List.set_cons_zero, List.set_cons_succ])))
      refine wq_nil ?_
      intro w1 hb1
      have HB1 := Lib.hid hb1
      clear hb1
      go_wp2
      go_roundw
      case rel => exact ⟨j + 1, by omega, by go_num, Lib.hid (take_eq_succBx hka hkb he.out (HZ1.out.trans HZ2.out.symm)), Lib.hid (bseq hw.out HB1.out)⟩
      case measure => simp [intOf]; omega
    · obtain rfl : j = n := by omega
      have HD := Lib.hid (show decide (D = D') = true by simp; exact take_eq_allBx HZ.out.1.symm HZ.out.2.symm he.out)
      go_wp2
      go_ret
      exact ⟨ret_bool' (by rw [HR.out, HD.out]), hw.out⟩
set_option maxRecDepth 100000 in
set_option maxHeartbeats 1000000 in
theorem samL_spec (u v : Value) (a b : Lf) (w : World) (ha : LfV w u a) (hb : LfV w v b) : Calls Try.prog 9 #[u, v] w fun e w' => e = .returned (.bool (samLf a b)) ∧ Below w.heap.size w w' := by
  have HB := Lib.hid (show LfAt6 ((w.alloc (.cells u.cells 38)).alloc (.cells v.cells 38)) (w.alloc (.cells u.cells 38)).heap.size b from ⟨v, hb.below (two_allocs _ _), AtV.box _ v _⟩)
  have HA := Lib.hid (show LfAt6 ((w.alloc (.cells u.cells 38)).alloc (.cells v.cells 38)) w.heap.size a from ⟨u, ha.below (two_allocs _ _), (AtV.box w u _).below (one_alloc _)⟩)
  rw [show (w.alloc (.cells u.cells 38)).heap.size = w.heap.size + 1 by simp] at HB
  obtain ⟨ao, n, c, rfl, _, _, _, _, _, _, _, hn, hd⟩ := ha.out
  obtain ⟨ao', n', c', rfl, _, _, _, _, _, _, _, hn', hd'⟩ := hb.out
  clear ha hb hd hd'
  go_enter Try.func9, Try.ntmps9
  go_wp2_with fail
  refine (samL_l09 _ _ a b _ HA.out HB.out).mono ?_
  rintro e w1 ⟨rfl, g1⟩
  have HG := Lib.hid (bseq (two_allocs _ _) g1)
  clear g1
  go_wp2
  go_ret
  exact ⟨rfl, HG.out⟩
end Go.Proofs.Ytonpenccppcgjaa
