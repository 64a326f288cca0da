/- The leaves that a nesting uses, each once, in order: mathematics, spec. -/
import Derived.Test.YtmfchcaidfloaaaNst2
import Derived.Test.YtmfchcaidfloaaaOwI
namespace Go.Proofs.Ytmfchcaidfloaaa
open Seq2 Go.ChangeShapes Go.WideShapes Go.ChangeAt Go.RowKit
set_option linter.unusedVariables false
set_option linter.unusedSimpArgs false

/-- A number at its place, once. -/
def putI (x : Int) : List Int → List Int
  | [] => [x]
  | a :: r => if x < a then x :: a :: r else if x = a then a :: r else a :: putI x r
theorem putI_len (x : Int) : ∀ L, (putI x L).length ≤ L.length + 1
  | [] => by simp [putI]
  | a :: r => by
    have := putI_len x r
    unfold putI; split
    · simp
    · split <;> simp <;> omega
theorem putI_mem (x y : Int) : ∀ L, y ∈ putI x L ↔ y = x ∨ y ∈ L
  | [] => by simp [putI]
  | a :: r => by
    have ih := putI_mem x y r
    unfold putI; split
    · simp
    · split
      · subst_vars; simp
      · simp only [List.mem_cons, ih]
        constructor
        · rintro (h | h | h)
          · exact Or.inr (Or.inl h)
          · exact Or.inl h
          · exact Or.inr (Or.inr h)
        · rintro (h | h | h)
          · exact Or.inr (Or.inl h)
          · exact Or.inl h
          · exact Or.inr (Or.inr h)
theorem putI_up (x : Int) : ∀ L, L.Pairwise (· < ·) → (putI x L).Pairwise (· < ·)
  | [], _ => by simp [putI]
  | a :: r, h => by
    obtain ⟨h1, h2⟩ := List.pairwise_cons.1 h
    unfold putI; split
    · rename_i hlt
      refine List.pairwise_cons.2 ⟨fun b hb => ?_, h⟩
      rcases List.mem_cons.1 hb with e | e
      · rw [e]; exact hlt
      · exact Int.lt_trans hlt (h1 b e)
    · split
      · exact h
      · rename_i h3 h4
        refine List.pairwise_cons.2 ⟨fun b hb => ?_, putI_up x r h2⟩
        rcases (putI_mem x b r).1 hb with e | e
        · rw [e]; omega
        · exact h1 b e
/-- The leaves of the first k placements. -/
def usL (zs : List Pm) : Nat → List Int
  | 0 => []
  | k + 1 => putI (zs.getD k pm0).2.1 (usL zs k)
theorem usL_len (zs : List Pm) : ∀ k, (usL zs k).length ≤ k
  | 0 => by simp [usL]
  | k + 1 => by
    have := usL_len zs k
    have := putI_len (zs.getD k pm0).2.1 (usL zs k)
    show (putI _ _).length ≤ _
    omega
theorem usL_up (zs : List Pm) : ∀ k, (usL zs k).Pairwise (· < ·)
  | 0 => by simp [usL]
  | k + 1 => putI_up _ _ (usL_up zs k)
theorem usL_mem (zs : List Pm) (y : Int) : ∀ k, y ∈ usL zs k ↔ ∃ j, j < k ∧ y = (zs.getD j pm0).2.1
  | 0 => by simp [usL]
  | k + 1 => by
    show y ∈ putI _ _ ↔ _
    rw [putI_mem, usL_mem zs y k]
    constructor
    · rintro (h | ⟨j, hj, h⟩)
      · exact ⟨k, by omega, h⟩
      · exact ⟨j, by omega, h⟩
    · rintro ⟨j, hj, h⟩
      by_cases e : j = k
      · subst e; exact Or.inl h
      · exact Or.inr ⟨j, by omega, h⟩
theorem OwnI.low {w : World} {B B' : Nat} {v : Value} {L : List Int} (h : OwnI w B v L) (hb : B' ≤ B) : OwnI w B' v L := by
  obtain ⟨h1, h2 | ⟨g, cap, cur, e, h3, h4⟩⟩ := h
  · exact ⟨h1, Or.inl h2⟩
  · exact ⟨h1, Or.inr ⟨g, cap, cur, e, Nat.le_trans hb h3, h4⟩⟩
def usR (zs : List Pm) : List Int × Int := if pmsB zs then (usL zs zs.length, 0) else ([], 1)
theorem usR_len (zs : List Pm) : (usR zs).1.length ≤ 1000 := by
  unfold usR; split
  · rename_i h
    have := (pmsB_ok h).1
    have := usL_len zs zs.length
    simp only; omega
  · simp
/-- What is reached behind k rounds of l00Put. -/
def puS (x : Int) (Q R : List Int) (d : Bool) : List Int := if d then Q ++ R else Q ++ putI x R
theorem puS_on {x y : Int} {Q R : List Int} : puS x Q (y :: R) true = puS x (Q ++ [y]) R true := by simp [puS]
theorem puS_lt {x y : Int} {Q R : List Int} (h : y < x) : puS x Q (y :: R) false = puS x (Q ++ [y]) R false := by
  simp [puS, putI, show ¬ x < y by omega, show ¬ x = y by omega]
theorem puS_eq {x y : Int} {Q R : List Int} (h : y = x) : puS x Q (y :: R) false = puS x (Q ++ [y]) R true := by
  subst h; simp [puS, putI]
theorem puS_gt {x y : Int} {Q R : List Int} (h : x < y) : puS x Q (y :: R) false = puS x (Q ++ [x] ++ [y]) R true := by
  simp [puS, putI, h]
theorem drop_getD {L : List Int} {k : Nat} (h : k < L.length) : L.drop k = L.getD k 0 :: L.drop (k + 1) := by
  rw [List.drop_eq_getElem_cons h, List.getD_eq_getElem?_getD, List.getElem?_eq_getElem h]; rfl
set_option maxRecDepth 100000 in
set_option maxHeartbeats 16000000 in
theorem put_spec (ao : Option Addr) (n c : Nat) (L : List Int) (x : Int) (w : World) (hl : L.length ≤ 1000) (hv : IV w ao n L) :
    Calls Try.prog 27 #[.slice ao n c, .int .i64 x] w fun e w' => ∃ v, e = .returned v ∧ OwnI w' w.heap.size v (putI x L) ∧ Below w.heap.size w w' := by
  have HV := Lib.hid hv
  have HN := Lib.hid hv.1
  have hn1 : n ≤ 1000 := by rw [hv.1]; exact hl
  obtain ⟨i0, hi, hz0, hz1, hz2⟩ := info_parts infoI
  have HO0 := Lib.hid (show OwnI (w.alloc (.cells #[] 2)) w.heap.size (.slice (some ⟨w.heap.size, 0, none⟩) 0 0) [] from World.ownsRow_made w (e := 2) (base := w.heap.size) (size := 1) #[] 0 (Nat.le_refl _) (by unfold maxLen; omega) rfl)
  have HB0 := Lib.hid (one_alloc (w := w) (.cells #[] 2))
  clear hv
  go_enter Try.func27, Try.ntmps27
  go_wp2
  go_loopw [5, 6, 7] (fun ov dv iv wr => ∃ (k : Nat) (Q : List Int) (d : Bool), k ≤ n ∧ iv = .int .i64 k ∧ dv = .bool d ∧ Hid (OwnI wr w.heap.size ov Q) ∧ Hid (Q.length ≤ k + d.toNat) ∧ Hid (puS x Q (L.drop k) d = putI x L) ∧ Hid (Below w.heap.size w wr)) (fun _ _ i _ => n - (intOf i).toNat)
  case atStart => exact ⟨0, [], false, by omega, rfl, rfl, HO0, Lib.hid (by simp), Lib.hid (by simp [puS]), HB0⟩
  case round =>
    obtain ⟨k, Q, d, hk, rfl, rfl, ho, hq, hpu, hb⟩ := hrel
    have HPU := Lib.hid hpu.out
    have hql : Q.length ≤ k + d.toNat := hq.out
    have hqk : Q.length ≤ k + 1 := by cases d <;> simp at hql <;> omega
    have hown := ho.out
    unfold OwnI at hown
    have hsz := hb.out.size
    clear hpu hq
    by_cases hlt : k < n
    · obtain ⟨b, rfl, hbw0, hcs⟩ := HV.out.2.resolve_left (by omega)
      have HDR := Lib.hid (drop_getD (L := L) (k := k) (by rw [← HN.out]; exact hlt))
      obtain ⟨y, hy⟩ : ∃ y, L.getD k 0 = y := ⟨_, rfl⟩
      have c00 := hcs k hlt
      rw [hy] at c00 HDR
      have hb3cell := fun {w' : World} (h : Below w.heap.size w w') => (h.cell (p := ⟨b, k, none⟩) hbw0).trans c00
      have c0 := hb3cell hb.out
      have hbw := Nat.lt_of_lt_of_le hbw0 hsz
      have hq5 : Q.length ≤ 1001 := by omega
      clear hcs hy
      cases d with
      | true =>
        go_wp2_with (at_builtin; refine wpList_app1 rfl _ _ 35 rfl w.heap.size 2 i0 (.int .i64 0) 8 Try.underlying35 hi hz0 hz1 hz2 rfl _ _ _ rfl hown _ rfl (by first | rfl | simp) rfl (by omega) (by omega) hsz ?_)
        intro v4 w4 ho4 hg4
        have HO4 := Lib.hid (show OwnI w4 w.heap.size v4 (Q ++ [y]) from OwnI.app (by simp) ho4)
        have HB4 := Lib.hid (below_app hb.out (Nat.le_refl _) hsz hown hg4)
        clear ho4 hg4
        go_wp2
        go_roundw
        case rel => exact ⟨k + 1, (Q ++ [y]), true, by omega, by go_num, rfl, HO4, Lib.hid (by simp at hql ⊢; omega), Lib.hid (by rw [← HPU.out, HDR.out]; exact (puS_on).symm), HB4⟩
        case measure => simp [intOf]; omega
      | false =>
        by_cases hc : y < x
        · have hd1 : decide (x ≤ y) = false := by simp; omega
          go_wp2_with (at_builtin; refine wpList_app1 rfl _ _ 35 rfl w.heap.size 2 i0 (.int .i64 0) 8 Try.underlying35 hi hz0 hz1 hz2 rfl _ _ _ rfl hown _ rfl (by first | rfl | simp) rfl (by omega) (by omega) hsz ?_)
          intro v4 w4 ho4 hg4
          have HO4 := Lib.hid (show OwnI w4 w.heap.size v4 (Q ++ [y]) from OwnI.app (by simp) ho4)
          have HB4 := Lib.hid (below_app hb.out (Nat.le_refl _) hsz hown hg4)
          clear ho4 hg4
          go_wp2
          go_roundw
          case rel => exact ⟨k + 1, (Q ++ [y]), false, by omega, by go_num, rfl, HO4, Lib.hid (by simp at hql ⊢; omega), Lib.hid (by rw [← HPU.out, HDR.out]; exact (puS_lt hc).symm), HB4⟩
          case measure => simp [intOf]; omega
        · by_cases hc2 : y = x
          · subst hc2
            have hd1 : decide (y ≤ y) = true := by simp
            have hd2 : decide (y < y) = false := by simp
            clear hc
            go_wp2_with (at_builtin; refine wpList_app1 rfl _ _ 35 rfl w.heap.size 2 i0 (.int .i64 0) 8 Try.underlying35 hi hz0 hz1 hz2 rfl _ _ _ rfl hown _ rfl (by first | rfl | simp) rfl (by omega) (by omega) hsz ?_)
            intro v4 w4 ho4 hg4
            have HO4 := Lib.hid (show OwnI w4 w.heap.size v4 (Q ++ [y]) from OwnI.app (by simp) ho4)
            have HB4 := Lib.hid (below_app hb.out (Nat.le_refl _) hsz hown hg4)
            clear ho4 hg4
            go_wp2
            go_roundw
            case rel => exact ⟨k + 1, (Q ++ [y]), true, by omega, by go_num, rfl, HO4, Lib.hid (by simp at hql ⊢; omega), Lib.hid (by rw [← HPU.out, HDR.out]; exact (puS_eq rfl).symm), HB4⟩
            case measure => simp [intOf]; omega
          · have hd1 : decide (x ≤ y) = true := by simp; omega
            have hc3 : x < y := by omega
            have hd2 : decide (x < y) = true := by simp; omega
            clear hc
            have hc := hc3
            go_wp2_with (at_builtin; refine wpList_app1 rfl _ _ 35 rfl w.heap.size 2 i0 (.int .i64 0) 8 Try.underlying35 hi hz0 hz1 hz2 rfl _ _ _ rfl hown _ rfl (by first | rfl | simp) rfl (by omega) (by omega) hsz ?_)
            intro v3 w3 ho3 hg3
            have HO3 := Lib.hid (show OwnI w3 w.heap.size v3 (Q ++ [x]) from OwnI.app (by simp) ho3)
            have HB3 := Lib.hid (below_app hb.out (Nat.le_refl _) hsz hown hg3)
            clear ho3 hg3
            have hown3 := HO3.out
            unfold OwnI at hown3
            have hsz3 := HB3.out.size
            have hl3 : (Q ++ [x]).length ≤ 1003 := by simp; omega
            have c3 := (hb3cell HB3.out)
            have hbw3 := Nat.lt_of_lt_of_le hbw0 hsz3
            go_wp2_with (at_builtin; refine wpList_app1 rfl _ _ 35 rfl w.heap.size 2 i0 (.int .i64 0) 8 Try.underlying35 hi hz0 hz1 hz2 rfl _ _ _ rfl hown3 _ rfl (by first | rfl | simp) rfl (by omega) (by omega) hsz3 ?_)
            intro v4 w4 ho4 hg4
            have HO4 := Lib.hid (show OwnI w4 w.heap.size v4 ((Q ++ [x]) ++ [y]) from OwnI.app (by simp) ho4)
            have HB4 := Lib.hid (below_app HB3.out (Nat.le_refl _) hsz3 hown3 hg4)
            clear ho4 hg4
            go_wp2
            go_roundw
            case rel => exact ⟨k + 1, (Q ++ [x] ++ [y]), true, by omega, by go_num, rfl, HO4, Lib.hid (by simp at hql ⊢; omega), Lib.hid (by rw [← HPU.out, HDR.out]; exact (puS_gt hc).symm), HB4⟩
            case measure => simp [intOf]; omega
    · obtain rfl : k = n := by omega
      have HPE := Lib.hid (show puS x Q [] d = putI x L by rw [← HPU.out, List.drop_eq_nil_of_le (by rw [← HN.out]; exact Nat.le_refl _)])
      cases d with
      | true =>
        go_wp2
        go_ret
        exact ⟨_, rfl, by rw [← HPE.out]; simpa [puS] using ho.out, hb.out⟩
      | false =>
        have hq5 : Q.length ≤ 1001 := by omega
        go_wp2_with (at_builtin; refine wpList_app1 rfl _ _ 35 rfl w.heap.size 2 i0 (.int .i64 0) 8 Try.underlying35 hi hz0 hz1 hz2 rfl _ _ _ rfl hown _ rfl (by first | rfl | simp) rfl (by omega) (by omega) hsz ?_)
        intro v4 w4 ho4 hg4
        have HO4 := Lib.hid (show OwnI w4 w.heap.size v4 (Q ++ [x]) from OwnI.app (by simp) ho4)
        have HB4 := Lib.hid (below_app hb.out (Nat.le_refl _) hsz hown hg4)
        clear ho4 hg4
        go_wp2
        go_ret
        exact ⟨_, rfl, by rw [← HPE.out]; simpa [puS, putI] using HO4.out, HB4.out⟩
set_option maxRecDepth 100000 in
set_option maxHeartbeats 16000000 in
theorem us_spec (ao : Option Addr) (n c : Nat) (zs : List Pm) (w : World) (hn : n ≤ 1048576) (hv : PmV w ao n zs) :
    Calls Try.prog 14 #[.slice ao n c] w (NewCI (usR zs).1 (usR zs).2 w) := by
  have HV := Lib.hid hv
  have HN := Lib.hid hv.1
  clear hv
  cases hB : pmsB zs with
  | false =>
    have HR := Lib.hid (show usR zs = ([], 1) by unfold usR; rw [hB]; rfl)
    rw [HR.out]
    go_enter Try.func14, Try.ntmps14
    go_wp2_with fail
    refine (pms_spec ao n c zs _ hn HV.out).mono ?_
    rintro e w1 ⟨rfl, g1⟩
    have HG := Lib.hid g1
    clear g1
    rw [hB]
    go_wp2
    go_ret2
    exact ⟨_, rfl, World.ownsRow_nil _ _ _ _, HG.out⟩
  | true =>
    have HR := Lib.hid (show usR zs = (usL zs zs.length, 0) by unfold usR; rw [hB]; rfl)
    have h24 := (pmsB_ok hB).1
    have hn24 : n ≤ 24 := by rw [HN.out]; exact h24
    rw [HR.out]
    go_enter Try.func14, Try.ntmps14
    go_wp2_with fail
    refine (pms_spec ao n c zs _ hn HV.out).mono ?_
    rintro e w1 ⟨rfl, g1⟩
    have HG := Lib.hid g1
    clear g1
    rw [hB]
    have HO0 := Lib.hid (show OwnI (w1.alloc (.cells #[] 2)) w.heap.size (.slice (some ⟨w1.heap.size, 0, none⟩) 0 0) [] from World.ownsRow_made w1 (e := 2) (base := w.heap.size) (size := 1) #[] 0 HG.out.size (by unfold maxLen; omega) rfl)
    have HB0 := Lib.hid (HG.out.alloc HG.out.size (.cells #[] 2))
    go_wp2
    go_loopw [4, 5] (fun ov iv wr => ∃ k : Nat, k ≤ n ∧ iv = .int .i64 k ∧ Hid (OwnI wr w.heap.size ov (usL zs k)) ∧ Hid (Below w.heap.size w wr)) (fun _ i _ => n - (intOf i).toNat)
    case atStart => exact ⟨0, by omega, rfl, HO0, HB0⟩
    case round =>
      obtain ⟨k, hk, rfl, ho, hb⟩ := hrel
      by_cases hlt : k < n
      · obtain ⟨b, rfl, hcs⟩ := (HV.out.below hb.out).2.resolve_left (by omega)
        obtain ⟨hbw, _, c1, _, _, _⟩ := hcs k hlt
        have HST := Lib.hid (show usL zs (k + 1) = putI (zs.getD k pm0).2.1 (usL zs k) from rfl)
        have HLE := Lib.hid (show (usL zs k).length ≤ 1000 by have := usL_len zs k; omega)
        obtain ⟨ao2, cp2, rfl, hiv⟩ := own_sliceI ho.out
        obtain ⟨x, hx⟩ : ∃ x, (zs.getD k pm0).2.1 = x := ⟨_, rfl⟩
        rw [hx] at c1 HST
        clear hcs hx
        go_wp2_with fail
        refine (put_spec ao2 _ cp2 (usL zs k) x _ HLE.out hiv).mono ?_
        rintro e w2 ⟨v2, rfl, ho2, g2⟩
        have HB2 := Lib.hid (hb.out.trans (g2.mono hb.out.size))
        have HO2 := Lib.hid (show OwnI w2 w.heap.size v2 (usL zs (k + 1)) by rw [HST.out]; exact OwnI.low ho2 hb.out.size)
        clear g2 ho2
        go_wp2
        go_roundw
        case rel => exact ⟨k + 1, by omega, by go_num, HO2, HB2⟩
        case measure => simp [intOf]; omega
      · obtain rfl : k = n := by omega
        go_wp2
        go_ret2
        refine ⟨_, rfl, ?_, hb.out⟩
        have h1 := ho.out
        unfold OwnI at h1
        have e : usL zs zs.length = usL zs k := by rw [← HN.out]
        simp only [e]
        exact h1
end Go.Proofs.Ytmfchcaidfloaaa
