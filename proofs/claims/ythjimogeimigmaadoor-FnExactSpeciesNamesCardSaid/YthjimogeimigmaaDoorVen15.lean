/- Names of species as slices: all, and those within a tolerance. Spec. -/
import Derived.Test.YthjimogeimigmaaDoorVen4
import Derived.Test.YthjimogeimigmaaDoorMarkText
import Derived.Deep.Onto
namespace Go.Proofs.YthjimogeimigmaaDoor
open Go.ChangeShapes Go.WideShapes Go.ChangeAt Go.RowKit
set_option linter.unusedVariables false
set_option linter.unusedSimpArgs false

/-- The names of the rows ahead of k that meet p. -/
def rowsL (p : Nat → Bool) (k : Nat) : List (List UInt8) := ((List.range k).filter p).map fun j => (spRow j).1
theorem rowsL_yes {p : Nat → Bool} {k : Nat} (h : p k = true) : rowsL p (k + 1) = rowsL p k ++ [(spRow k).1] := by
  simp [rowsL, List.range_succ, h]
theorem rowsL_no {p : Nat → Bool} {k : Nat} (h : p k = false) : rowsL p (k + 1) = rowsL p k := by
  simp [rowsL, List.range_succ, h]
theorem rowsL_len (p : Nat → Bool) (k : Nat) : (rowsL p k).length ≤ k := by
  simp only [rowsL, List.length_map]
  exact Nat.le_trans (List.length_filter_le _ _) (by simp)
/-- A slice of strings of the call's own, told by its texts. -/
def OwnS (w : World) (base : Nat) (v : Value) (L : List (List UInt8)) : Prop := w.ownsRow base 9 1 v L.length (L.map sV)
theorem OwnS.grow {w wr w1 : World} {base k : Nat} {v v' : Value} {p : Nat → Bool} (h : p k = true) (ho : w1.ownsRow base 9 1 v' ((rowsL p k).length + 1) ((rowsL p k).map sV ++ [.string (spN k)])) : OwnS w1 base v' (rowsL p (k + 1)) := by
  unfold OwnS
  rw [rowsL_yes h]
  simpa [sV, spN, tb] using ho
theorem allnames_spec (w : World) : Calls Tryd.prog 14 #[] w fun e w' => ∃ v, e = .returned v ∧ OwnS w' w.heap.size v (rowsL (fun _ => true) 10) ∧ Below w.heap.size w w' := by
  go_enter Tryd.func14, Tryd.ntmps14
  go_wp2_with fail
  refine (names_spec _).mono ?_
  rintro e w1 ⟨rfl, rfl⟩
  go_wp2
  go_ret
  refine ⟨_, rfl, ?_, one_alloc _⟩
  exact ⟨rfl, Or.inr ⟨w.heap.size, 10, namC, rfl, Nat.le_refl _, World.alloc_heap_new _ _, by decide, by decide, rfl, rfl⟩⟩
def swP (a t : Int) (j : Nat) : Bool := decide (awy (spS j) a ≤ t)
def swR (a t : Int) : List (List UInt8) × Int := if inI a 0 100 && inI t 0 100 then (rowsL (swP a t) 10, 0) else ([], 2)
/-- What a call says that makes a slice of strings and a code. -/
def NewSC (R : List (List UInt8) × Int) (w : World) (e : Ending) (w' : World) : Prop := ∃ v, e = .returned (.tuple #[v, .int .i64 R.2]) ∧ OwnS w' w.heap.size v R.1 ∧ Below w.heap.size w w'
theorem swR_len (a t : Int) : (swR a t).1.length ≤ 1000 := by
  unfold swR; split
  · exact Nat.le_trans (rowsL_len _ _) (by omega)
  · simp
theorem swP_in (a t : Int) (j : Nat) : inI (spS j) (a - t) (a + t) = swP a t j := by
  unfold swP
  rw [Bool.eq_iff_iff, inI_iff2, decide_eq_true_eq]
  unfold awy; split <;> omega
set_option maxRecDepth 100000 in
set_option maxHeartbeats 4000000 in
theorem within_spec (a t : Int) (w : World) : Calls Tryd.prog 29 #[.int .i64 a, .int .i64 t] w (NewSC (swR a t) w) := by
  unfold NewSC
  cases h0 : inI a 0 100 with
  | false =>
    have HR := Lib.hid (show swR a t = ([], 2) by unfold swR; rw [h0]; rfl)
    rw [HR.out]
    go_enter Tryd.func29, Tryd.ntmps29
    go_wp2_with fail
    refine (in_any _ _ _ _).mono ?_
    rintro e w1 ⟨rfl, rfl⟩
    rw [h0]
    go_wp2
    go_ret2
    exact ⟨_, rfl, World.ownsRow_nil _ _ _ _, Below.refl _ _⟩
  | true =>
  cases h1 : inI t 0 100 with
  | false =>
    have HR := Lib.hid (show swR a t = ([], 2) by unfold swR; rw [h0, h1]; rfl)
    rw [HR.out]
    go_enter Tryd.func29, Tryd.ntmps29
    go_wp2_with fail
    refine (in_any _ _ _ _).mono ?_
    rintro e w1 ⟨rfl, rfl⟩
    rw [h0]
    go_wp2_with fail
    refine (in_any _ _ _ _).mono ?_
    rintro e w1 ⟨rfl, rfl⟩
    rw [h1]
    go_wp2
    go_ret2
    exact ⟨_, rfl, World.ownsRow_nil _ _ _ _, Below.refl _ _⟩
  | true =>
    have HR := Lib.hid (show swR a t = (rowsL (swP a t) 10, 0) by unfold swR; rw [h0, h1]; rfl)
    have ⟨a0, a1⟩ := (inI_iff2 _ _ _).1 h0
    have ⟨b0, b1⟩ := (inI_iff2 _ _ _).1 h1
    have e1 : IntKind.i64.wrap (a - t) = a - t := IntWalk.i64_in _ (by omega)
    have e2 : IntKind.i64.wrap (a + t) = a + t := IntWalk.i64_in _ (by omega)
    rw [HR.out]
    obtain ⟨i0, hi, hz0, hz1, hz2⟩ := info_parts Tryd.infoStr
    go_enter Tryd.func29, Tryd.ntmps29
    go_wp2_with fail
    refine (in_any _ _ _ _).mono ?_
    rintro e w1 ⟨rfl, rfl⟩
    rw [h0]
    go_wp2_with fail
    refine (in_any _ _ _ _).mono ?_
    rintro e w1 ⟨rfl, rfl⟩
    rw [h1]
    go_wp2_with fail
    refine (names_spec _).mono ?_
    rintro e w1 ⟨rfl, rfl⟩
    have HN := Lib.hid (World.alloc_heap_new w (.cells namC 9))
    have HB1 := Lib.hid (one_alloc (w := w) (.cells namC 9))
    go_wp2_with fail
    refine (table_spec _).mono ?_
    rintro e w2 ⟨b, rfl, tbl, g2⟩
    have HTB := Lib.hid tbl
    have HG := Lib.hid (bseq HB1.out g2)
    have HN2 := Lib.hid ((g2.block w.heap.size (by simp)).trans HN.out)
    clear tbl g2 HN HB1
    go_wp2
    go_loopw [9, 8] (fun iv v wr => ∃ k : Nat, k ≤ 10 ∧ iv = .int .i64 k ∧ Hid (OwnS wr w2.heap.size v (rowsL (swP a t) k)) ∧ Hid (Below w2.heap.size w2 wr)) (fun i _ _ => 10 - (intOf i).toNat)
    case atStart => exact ⟨0, by omega, rfl, Lib.hid (World.ownsRow_made _ _ _ (Nat.le_refl _) (by unfold maxLen; omega) rfl), Lib.hid ((Below.refl _ _).alloc (Nat.le_refl _) _)⟩
    case round =>
      obtain ⟨k, hk, rfl, ho, hb⟩ := hrel
      have hown := ho.out
      have hlen := rowsL_len (swP a t) k
      have hle := hb.out.size
      by_cases hlt : k < 10
      · obtain ⟨hbs, ht⟩ := HTB.out.below hb.out
        obtain ⟨c, hc, t0, t1, _, _⟩ := ht k hlt
        have hn := (cell_of_row _ _ k _ _ _ ((hb.out.block _ (blk_lt3 HN2.out)).trans HN2.out)).trans (nam_cell k hlt)
        have hnl := blk_lt3 ((hb.out.block _ (blk_lt3 HN2.out)).trans HN2.out)
        have HP := Lib.hid (swP_in a t k)
        clear ht
        go_wp2_with fail
        refine (in_any _ _ _ _).mono ?_
        rintro e w3 ⟨rfl, rfl⟩
        rw [HP.out]
        cases hp : swP a t k with
        | true =>
          go_wp2_with (at_builtin; refine wpList_app1 rfl _ _ 22 rfl w2.heap.size 9 i0 (.string ⟨#[]⟩) 16 Tryd.underlying22 hi hz0 hz1 hz2 rfl _ _ _ rfl hown _ rfl (by first | rfl | simp) rfl (by omega) (by omega) hle ?_)
          intro v' w4 hown' hgrow
          have HO' := Lib.hid (OwnS.grow (w := w) (wr := wr) (v := v') hp hown')
          have HB' := Lib.hid (below_app hb.out (Nat.le_refl _) hle hown hgrow)
          clear hown' hgrow
          go_wp2
          go_roundw
          case rel => exact ⟨k + 1, by omega, by go_num, HO', HB'⟩
          case measure => simp [intOf]; omega
        | false =>
          have HO' := Lib.hid (show OwnS wr w2.heap.size _ (rowsL (swP a t) (k + 1)) by rw [rowsL_no hp]; exact ho.out)
          go_wp2
          go_roundw
          case rel => exact ⟨k + 1, by omega, by go_num, HO', hb⟩
          case measure => simp [intOf]; omega
      · obtain rfl : k = 10 := by omega
        have HE := Lib.hid (World.ownsRow.mono hown HG.out.size)
        clear hown
        go_wp2
        go_ret2
        exact ⟨_, rfl, HE.out, bseq HG.out hb.out⟩
end Go.Proofs.YthjimogeimigmaaDoor
