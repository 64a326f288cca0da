/- Leaves of a species: mathematics, spec. -/
import Derived.Test.YthocpiklbcahgaaDoorK19
import Derived.Test.YthocpiklbcahgaaDoorVen1
import Derived.Test.YthocpiklbcahgaaDoorK8
import Derived.Test.YthocpiklbcahgaaDoorK15
import Derived.Test.YthocpiklbcahgaaDoorK11
namespace Go.Proofs.YthocpiklbcahgaaDoor
open Seq2 Go.ChangeShapes Go.WideShapes Go.ChangeAt Go.RowKit
set_option linter.unusedVariables false
set_option linter.unusedSimpArgs false

/-- The places ahead of k that meet p. -/
def plL (p : Nat → Bool) (k : Nat) : List Int := ((List.range k).filter p).map fun (j : Nat) => (j : Int)
theorem plL_yes {p : Nat → Bool} {k : Nat} (h : p k = true) : plL p (k + 1) = plL p k ++ [(k : Int)] := by
  simp [plL, List.range_succ, h]
theorem plL_no {p : Nat → Bool} {k : Nat} (h : p k = false) : plL p (k + 1) = plL p k := by
  simp [plL, List.range_succ, h]
theorem plL_len (p : Nat → Bool) (k : Nat) : (plL p k).length ≤ k := by
  simp only [plL, List.length_map]
  exact Nat.le_trans (List.length_filter_le _ _) (by simp)
/-- A slice of integers of the call's own. -/
def OwnI (w : World) (base : Nat) (v : Value) (L : List Int) : Prop := w.ownsRow base 2 1 v L.length (flatI L)
theorem OwnI.app {w : World} {base n : Nat} {v : Value} {L : List Int} {x : Int} (hn : n = L.length) (ho : w.ownsRow base 2 1 v (n + 1) (flatI L ++ [.int .i64 x])) : OwnI w base v (L ++ [x]) := by
  subst hn
  unfold OwnI flatI at *
  simpa using ho
theorem OwnI.below {w w' : World} {base : Nat} {v : Value} {L : List Int} (h : OwnI w base v L) (hb : Below w.heap.size w w') : OwnI w' base v L := own_below h hb
def eqS (a b : ByteArray) : Bool := a.toList == b.toList
def speP (zs : List Lf) (sp : ByteArray) (j : Nat) : Bool := eqS (zs.getD j lf0).ve.1 sp
def lvR (zs : List Lf) (sp : ByteArray) : List Int × Int := if lfsB zs then (if ixN sp < 10 then (plL (speP zs sp) zs.length, 0) else ([], 3)) else ([], 1)
theorem lvR_len (zs : List Lf) (sp : ByteArray) : (lvR zs sp).1.length ≤ 1000 := by
  unfold lvR
  cases h : lfsB zs with
  | false => simp
  | true =>
    have := (lfsB_ok h).1
    have := plL_len (speP zs sp) zs.length
    rw [if_pos rfl]
    split
    · simp only; omega
    · simp
set_option maxRecDepth 100000 in
set_option maxHeartbeats 4000000 in
theorem lv_spec (ao : Option Addr) (n c : Nat) (zs : List Lf) (sp : ByteArray) (w : World) (hn : n ≤ 1048576) (hv : LfsV w ao n zs) :
    Calls Tryd.prog 11 #[.slice ao n c, .string sp] w (NewCI (lvR zs sp).1 (lvR zs sp).2 w) := by
  unfold NewCI
  have HV := Lib.hid hv
  have HZ := Lib.hid hv.1
  clear hv
  cases hB : lfsB zs with
  | false =>
    have HR := Lib.hid (show lvR zs sp = ([], 1) by unfold lvR; rw [hB]; rfl)
    rw [HR.out]
    go_enter Tryd.func11, Tryd.ntmps11
    go_wp2_with fail
    refine (lfs_spec ao n c zs _ hn HV.out).mono ?_
    rintro e w1 ⟨rfl, g1⟩
    have HG := Lib.hid g1
    clear g1
    rw [hB]
    go_wp2
    go_ret2
    exact ⟨_, rfl, World.ownsRow_nil _ _ _ _, HG.out⟩
  | true =>
    by_cases hx : ixN sp < 10
    rotate_left
    · have HR := Lib.hid (show lvR zs sp = ([], 3) by unfold lvR; rw [hB, if_pos rfl, if_neg hx])
      have HX := Lib.hid (show ixV sp = -1 by unfold ixV; rw [if_neg hx])
      rw [HR.out]
      go_enter Tryd.func11, Tryd.ntmps11
      go_wp2_with fail
      refine (lfs_spec ao n c zs _ hn HV.out).mono ?_
      rintro e w1 ⟨rfl, g1⟩
      have HG := Lib.hid g1
      clear g1
      rw [hB]
      go_wp2_with fail
      refine (find_ven sp _).mono ?_
      rintro e w2 ⟨rfl, g2⟩
      have HG2 := Lib.hid (bseq HG.out g2)
      clear g2
      rw [HX.out]
      go_wp2
      go_ret2
      exact ⟨_, rfl, World.ownsRow_nil _ _ _ _, HG2.out⟩
    have HR := Lib.hid (show lvR zs sp = (plL (speP zs sp) zs.length, 0) by unfold lvR; rw [hB, if_pos rfl, if_pos hx])
    have HX := Lib.hid (show ixV sp = ((ixN sp : Nat) : Int) by unfold ixV; rw [if_pos hx])
    have hd : decide (((ixN sp : Nat) : Int) < 0) = false := by simp
    have hn16 : n ≤ 16 := by have := (lfsB_ok hB).1; have := HZ.out; omega
    obtain ⟨i0, hi, hz0, hz1, hz2⟩ := info_parts infoI
    rw [HR.out]
    go_enter Tryd.func11, Tryd.ntmps11
    go_wp2_with fail
    refine (lfs_spec ao n c zs _ hn HV.out).mono ?_
    rintro e w1 ⟨rfl, g1⟩
    have HG := Lib.hid g1
    clear g1
    rw [hB]
    go_wp2_with fail
    refine (find_ven sp _).mono ?_
    rintro e w2 ⟨rfl, g2⟩
    have HG2 := Lib.hid (bseq HG.out g2)
    clear g2 HG
    rw [HX.out]
    generalize ixN sp = xn at *
    go_wp2
    clear hd
    go_loopw [7, 6] (fun iv v wr => ∃ k : Nat, k ≤ n ∧ iv = .int .i64 k ∧ Hid (OwnI wr w2.heap.size v (plL (speP zs sp) k)) ∧ Hid (Below w2.heap.size w2 wr)) (fun i _ _ => n - (intOf i).toNat)
    case atStart => exact ⟨0, by omega, rfl, Lib.hid (World.ownsRow_made _ _ _ (Nat.le_refl _) (by unfold maxLen; omega) rfl), Lib.hid ((Below.refl _ _).alloc (Nat.le_refl _) _)⟩
    case round =>
      obtain ⟨k, hk, rfl, ho, hb⟩ := hrel
      have hown := ho.out
      have hlen := plL_len (speP zs sp) k
      have hle := hb.out.size
      by_cases hlt : k < n
      · obtain ⟨b, rfl, hcs⟩ := (HV.out.below (bseq HG2.out hb.out)).2.resolve_left (by omega)
        obtain ⟨v', hva, ha⟩ := hcs k hlt
        obtain ⟨ao6, n6, c6, rfl, _, _, _, _, _, _, _, _, _⟩ := hva.out
        have c3 : wr.cell? ⟨b, k * 9 + 3, none⟩ = some (.string (zs.getD k lf0).ve.1) := ha.at 3 rfl
        have hbw := ha.1
        have HP := Lib.hid (show speP zs sp k = ((zs.getD k lf0).ve.1.toList == sp.toList) from rfl)
        obtain ⟨s, hs⟩ : ∃ q, (zs.getD k lf0).ve.1 = q := ⟨_, rfl⟩
        rw [hs] at c3 HP
        clear hcs hva ha hs
        cases hp : speP zs sp k with
        | true =>
          have hq : (s.toList == sp.toList) = true := by rw [← HP.out]; exact hp
          unfold OwnI at hown
          go_wp2_with (at_builtin; refine wpList_app1 rfl _ _ 24 rfl w2.heap.size 2 i0 (.int .i64 0) 8 Tryd.underlying24 hi hz0 hz1 hz2 rfl _ _ _ rfl hown _ rfl (by first | rfl | simp) rfl (by omega) (by omega) hle ?_)
          intro v' w4 hown' hgrow
          have HO' := Lib.hid (show OwnI w4 w2.heap.size v' (plL (speP zs sp) (k + 1)) by rw [plL_yes hp]; exact OwnI.app rfl hown')
          have HB' := Lib.hid (below_app hb.out (Nat.le_refl _) hle hown hgrow)
          clear hown' hgrow hown hq hp
          go_wp2
          go_roundw
          case rel => exact ⟨k + 1, by omega, by go_num, HO', HB'⟩
          case measure => simp [intOf]; omega
        | false =>
          have hq : (s.toList == sp.toList) = false := by rw [← HP.out]; exact hp
          have HO' := Lib.hid (show OwnI wr w2.heap.size _ (plL (speP zs sp) (k + 1)) by rw [plL_no hp]; exact hown)
          clear hown hp
          go_wp2
          go_roundw
          case rel => exact ⟨k + 1, by omega, by go_num, HO', hb⟩
          case measure => simp [intOf]; omega
      · obtain rfl : k = n := by omega
        have HE := Lib.hid HZ.out
        have HF := Lib.hid (own_lower ho.out HG2.out.size)
        have HB := Lib.hid (bseq HG2.out hb.out)
        go_wp2
        go_ret2
        exact ⟨_, rfl, by rw [← HE.out]; exact HF.out, HB.out⟩
end Go.Proofs.YthocpiklbcahgaaDoor
