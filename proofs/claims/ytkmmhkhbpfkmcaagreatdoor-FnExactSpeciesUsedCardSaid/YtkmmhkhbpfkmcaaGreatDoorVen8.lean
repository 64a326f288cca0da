/- Are all veneers of a slice valid: impl. The contrast: spec and impl. -/
import Derived.Test.YtkmmhkhbpfkmcaaGreatDoorVen7
import Derived.Test.YtkmmhkhbpfkmcaaGreatDoorTyVeneer
namespace Go.Proofs.YtkmmhkhbpfkmcaaGreatDoor
open Seq2 Go.ChangeShapes Go.WideShapes Go.ChangeAt Go.RowKit
set_option linter.unusedVariables false
set_option linter.unusedSimpArgs false



def vnB (z : Vn) : Bool := venB z.1 z.2.1 z.2.2
/-- A slice of veneers at the start of a block, or an empty one. -/
def VL (w : World) (ao : Option Addr) (n : Nat) (zs : List Vn) : Prop := n = zs.length ∧ (n = 0 ∨ ∃ b, ao = some ⟨b, 0, none⟩ ∧ ∀ j, j < n → VC w b (j * 3) (zs.getD j vn0).1 (zs.getD j vn0).2.1 (zs.getD j vn0).2.2)
theorem VL.below {w w' : World} {ao : Option Addr} {n : Nat} {zs : List Vn} (h : VL w ao n zs) (hb : Below w.heap.size w w') : VL w' ao n zs :=
  ⟨h.1, h.2.imp id fun ⟨b, e, h1⟩ => ⟨b, e, fun j hj => (h1 j hj).below hb⟩⟩
def vnsB (zs : List Vn) : Bool := zs.all vnB
theorem vnsB_no {zs : List Vn} {k : Nat} (hk : k < zs.length) (h : vnB (zs.getD k vn0) = false) : vnsB zs = false := by
  unfold vnsB
  rw [List.all_eq_false]
  refine ⟨zs.getD k vn0, ?_, by rw [h]; simp⟩
  rw [List.getD_eq_getElem?_getD, List.getElem?_eq_getElem hk]
  exact List.getElem_mem hk
theorem vnsB_yes {zs : List Vn} (h : ∀ j, j < zs.length → vnB (zs.getD j vn0) = true) : vnsB zs = true := by
  unfold vnsB
  rw [List.all_eq_true]
  intro x hx
  obtain ⟨j, hj, rfl⟩ := List.getElem_of_mem hx
  have := h j hj
  rwa [List.getD_eq_getElem?_getD, List.getElem?_eq_getElem hj] at this
set_option maxRecDepth 100000 in
set_option maxHeartbeats 4000000 in
theorem all_ven (ao : Option Addr) (n c : Nat) (zs : List Vn) (w : World) (hn : n ≤ 1048576) (hv : VL w ao n zs) (ht : TabAt w) : Calls Tryz.prog 34 #[.slice ao n c] w fun e w' => e = .returned (.bool (vnsB zs)) ∧ Below w.heap.size w w' := by
  have HV := Lib.hid hv
  have HT := Lib.hid ht
  have HZ := Lib.hid hv.1
  clear hv ht
  go_enter Tryz.func34, Tryz.ntmps34
  go_wp2
  go_loopw [7] (fun iv wr => ∃ k : Nat, k ≤ n ∧ iv = .int .i64 k ∧ Hid (∀ j, j < k → vnB (zs.getD j vn0) = true) ∧ Hid (Below w.heap.size w wr)) (fun i _ => n - (intOf i).toNat)
  case atStart => exact ⟨0, by omega, rfl, Lib.hid (fun j hj => absurd hj (by omega)), Lib.hid (Below.refl _ _)⟩
  case round =>
    obtain ⟨k, hk, rfl, hi, hb⟩ := hrel
    by_cases hlt : k < n
    · obtain ⟨b, rfl, hvc⟩ := (HV.out.below hb.out).2.resolve_left (by omega)
      obtain ⟨hbw, v0, v1, v2⟩ := hvc k hlt
      have HE := Lib.hid (show vnB (zs.getD k vn0) = venB (zs.getD k vn0).1 (zs.getD k vn0).2.1 (zs.getD k vn0).2.2 from rfl)
      clear hvc
      generalize hz : zs.getD k vn0 = z at *
      have HZK := Lib.hid hz
      obtain ⟨s, x, y⟩ := z
      simp only at v0 v1 v2 HE
      clear hz
      have HTk := Lib.hid ((HT.out.below hb.out).below (one_alloc (.cells #[.string s, .int .i64 x, .int .i64 y] 54)))
      have HBk := Lib.hid (hb.out.trans ((one_alloc (w := wr) (.cells #[.string s, .int .i64 x, .int .i64 y] 54)).mono hb.out.size))
      go_wp2_with fail
      refine (valid_vimpl s x y _ HTk.out).mono ?_
      rintro e w1 ⟨rfl, g1⟩
      have HG := Lib.hid (HBk.out.trans (g1.mono HBk.out.size))
      clear g1
      cases hs : venB s x y with
      | false =>
        have HR := Lib.hid (vnsB_no (zs := zs) (by have := HZ.out; omega) (show vnB (zs.getD k vn0) = false by rw [HZK.out]; exact HE.out.trans hs))
        go_wp2
        go_ret
        exact ⟨ret_bool' HR.out.symm, HG.out⟩
      | true =>
        go_wp2
        go_roundw
        case rel => exact ⟨k + 1, by omega, by go_num, Lib.hid (fun j hj => (Nat.lt_succ_iff_lt_or_eq.1 hj).elim (hi.out j) (fun e => by subst e; rw [HZK.out]; exact HE.out.trans hs)), HG⟩
        case measure => simp [intOf]; omega
    · obtain rfl : k = n := by omega
      have HR := Lib.hid (vnsB_yes (zs := zs) (by rw [← HZ.out]; exact hi.out))
      go_wp2
      go_ret
      exact ⟨ret_bool' HR.out.symm, hb.out⟩
/-- The contrast with its code. -/
def cnR (s0 : ByteArray) (x0 y0 : Int) (s1 : ByteArray) (x1 y1 : Int) : Int × Int := if venB s0 x0 y0 && venB s1 x1 y1 then (cnV x0 y0 x1 y1, 0) else (0, 1)
end Go.Proofs.YtkmmhkhbpfkmcaaGreatDoor
