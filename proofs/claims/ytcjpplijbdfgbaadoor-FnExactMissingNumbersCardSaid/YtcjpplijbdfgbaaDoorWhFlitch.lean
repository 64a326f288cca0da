/- The leaves that are wanted: where, at a closure (ofFlitch$1). -/
import Derived.Test.YtcjpplijbdfgbaaDoorLea11
namespace Go.Proofs.YtcjpplijbdfgbaaDoor
open Seq2 Go.ChangeShapes Go.WideShapes Go.ChangeAt Go.RowKit
set_option linter.unusedVariables false
set_option linter.unusedSimpArgs false

set_option maxRecDepth 100000 in
set_option maxHeartbeats 4000000 in
theorem where_ofFlitch_1 (k0 : Value) (p : Nat → Bool) (ao : Option Addr) (n c : Nat) (zs : List Lf) (w : World) (hn : n ≤ 16) (hv : LfsV w ao n zs)
    (hc : ∀ j v w', j < n → Below w.heap.size w w' → LfV w' v (zs.getD j lf0) → Calls Tryd.prog 126 #[v, k0] w' fun e w'' => e = .returned (.bool (p j)) ∧ Below w'.heap.size w' w'') :
    Calls Tryd.prog 125 #[.slice ao n c, .func (.func 126) #[] #[k0]] w fun e w' => ∃ v, e = .returned v ∧ OwnI w' w.heap.size v (plL p n) ∧ Below w.heap.size w w' := by
  have HV := Lib.hid hv
  have HC := Lib.hid hc
  clear hv hc
  obtain ⟨i0, hi, hz0, hz1, hz2⟩ := info_parts infoI
  go_enter Tryd.func125, Tryd.ntmps125
  go_wp2
  go_loopw [10, 5, 6] (fun iv v u wr => ∃ k : Nat, k ≤ n ∧ iv = .int .i64 k ∧ Hid (OwnI wr w.heap.size v (plL p k)) ∧ Hid (Below w.heap.size w wr)) (fun i _ _ _ => n - (intOf i).toNat)
  case atStart => exact ⟨0, by omega, rfl, Lib.hid (World.ownsRow_nil _ _ _ _), Lib.hid (Below.refl _ _)⟩
  case round =>
    obtain ⟨k, hk, rfl, ho, hb⟩ := hrel
    have hlen := plL_len p k
    have hle := hb.out.size
    by_cases hlt : k < n
    · obtain ⟨b, rfl, hcs⟩ := (HV.out.below hb.out).2.resolve_left (by omega)
      obtain ⟨v', hva, ha⟩ := hcs k hlt
      have HVA := Lib.hid hva
      obtain ⟨z, hz⟩ : ∃ z, zs.getD k lf0 = z := ⟨_, rfl⟩
      have HZK := Lib.hid hz
      rw [hz] at hva
      clear hz
      obtain ⟨ao6, n6, c6, rfl, _, _, _, _, _, _, _, _, _⟩ := hva.out
      have c0 : wr.cell? ⟨b, k * 9, none⟩ = some (.string z.id) := ha.at 0 rfl
      have c1 : wr.cell? ⟨b, k * 9 + 1, none⟩ = some (.string z.fl) := ha.at 1 rfl
      have c2 : wr.cell? ⟨b, k * 9 + 2, none⟩ = some (.int .i64 z.nu) := ha.at 2 rfl
      have c3 : wr.cell? ⟨b, k * 9 + 3, none⟩ = some (.string z.ve.1) := ha.at 3 rfl
      have c4 : wr.cell? ⟨b, k * 9 + 4, none⟩ = some (.int .i64 z.ve.2.1) := ha.at 4 rfl
      have c5 : wr.cell? ⟨b, k * 9 + 5, none⟩ = some (.int .i64 z.ve.2.2) := ha.at 5 rfl
      have c6' : wr.cell? ⟨b, k * 9 + 6, none⟩ = some (.int .i64 z.wd) := ha.at 6 rfl
      have c7 : wr.cell? ⟨b, k * 9 + 7, none⟩ = some (.int .i64 z.ln) := ha.at 7 rfl
      have c8 : wr.cell? ⟨b, k * 9 + 8, none⟩ = some (.slice ao6 n6 c6) := ha.at 8 rfl
      have hbw := ha.1
      have HA1 := Lib.hid (one_alloc (w := wr) (.cells #[.string z.id, .string z.fl, .int .i64 z.nu, .string z.ve.1, .int .i64 z.ve.2.1, .int .i64 z.ve.2.2, .int .i64 z.wd, .int .i64 z.ln, .slice ao6 n6 c6] 33))
      have HB1 := Lib.hid (hb.out.trans (HA1.out.mono hle))
      have HO1 := Lib.hid (ho.out.below HA1.out)
      have HCK := Lib.hid (HC.out k _ _ hlt HB1.out (HVA.out.below HA1.out))
      clear hcs hva ha HZK HVA
      cases hp : p k with
      | true =>
        rw [hp] at HCK
        go_wp2_with fail
        refine (HCK.out).mono ?_
        rintro e w1 ⟨rfl, g1⟩
        have hb1 := bseq HB1.out g1
        have hown := (HO1.out.below g1)
        have HB2 := Lib.hid hb1
        have hle1 := hb1.size
        clear g1 hb1 c0 c1 c2 c3 c4 c5 c6' c7 c8 hbw
        unfold OwnI at hown
        go_wp2_with (at_builtin; refine wpList_app1 rfl _ _ 55 rfl w.heap.size 2 i0 (.int .i64 0) 8 Tryd.underlying55 hi hz0 hz1 hz2 rfl _ _ _ rfl hown _ rfl (by first | rfl | simp) rfl (by omega) (by omega) hle1 ?_)
        intro v' w4 hown' hgrow
        have HO' := Lib.hid (show OwnI w4 w.heap.size v' (plL p (k + 1)) by rw [plL_yes hp]; exact OwnI.app rfl hown')
        have HB' := Lib.hid (below_app HB2.out (Nat.le_refl _) hle1 hown hgrow)
        clear hown' hgrow hown hp
        go_wp2
        go_roundw
        case rel => exact ⟨k + 1, by omega, by go_num, HO', HB'⟩
        case measure => simp [intOf]; omega
      | false =>
        rw [hp] at HCK
        go_wp2_with fail
        refine (HCK.out).mono ?_
        rintro e w1 ⟨rfl, g1⟩
        have HB' := Lib.hid (bseq HB1.out g1)
        have HO' := Lib.hid (show OwnI w1 w.heap.size _ (plL p (k + 1)) by rw [plL_no hp]; exact (HO1.out.below g1))
        clear g1 c0 c1 c2 c3 c4 c5 c6' c7 c8 hbw hp
        go_wp2
        go_roundw
        case rel => exact ⟨k + 1, by omega, by go_num, HO', HB'⟩
        case measure => simp [intOf]; omega
    · obtain rfl : k = n := by omega
      go_wp2
      go_ret
      exact ⟨_, rfl, ho.out, hb.out⟩
end Go.Proofs.YtcjpplijbdfgbaaDoor
