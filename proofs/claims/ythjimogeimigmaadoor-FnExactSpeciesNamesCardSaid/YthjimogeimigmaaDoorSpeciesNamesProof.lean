/- FnExactSpeciesNames returns true at every call. Condition: the table of species is as the program text lays it (tied). -/
import Derived.Test.YthjimogeimigmaaDoorCards
import Derived.Test.YthjimogeimigmaaDoorTie
import Derived.Test.YthjimogeimigmaaDoorVenLaid
import Derived.Test.YthjimogeimigmaaDoorVen16
import Derived.Test.YthjimogeimigmaaDoorWordsLaw
import Derived.Test.YthjimogeimigmaaDoorLft
import Derived.Test.YthjimogeimigmaaDoorSeq3
import Derived.Test.YthjimogeimigmaaDoorPost
import Derived.WalkKit
import Derived.ProofKit
import Derived.OpenShut
import Derived.ChangeMaps5
import Derived.ChangeVars
import Derived.Deep.DeepHandedRow
import Derived.Lib.LaidTab
import Derived.Lib.LaidU8
import Derived.Lay
import Derived.LaidMore
import Derived.LaidSub
import Derived.MakeChecks
import Derived.SevenTiedAt
namespace Go.Proofs.YthjimogeimigmaaDoor.fnExactSpeciesNames
open Seq2 Go.ChangeShapes Go.WideShapes Go.ChangeAt Go.RowKit Go.WideElems Go.ChangeMaps
set_option linter.unusedVariables false
set_option linter.unusedSimpArgs false

theorem own : ownKnob Tryd.prog.godebug = none := by kernel_rfl

set_option maxRecDepth 100000 in
set_option maxHeartbeats 8000000 in
theorem walk_in (w : World) (ht : TabAt w) :
    Calls Tryd.prog 3 #[] w fun e w' => e = .returned (.bool true) ∧ Below w.heap.size w w' := by
  have HT := Lib.hid ht
  clear ht
  go_enter Tryd.func3, Tryd.ntmps3
  have HW := Lib.hid (show Below w.heap.size w w from Below.refl _ _)
  have HM : Hid (TabAt w) := HT
  obtain ⟨L, hz⟩ : ∃ L, rowsL (fun _ => true) 10 = L := ⟨_, rfl⟩
  have hl : L.length ≤ 1000 := by rw [← hz]; exact Nat.le_trans (rowsL_len _ _) (by omega)
  have HZ := Lib.hid hz
  clear hz
  have hl2 : L.length ≤ 2000000 := by omega
  have hl3 : L.length ≤ 1900000 := by omega
  go_wp2_with fail
  refine (allnames_spec _).mono ?_
  rintro e w1 ⟨v0, rfl, ho0, hb1⟩
  unfold OwnS at ho0
  rw [HZ.out] at ho0
  have HO0 := Lib.hid ho0
  have HB1 := Lib.hid (bseq HW.out hb1)
  have HM1 := Lib.hid (HM.out.below HB1.out)
  clear ho0 hb1
  go_wp2_with fail
  refine (allnames_impl _ HM1.out).mono ?_
  rintro e w2 ⟨v1, rfl, ho1, hb2⟩
  unfold OwnS at ho1
  rw [HZ.out] at ho1
  have HO1 := Lib.hid ho1
  have HO0b := Lib.hid (own_below HO0.out hb2 (Nat.le_refl _))
  have HW2 := Lib.hid (bseq HB1.out hb2)
  clear ho1 hb2
  go_wp2_with fail
  refine (eqOwnS _ _ _ _ _ _ hl2 HO1.out HO0b.out).mono ?_
  rintro e w3 ⟨rfl, n1, rfl⟩
  have HO1c := Lib.hid (own_below HO1.out (drew_belowW w2 n1 _) (Nat.le_refl _))
  have HO0c := Lib.hid (own_below HO0b.out (drew_belowW w2 n1 _) (Nat.le_refl _))
  go_wp2_with fail
  refine (markOwnS _ _ _ _ _ hl3 HO1c.out).mono ?_
  rintro e w4 ⟨rfl, hm4, hb4⟩
  have HK4 := Lib.hid hm4
  have HO0d := Lib.hid (own_keepW HO0c.out (fun k hk => (HO0.out.lt k hk).2) hb4)
  have HW4 := Lib.hid ((HW2.out.trans (drew_belowW w2 n1 _)).trans (hb4.mono HB1.out.size))
  clear hm4 hb4
  go_wp2_with fail
  refine (heldOwnS _ _ _ _ hl3 HK4.out).mono ?_
  rintro e w5 ⟨rfl, hb5⟩
  have HK5 := Lib.hid (markedS_below HK4.out hb5 (Nat.le_refl _))
  have HO0e := Lib.hid (own_below HO0d.out hb5 (Nat.le_refl _))
  have HW5 := Lib.hid (bseq HW4.out hb5)
  have HM5 := Lib.hid (HM.out.below HW5.out)
  clear hb5
  go_wp2_with fail
  refine (allnames_impl _ HM5.out).mono ?_
  rintro e w6 ⟨v2, rfl, ho2, hb6⟩
  unfold OwnS at ho2
  rw [HZ.out] at ho2
  have HO2 := Lib.hid ho2
  have HO0f := Lib.hid (own_below HO0e.out hb6 (Nat.le_refl _))
  have HK6 := Lib.hid (markedS_below HK5.out hb6 (Nat.le_refl _))
  have HW6 := Lib.hid (bseq HW5.out hb6)
  clear ho2 hb6
  go_wp2_with fail
  refine (eqOwnS _ _ _ _ _ _ hl2 HO2.out HO0f.out).mono ?_
  rintro e w7 ⟨rfl, n2, rfl⟩
  have HK7 := Lib.hid (markedS_below HK6.out (drew_belowW w6 n2 _) (Nat.le_refl _))
  go_wp2_with fail
  refine (heldOwnS _ _ _ _ hl3 HK7.out).mono ?_
  rintro e w8 ⟨rfl, hb8⟩
  have HW7 := Lib.hid (HW6.out.trans (drew_belowW w6 n2 _))
  replace HW := Lib.hid (HW7.out.trans (hb8.mono HW7.out.size))
  clear hb8
  go_wp2
  go_ret
  exact ⟨rfl, HW.out⟩
set_option maxRecDepth 100000 in
set_option maxHeartbeats 4000000 in
theorem walk (w : World) (ht : TabAt w) :
    Calls Tryd.prog 3 #[] w fun e w' => e = .returned (.bool true) ∧ Below w.heap.size w w' := by
  exact walk_in  w ht

set_option maxRecDepth 100000 in
theorem contract (H : Type) (enc : TypeId × Value → H) (W : World) (base : Nat) (args : Array Value) (ds gs : List (DataW H)) (before : List MemPlace)
    (hval : ∀ (j : Nat) t v, Tryd.f3.params[j]? = some t → args[j]? = some v → Value.okWide Tryd.prog W .any base t v)
    (hW : DataW.Whole enc Tryd.prog Tryd.f3.params.toList Rows.fnExactSpeciesNamesSpec.vars false W args.toList ds gs before) (hL : laidMetH Tryd.prog Rows.fnExactSpeciesNamesRow.laid W) (hsh : W.ShapedOpen Tryd.prog) :
    Calls Tryd.prog 3 args W fun e W' => ∃ v, e = .returned v ∧ Rows.fnExactSpeciesNamesSpec.post enc Tryd.prog Tryd.f3 false true false false W args v W' := by
  have hW' := hW
  obtain ⟨p, q, hA0, hV, rfl, hfz, hnd⟩ := hW
  have hV' : DataW.TrodVars enc Tryd.prog W (fun _ => true) ["loop.example/g00956/impl.speciesTable"] gs q := hV
  have hA : DataW.TrodAll enc Tryd.prog W 0 (fun _ => true) true Tryd.f3.params.toList args.toList ds p := hA0
  rw [Tryd.params3] at hA hval
  obtain ⟨ha, rfl, rfl⟩ := trodAll_nil hA
  obtain rfl : args = #[] := by cases args; simp_all
  clear hA0
  have ht : TabAt W := by
    have hL1 := hL
    rw [MakeChecks.laidMetH_plain _ _ _ (by kernel_rfl)] at hL1
    exact tabAt_of hL1 (by unfold Rows.fnExactSpeciesNamesRow; simp)
  obtain ⟨gg, hgs⟩ : ∃ gg, gs = [gg] := by
    obtain ⟨_, _, _, _, d, _, hh, _⟩ := trodVars_one hV'
    exact ⟨d, hh⟩
  subst hgs
  have hc := walk  W ht  
  refine hc.mono fun e W' ⟨he, hg⟩ => ?_
  subst he
  exact ⟨_, rfl, post_below (pa := []) (pv := q) hW' (fun _ _ _ => (trodAll_cons_mk (shut_bool Tryd.underlying4 _) trodAll_mk0)) (fun sp hsp => trodAll_mk0) (fun sp hsp => species_stay hg hV' (fun x hx => hsp x (by first | exact hx | simp [hx]))) (by simp)
    hg (ok_one (by kernel_rfl) rfl (okWide_bool_mk Tryd.underlying4 _))⟩

set_option maxRecDepth 100000 in
theorem lifted (os : Os) (started : os.Started) (H : Type) (enc : TypeId × Value → H) (F : Stop.Interp) :
    ReturnsInHanded {} Tryd.checked os 3 .any ((OpenSpec.ofChange Rows.fnExactSpeciesNamesSpec).preRow enc Tryd.prog Tryd.f3 Rows.fnExactSpeciesNamesRow.domain false Rows.fnExactSpeciesNamesRow.laid) (((OpenSpec.ofChange Rows.fnExactSpeciesNamesSpec).at F).post enc Tryd.prog Tryd.f3 false true false false) := by
  refine returnsInHanded_of_row (C := Tryd.checked) (s := OpenSpec.ofChange Rows.fnExactSpeciesNamesSpec) own started (by kernel_rfl) Tryd.func3
    (ChangeSpec.witness_shaped (enc := enc) (C := Tryd.checked) (os := os) (X := fun w _ => laidMetH Tryd.prog Rows.fnExactSpeciesNamesRow.laid w) false (World.laidAll Tryd.prog os Rows.fnExactSpeciesNamesRow.laid) #[] 8 (World.laidAll_os _ _ _)
      (World.shaped_of_ZipB (by kernel_rfl) (by kernel_rfl)) (by kernel_rfl) (by kernel_rfl) (by kernel_rfl)
      (by rw [MakeChecks.laidMetH_plain _ _ _ (by kernel_rfl)]; exact laidMet_laidAll _ (by kernel_rfl) (by kernel_rfl))) ?_
  intro W base args ds gs before hval hW _ _ _ hL hsh _
  exact contract H enc W base args ds gs before hval hW hL hsh

theorem said : Rows.FnExactSpeciesNamesSaid :=
  OpenClaim.holds_of_cond 3 Tryd.f3 rfl rfl rfl rfl rfl rfl rfl ⟨rfl, rfl, rfl, rfl, rfl⟩ rfl rfl rfl rfl rfl (by kernel_rfl) Tryd.func3 (by kernel_rfl)
    (of_decide_eq_true (by kernel_rfl)) (by unfold Func.isWrapper; first | (rw [if_pos (by decide +kernel)]; kernel_rfl) | (rw [if_neg (by decide +kernel)]; exact ⟨rfl, rfl⟩))
    (fun os started H enc _ F => by rw [OpenClaim.pre_eq_preRow]; exact lifted os started H enc F)

theorem plain (f : FuncId) (fn : Func) (hf : Tryd.pinned.checked.prog.funcNamed Rows.fnExactSpeciesNamesRow.func = some f) (hfn : Tryd.pinned.checked.prog.funcs[f]? = some fn) :
    true = Tryd.pinned.checked.prog.looks [] ∧ ∀ (j : Nat) t, fn.params[j]? = some t → Tryd.pinned.checked.prog.wantsStandIn t = false := by
  obtain rfl : f = 3 := Option.some.inj ((show Tryd.prog.funcNamed Rows.fnExactSpeciesNamesRow.func = some 3 by kernel_rfl).symm.trans hf) |>.symm
  obtain rfl : fn = Tryd.f3 := (Option.some.inj (Tryd.func3.symm.trans hfn)).symm
  refine ⟨by kernel_rfl, fun j t ht => ?_⟩
  rw [Tryd.params3] at ht
  simp at ht

theorem card : Rows.FnExactSpeciesNamesCardSaid :=
  Claim7.holds_tied_plain_at .later [] _ _ _ _ said (fun _ h => by cases h) (by kernel_rfl) (fun _ h => by cases h) fnExactSpeciesNames_row_tie rfl ⟨rfl, rfl⟩ (by kernel_rfl) rfl plain (by kernel_rfl)
#print axioms card
end Go.Proofs.YthjimogeimigmaaDoor.fnExactSpeciesNames
