/- FnExactCodeName returns true at every int64 number, and leaves it as it was. Condition: the variable codeNames of impl is as the program text lays it (tied). -/
import Derived.Test.YtglbbpcdodlnmaaDoorCards
import Derived.Test.YtglbbpcdodlnmaaDoorTie
import Derived.Test.YtglbbpcdodlnmaaDoorCode
import Derived.Test.YtglbbpcdodlnmaaDoorPost
import Derived.WalkKit
import Derived.ProofKit
import Derived.OpenShut
import Derived.ChangeVars
import Derived.Deep.DeepHandedRow
import Derived.Lib.LaidTab
import Derived.Lib.LaidU8
import Derived.Lay
import Derived.LaidMore
import Derived.LaidSub
import Derived.MakeChecks
import Derived.SevenTiedAt
namespace Go.Proofs.YtglbbpcdodlnmaaDoor.fnExactCodeName
open Go.ChangeShapes Go.WideShapes Go.ChangeAt Go.RowKit Go.WideElems
set_option linter.unusedVariables false

theorem own : ownKnob Tryd.prog.godebug = none := by kernel_rfl

def names : List (List UInt8) := [[111, 107], [105, 110, 118, 97, 108, 105, 100], [114, 97, 110, 103, 101], [110, 111, 116, 45, 102, 111, 117, 110, 100], [101, 120, 105, 115, 116, 115], [102, 117, 108, 108], [115, 116, 97, 116, 101], [111, 114, 100, 101, 114], [115, 121, 110, 116, 97, 120], [102, 111, 114, 109, 97, 116], [99, 104, 101, 99, 107, 115, 117, 109], [116, 114, 117, 110, 99, 97, 116, 101, 100]]
theorem gNames : Tryd.prog.globalNamed "loop.example/g00956/impl.codeNames" = some 0 := by kernel_rfl
theorem tNames : (Tryd.prog.globals[0]?).map (·.type) = some 62 := by kernel_rfl
theorem cS : Tryd.prog.cellsOf 9 = 1 := by kernel_rfl
/-- What the row's list gives: the cells of the table. -/
theorem cells {W : World} (h : laidMetH Tryd.prog Rows.fnExactCodeNameRow.laid W) (i : Nat) (hi : i < 12) : W.cell? ⟨0, i, none⟩ = some (.string ⟨(names.getD i []).toArray⟩) := by
  rw [MakeChecks.laidMetH_plain _ _ _ (by kernel_rfl)] at h
  obtain ⟨g, t, cs, fuel, p, hg, ht, hv, hd⟩ := Lib.laidMet.reads h (show ("loop.example/g00956/impl.codeNames", Rows.laid_loop_example_g00956_impl_codeNames) ∈ Rows.fnExactCodeNameRow.laid by unfold Rows.fnExactCodeNameRow; simp)
  obtain rfl := Option.some.inj (gNames.symm.trans hg)
  obtain rfl := Option.some.inj (tNames.symm.trans ht)
  obtain ⟨xs, m, _, ex, _, hl, hel⟩ := DataW.trod_array Tryd.underlying62 hd
  have hE := hel i hi
  rw [cS, Nat.mul_one, List.getElem?_eq_getElem (by omega)] at hE
  obtain ⟨s, e1, e2, _⟩ := DataW.trod_string Tryd.underlying9 hE
  have e3 : (xs.map (·.1)) = names.map fun n => (.lit (.string n) : DataW Unit) := (DataW.agg.inj (Prod.mk.inj ex).1).symm
  have e4 : (xs.map (·.1))[i]? = (names.map fun n => (DataW.lit (.string n) : DataW Unit))[i]? := by rw [e3]
  have hnl : names.length = 12 := rfl
  rw [List.getElem?_map, List.getElem?_map, List.getElem?_eq_getElem (by omega : i < xs.length), List.getElem?_eq_getElem (by omega : i < names.length), e2] at e4
  have hz : s.data.toList = names.getD i [] := by
    simp only [Option.map_some, Option.some.injEq, DataW.lit.injEq, Lit.string.injEq] at e4
    rw [e4, List.getD, List.getElem?_eq_getElem (by omega : i < names.length)]; rfl
  rw [World.var?_cell hg hv i]
  have h0 : ((cs.toList.drop i).take 1)[0]? = some (.string s) := by rw [e1]; rfl
  have h1 : cs[i]? = some (.string s) := by simpa using h0
  rw [h1, ← hz]

/-- Variables that were read before the call read the same behind it, whatever spare is asked. -/
theorem vars_stay {H : Type} {enc : TypeId × Value → H} {W W' : World} {gs : List (DataW H)} {ps before : List MemPlace} (hb : Below W.heap.size W W') (h : DataW.TrodVars enc Tryd.prog W (fun _ => true) ["loop.example/g00956/impl.codeNames"] gs ps)
    {sp : Nat → Bool} (hsp : ∀ p ∈ ps, sp p.block = true) : DataW.TrodVars enc Tryd.prog W' sp ["loop.example/g00956/impl.codeNames"] gs ps := by
  have hlt := h.lt
  obtain ⟨g, t, cs, fuel, d, p, rfl, h1, h2, h3, h4, rfl⟩ := trodVars_one h
  obtain rfl := Option.some.inj (gNames.symm.trans h1)
  obtain rfl := Option.some.inj (tNames.symm.trans h2)
  have hg : 0 < W.heap.size := by
    rcases Nat.lt_or_ge 0 W.heap.size with h' | h'
    · exact h'
    · unfold World.var? at h3
      simp [gNames, Array.getElem?_eq_none h'] at h3
  have h3' : W'.var? Tryd.prog "loop.example/g00956/impl.codeNames" = some cs := by
    unfold World.var? at h3 ⊢
    rw [gNames] at h3 ⊢
    simp only [Option.bind_some] at h3 ⊢
    rw [hb.block _ hg]; exact h3
  have hr : Tryd.prog.readableRec 62 = true := by kernel_rfl
  have hrow : 62 < Tryd.prog.types.size := of_decide_eq_true (by kernel_rfl)
  exact trodVars_mk1 gNames tNames h3' (DataW.trod_stays (kids_book (by kernel_rfl) hr) (book_sized hr) (fun h => by cases h) ⟨hrow, book_self _⟩ h4 (fun x hx => hb.same (hlt x (by simp [hx]))) (fun x hx => hsp x (by simp [hx])))

theorem two (n : Int) (s : ByteArray) (w : World) (h1 : Calls Tryd.prog 22 #[.int .i64 n] w fun e w' => e = .returned (.string s) ∧ Below w.heap.size w w')
    (h2 : ∀ w1, Below w.heap.size w w1 → Calls Tryd.prog 23 #[.int .i64 n] w1 fun e w' => e = .returned (.string s) ∧ Below w1.heap.size w1 w') :
    Calls Tryd.prog 4 #[.int .i64 n] w fun e w' => e = .returned (.bool true) ∧ Below w.heap.size w w' := by
  have H1 := Lib.hid h1
  have H2 := Lib.hid h2
  clear h1 h2
  go_enter Tryd.func4, Tryd.ntmps4
  go_wp2_with fail
  refine H1.out.mono ?_
  rintro e w1 ⟨rfl, hb⟩
  have HB := Lib.hid hb
  clear hb
  go_wp2_with fail
  refine (H2.out w1 HB.out).mono ?_
  rintro e w2 ⟨rfl, hb2⟩
  have HB2 := Lib.hid hb2
  clear hb2
  go_wp2
  go_ret
  exact ⟨rfl, HB.out.trans (HB2.out.mono HB.out.size)⟩
theorem walk (n : Int) (w : World) (hg : 0 < w.heap.size) (hc : ∀ i, i < 12 → w.cell? ⟨0, i, none⟩ = some (.string ⟨(names.getD i []).toArray⟩)) :
    Calls Tryd.prog 4 #[.int .i64 n] w fun e w' => e = .returned (.bool true) ∧ Below w.heap.size w w' := by
  by_cases h : n < 0 ∨ 11 < n
  · exact two n ⟨#[]⟩ w (code_spec_no n w h) (fun w1 _ => code_impl_no n w1 h)
  · obtain ⟨k, rfl⟩ : ∃ k : Nat, n = k := ⟨n.toNat, by omega⟩
    have hk : k < 12 := by omega
    match k, hk with
    | 0, _ => exact two 0 ⟨#[111, 107]⟩ w (code_spec_0 w) (fun w1 hb => code_impl_0 w1 ((hb.cell (p := ⟨0, 0, none⟩) hg).trans (hc 0 (by omega))))
    | 1, _ => exact two 1 ⟨#[105, 110, 118, 97, 108, 105, 100]⟩ w (code_spec_1 w) (fun w1 hb => code_impl_1 w1 ((hb.cell (p := ⟨0, 1, none⟩) hg).trans (hc 1 (by omega))))
    | 2, _ => exact two 2 ⟨#[114, 97, 110, 103, 101]⟩ w (code_spec_2 w) (fun w1 hb => code_impl_2 w1 ((hb.cell (p := ⟨0, 2, none⟩) hg).trans (hc 2 (by omega))))
    | 3, _ => exact two 3 ⟨#[110, 111, 116, 45, 102, 111, 117, 110, 100]⟩ w (code_spec_3 w) (fun w1 hb => code_impl_3 w1 ((hb.cell (p := ⟨0, 3, none⟩) hg).trans (hc 3 (by omega))))
    | 4, _ => exact two 4 ⟨#[101, 120, 105, 115, 116, 115]⟩ w (code_spec_4 w) (fun w1 hb => code_impl_4 w1 ((hb.cell (p := ⟨0, 4, none⟩) hg).trans (hc 4 (by omega))))
    | 5, _ => exact two 5 ⟨#[102, 117, 108, 108]⟩ w (code_spec_5 w) (fun w1 hb => code_impl_5 w1 ((hb.cell (p := ⟨0, 5, none⟩) hg).trans (hc 5 (by omega))))
    | 6, _ => exact two 6 ⟨#[115, 116, 97, 116, 101]⟩ w (code_spec_6 w) (fun w1 hb => code_impl_6 w1 ((hb.cell (p := ⟨0, 6, none⟩) hg).trans (hc 6 (by omega))))
    | 7, _ => exact two 7 ⟨#[111, 114, 100, 101, 114]⟩ w (code_spec_7 w) (fun w1 hb => code_impl_7 w1 ((hb.cell (p := ⟨0, 7, none⟩) hg).trans (hc 7 (by omega))))
    | 8, _ => exact two 8 ⟨#[115, 121, 110, 116, 97, 120]⟩ w (code_spec_8 w) (fun w1 hb => code_impl_8 w1 ((hb.cell (p := ⟨0, 8, none⟩) hg).trans (hc 8 (by omega))))
    | 9, _ => exact two 9 ⟨#[102, 111, 114, 109, 97, 116]⟩ w (code_spec_9 w) (fun w1 hb => code_impl_9 w1 ((hb.cell (p := ⟨0, 9, none⟩) hg).trans (hc 9 (by omega))))
    | 10, _ => exact two 10 ⟨#[99, 104, 101, 99, 107, 115, 117, 109]⟩ w (code_spec_10 w) (fun w1 hb => code_impl_10 w1 ((hb.cell (p := ⟨0, 10, none⟩) hg).trans (hc 10 (by omega))))
    | 11, _ => exact two 11 ⟨#[116, 114, 117, 110, 99, 97, 116, 101, 100]⟩ w (code_spec_11 w) (fun w1 hb => code_impl_11 w1 ((hb.cell (p := ⟨0, 11, none⟩) hg).trans (hc 11 (by omega))))

set_option maxRecDepth 100000 in
theorem contract (H : Type) (enc : TypeId × Value → H) (W : World) (base : Nat) (args : Array Value) (ds gs : List (DataW H)) (before : List MemPlace)
    (hval : ∀ (j : Nat) t v, Tryd.f4.params[j]? = some t → args[j]? = some v → Value.okWide Tryd.prog W .any base t v)
    (hW : DataW.Whole enc Tryd.prog Tryd.f4.params.toList Rows.fnExactCodeNameSpec.vars false W args.toList ds gs before) (hL : laidMetH Tryd.prog Rows.fnExactCodeNameRow.laid W) (hsh : W.ShapedOpen Tryd.prog) :
    Calls Tryd.prog 4 args W fun e W' => ∃ v, e = .returned v ∧ Rows.fnExactCodeNameSpec.post enc Tryd.prog Tryd.f4 false true false false W args v W' := by
  have hW' := hW
  obtain ⟨p, q, hA0, hV, rfl, hfz, hnd⟩ := hW
  have hV' : DataW.TrodVars enc Tryd.prog W (fun _ => true) ["loop.example/g00956/impl.codeNames"] gs q := hV
  have hA : DataW.TrodAll enc Tryd.prog W 0 (fun _ => true) true Tryd.f4.params.toList args.toList ds p := hA0
  rw [Tryd.params4] at hA hval
  obtain ⟨v0, vs0, d0, ds0, p0, q0, hargs, rfl, rfl, h0, r0⟩ := trodAll_cons hA
  obtain ⟨rfl, rfl, rfl⟩ := trodAll_nil r0
  obtain rfl : args = #[v0] := by cases args; simp_all
  obtain ⟨a0, rfl, rfl, rfl, w0⟩ := open_int Tryd.underlying2 (hval 0 2 v0 rfl rfl) h0
  clear hA0
  simp only [List.append_nil, List.nil_append] at hW'
  have hc := fun i hi => cells hL i hi
  have hg : 0 < W.heap.size := by
    have := hc 0 (by omega)
    rcases Nat.lt_or_ge 0 W.heap.size with h' | h'
    · exact h'
    · simp [World.cell?, Array.getElem?_eq_none h'] at this
  obtain ⟨g1, hgs⟩ : ∃ g1, gs = [g1] := by
    obtain ⟨_, _, _, _, d, _, hh, _⟩ := trodVars_one hV'
    exact ⟨d, hh⟩
  subst hgs
  refine (walk a0 W hg hc).mono fun e W' ⟨he, hb⟩ => ?_
  subst he
  exact ⟨_, rfl, post_below (pa := []) (pv := q) hW' (fun _ _ _ => (trodAll_cons_mk (shut_bool Tryd.underlying4 _) trodAll_mk0)) (fun sp _ => (trodAll_cons_mk (shut_int Tryd.underlying2 w0) trodAll_mk0)) (fun sp hsp => vars_stay (before := q) hb hV' hsp) rfl
    hb (ok_one (by kernel_rfl) rfl (okWide_bool_mk Tryd.underlying4 _))⟩

set_option maxRecDepth 100000 in
theorem lifted (os : Os) (started : os.Started) (H : Type) (enc : TypeId × Value → H) (F : Stop.Interp) :
    ReturnsInHanded {} Tryd.checked os 4 .any ((OpenSpec.ofChange Rows.fnExactCodeNameSpec).preRow enc Tryd.prog Tryd.f4 Rows.fnExactCodeNameRow.domain false Rows.fnExactCodeNameRow.laid) (((OpenSpec.ofChange Rows.fnExactCodeNameSpec).at F).post enc Tryd.prog Tryd.f4 false true false false) := by
  refine returnsInHanded_of_row (C := Tryd.checked) (s := OpenSpec.ofChange Rows.fnExactCodeNameSpec) own started (by kernel_rfl) Tryd.func4
    (ChangeSpec.witness_shaped (enc := enc) (C := Tryd.checked) (os := os) (X := fun w _ => laidMetH Tryd.prog Rows.fnExactCodeNameRow.laid w) false (World.laidAll Tryd.prog os Rows.fnExactCodeNameRow.laid) #[.int .i64 0] 8 (World.laidAll_os _ _ _)
      (World.shaped_of_ZipB (by kernel_rfl) (by kernel_rfl)) (by kernel_rfl) (by kernel_rfl) (by kernel_rfl)
      (by rw [MakeChecks.laidMetH_plain _ _ _ (by kernel_rfl)]; exact laidMet_laidAll _ (by kernel_rfl) (by kernel_rfl))) ?_
  intro W base args ds gs before hval hW _ _ _ hL hsh _
  exact contract H enc W base args ds gs before hval hW hL hsh

theorem said : Rows.FnExactCodeNameSaid :=
  OpenClaim.holds_of_cond 4 Tryd.f4 rfl rfl rfl rfl rfl rfl rfl ⟨rfl, rfl, rfl, rfl, rfl⟩ rfl rfl rfl rfl rfl (by kernel_rfl) Tryd.func4 (by kernel_rfl)
    (of_decide_eq_true (by kernel_rfl)) (by unfold Func.isWrapper; first | (rw [if_pos (by decide +kernel)]; kernel_rfl) | (rw [if_neg (by decide +kernel)]; exact ⟨rfl, rfl⟩))
    (fun os started H enc _ F => by rw [OpenClaim.pre_eq_preRow]; exact lifted os started H enc F)

theorem plain (f : FuncId) (fn : Func) (hf : Tryd.pinned.checked.prog.funcNamed Rows.fnExactCodeNameRow.func = some f) (hfn : Tryd.pinned.checked.prog.funcs[f]? = some fn) :
    true = Tryd.pinned.checked.prog.looks [] ∧ ∀ (j : Nat) t, fn.params[j]? = some t → Tryd.pinned.checked.prog.wantsStandIn t = false := by
  obtain rfl : f = 4 := Option.some.inj ((show Tryd.prog.funcNamed Rows.fnExactCodeNameRow.func = some 4 by kernel_rfl).symm.trans hf) |>.symm
  obtain rfl : fn = Tryd.f4 := (Option.some.inj (Tryd.func4.symm.trans hfn)).symm
  refine ⟨by kernel_rfl, fun j t ht => ?_⟩
  rw [Tryd.params4] at ht
  have hm : t ∈ [2] := by simpa using Array.mem_of_getElem? ht
  have hall : ([2].all fun u => !Tryd.prog.wantsStandIn u) = true := by kernel_rfl
  exact (show Tryd.prog.wantsStandIn t = false by simpa using List.all_eq_true.1 hall t hm)

theorem card : Rows.FnExactCodeNameCardSaid :=
  Claim7.holds_tied_plain_at .later [] _ _ _ _ said (fun _ h => by cases h) (by kernel_rfl) (fun _ h => by cases h) fnExactCodeName_row_tie rfl ⟨rfl, rfl⟩ (by kernel_rfl) rfl plain (by kernel_rfl)
#print axioms card
end Go.Proofs.YtglbbpcdodlnmaaDoor.fnExactCodeName
