/- A set of points, as a map that a call keeps to itself; are the points of a drawing valid, in impl. -/
import Derived.Test.YtfhlafnjccoocaaGreatDrw10
import Derived.Maps.OwnSet
import Derived.DeepKeys4
namespace Go.Proofs.YtfhlafnjccoocaaGreat
open Seq2 Go.ChangeShapes Go.WideShapes Go.ChangeAt Go.RowKit Go.Maps Go.Joins
set_option linter.unusedVariables false
set_option linter.unusedSimpArgs false

theorem laidOut : laidOutB Tryz.prog = true := by kernel_rfl
theorem keyedPt : Keyed Tryz.prog 67 := Keyed.of_law (deep_law_laid laidOut (m := 3) (by omega) (of_decide_eq_true (by kernel_rfl)) (by kernel_rfl) (by rw [Tryz.underlying67]))
theorem cIP : Tryz.prog.cellsOf 67 = 2 := by kernel_rfl
/-- What a point reads as, as a key. -/
def keyL (p : P2) : Lit := (DataW.agg (H := Unit) [.lit (.int .i64 p.1), .lit (.int .i64 p.2)]).asKey
theorem keyPt {x y : Int} (wx : (Lit.int .i64 x).wf = true) (wy : (Lit.int .i64 y).wf = true) : keyOf Tryz.prog 67 (.agg #[.int .i64 x, .int .i64 y]) = some (keyL (x, y)) := by
  have hd : DataW.Trod (fun _ => ()) Tryz.prog ⟨#[], fun _ _ => 0, 0, default, #[]⟩ 0 (fun _ => true) true 67 (.agg #[.int .i64 x, .int .i64 y]) (.agg [.lit (.int .i64 x), .lit (.int .i64 y)]) [] :=
    shut_agg2 (y0 := (.lit (.int .i64 x), [])) (y1 := (.lit (.int .i64 y), [])) Tryz.underlying67 (by kernel_rfl) cIP ⟨1, by simp [DataW.trod, Tryz.underlying2, wx]⟩ ⟨1, by simp [DataW.trod, Tryz.underlying2, wy]⟩
  exact (keyOf_asKey (by kernel_rfl) (by rw [Tryz.underlying67]) (by simp [Value.formed, Tryz.underlying67, cIP]) hd).1
theorem keyL_inj {p q : P2} (hp : (Lit.int .i64 p.1).wf = true ∧ (Lit.int .i64 p.2).wf = true) (hq : (Lit.int .i64 q.1).wf = true ∧ (Lit.int .i64 q.2).wf = true) (h : keyL p = keyL q) : p = q := by
  have h1 := keyPt hp.1 hp.2
  have h2 := keyPt hq.1 hq.2
  have e : keyL (q.1, q.2) = keyL (p.1, p.2) := h.symm
  rw [e] at h2
  have := keyedPt.inj h1 h2
  simp at this
  exact Prod.ext this.1 this.2
theorem wf_ok {x y : Int} (h : okI x y = true) : (Lit.int .i64 x).wf = true ∧ (Lit.int .i64 y).wf = true := by
  have := ok_bd h
  exact ⟨by simp only [Lit.wf, Bool.and_eq_true, decide_eq_true_eq]; show -9223372036854775808 ≤ x ∧ x ≤ 9223372036854775807; omega, by simp only [Lit.wf, Bool.and_eq_true, decide_eq_true_eq]; show -9223372036854775808 ≤ y ∧ y ≤ 9223372036854775807; omega⟩
theorem pts_bad' {wd hg : Int} {zs : List P2} {i : Nat} (hi : i < zs.length) (h : ptB wd hg zs i = false) : ptsB wd hg zs = false := by
  unfold ptsB; rw [allTo_bad hi h]; rfl
def keysL (zs : List P2) (k : Nat) : List Lit := (zs.take k).map keyL
def Sn (zs : List P2) (k : Nat) : DataW Unit := setOf (.lit (.bool true)) (keysL zs k)
theorem keysL_succ {zs : List P2} {k : Nat} (hk : k < zs.length) : keysL zs (k + 1) = keysL zs k ++ [keyL (zs.getD k (0, 0))] := by
  unfold keysL
  rw [List.take_succ_eq_append_getElem hk, List.map_append]
  simp [List.getD_eq_getElem?_getD, hk]
theorem Sn_succ {zs : List P2} {k : Nat} (hk : k < zs.length) : Sn zs (k + 1) = (Sn zs k).put (keyL (zs.getD k (0, 0))) (.lit (.bool true)) := by
  unfold Sn
  rw [keysL_succ hk, setOf_snoc]
theorem Sn_zero (zs : List P2) : Sn zs 0 = .map [] := by simp [Sn, keysL, setOf]
theorem mem_getD {zs : List P2} {p : P2} {k : Nat} (h : p ∈ zs.take k) : ∃ j, j < k ∧ j < zs.length ∧ zs.getD j (0, 0) = p := by
  obtain ⟨j, hj, e⟩ := List.mem_iff_getElem.1 h
  have hl : j < k ∧ j < zs.length := by rw [List.length_take] at hj; omega
  refine ⟨j, hl.1, hl.2, ?_⟩
  rw [← e]
  simp [List.getD_eq_getElem?_getD, hl.2]
theorem keysL_key {zs : List P2} (hv : allOk zs = true) (k : Nat) : ∀ l ∈ keysL zs k, WideAt.IsKeyLit l := by
  intro l hl
  obtain ⟨p, hp, rfl⟩ := List.mem_map.1 hl
  obtain ⟨j, _, hj, rfl⟩ := mem_getD hp
  obtain ⟨w1, w2⟩ := wf_ok (allOk_at hv j hj)
  exact keyedPt.key (keyPt w1 w2)
theorem has_Sn {zs : List P2} (hv : allOk zs = true) {k : Nat} (hk : k < zs.length) : Maps.has (Sn zs k) (keyL (zs.getD k (0, 0))) = !newB zs k := by
  unfold Sn
  rw [has_setOf _ _ _ (keysL_key hv k)]
  cases hb : newB zs k with
  | true =>
    rw [Bool.not_true, List.any_eq_false]
    intro l hl hs
    obtain ⟨p, hp, rfl⟩ := List.mem_map.1 hl
    obtain ⟨j, hjk, hj, rfl⟩ := mem_getD hp
    have e := keyL_inj (wf_ok (allOk_at hv j hj)) (wf_ok (allOk_at hv k hk)) (WideAt.sameKey_eq hs)
    have := (allTo_iff _ _).1 hb j hjk
    rw [e] at this
    simp at this
    rw [(eqP_iff _ _).2 rfl] at this
    cases this
  | false =>
    rw [Bool.not_false, List.any_eq_true]
    obtain ⟨j, hjk, he⟩ : ∃ j, j < k ∧ eqP (zs.getD k (0, 0)) (zs.getD j (0, 0)) = true := by
      refine Classical.byContradiction fun h => ?_
      have : newB zs k = true := allTo_ok (fun j hj => by
        cases hq : eqP (zs.getD k (0, 0)) (zs.getD j (0, 0)) with
        | false => rfl
        | true => exact absurd ⟨j, hj, hq⟩ h)
      rw [hb] at this; cases this
    have e := (eqP_iff _ _).1 he
    have hjl : j < zs.length := by omega
    refine ⟨keyL (zs.getD j (0, 0)), List.mem_map.2 ⟨zs.getD j (0, 0), ?_, rfl⟩, ?_⟩
    · have : j < (zs.take k).length := by rw [List.length_take]; omega
      have h2 : (zs.take k)[j] = zs.getD j (0, 0) := by simp [List.getD_eq_getElem?_getD, hjl]
      rw [← h2]; exact List.getElem_mem this
    · rw [e]; exact WideAt.sameKey_self (keyedPt.key (keyPt (wf_ok (allOk_at hv j hjl)).1 (wf_ok (allOk_at hv j hjl)).2))
/-- How many there are tells whether all are different. -/
theorem size_Sn {zs : List P2} (hv : allOk zs = true) : ∀ k, k ≤ zs.length → Maps.size (Sn zs k) ≤ k ∧ (Maps.size (Sn zs k) = k ↔ allTo (newB zs) k = true) := by
  intro k
  induction k with
  | zero => intro _; rw [Sn_zero]; exact ⟨Nat.le_refl _, fun _ => rfl, fun _ => rfl⟩
  | succ k ih =>
    intro hk
    obtain ⟨h1, h2⟩ := ih (by omega)
    rw [Sn_succ (by omega), size_put (show Tidy (Sn zs k) from tidy_setOf _ _ (keysL_key hv k)), has_Sn hv (by omega)]
    cases hb : newB zs k with
    | true =>
      simp only [Bool.not_true, Bool.false_eq_true, if_false]
      refine ⟨by omega, fun h => allTo_succ (h2.1 (by omega)) hb, fun h => ?_⟩
      have : allTo (newB zs) k = true := allTo_ok (fun j hj => (allTo_iff _ _).1 h j (by omega))
      have := h2.2 this
      omega
    | false =>
      simp only [Bool.not_false, if_true]
      refine ⟨by omega, fun h => by omega, fun h => ?_⟩
      have := (allTo_iff _ _).1 h k (by omega)
      rw [hb] at this; cases this
theorem allValid_pv (ao : Option Addr) (n c : Nat) (zs : List P2) (w : World) (hl : n ≤ 1000) (hp : PV w ao n zs) : Calls Tryz.prog 51 #[.slice ao n c] w fun e w' => e = .returned (.bool (allOk zs)) ∧ Below w.heap.size w w' := by
  by_cases h0 : n = 0
  · have hz : zs = [] := List.eq_nil_of_length_eq_zero (by have := hp.1; omega)
    subst hz h0
    clear hp
    go_enter Tryz.func51, Tryz.ntmps51
    go_wp2
    go_loopw [7] (fun iv wr => iv = .int .i64 0 ∧ Hid (Below w.heap.size w wr)) (fun _ _ => 0)
    case atStart => exact ⟨rfl, Lib.hid (Below.refl _ _)⟩
    case round =>
      obtain ⟨rfl, hb⟩ := hrel
      go_wp2
      go_ret
      exact ⟨rfl, hb.out⟩
  · obtain ⟨b, rfl, hpp⟩ := hp.at (by omega)
    exact allValid_any b n c zs w hp.1 hl hpp
theorem pt_out {wd hg : Int} {zs : List P2} {i : Nat} {x y : Int} (hi : i < zs.length) (e : zs.getD i (0, 0) = (x, y)) (h : wd < x ∨ hg < y) : ptsB wd hg zs = false := by
  refine pts_bad' hi ?_
  unfold ptB ptIn
  rw [e]
  have : (inI x 0 wd && inI y 0 hg) = false := by
    unfold inI
    rw [← Bool.decide_and, ← Bool.decide_and, ← Bool.decide_and]
    simp; omega
  rw [this]; rfl
theorem pts_allOk {wd hg : Int} {zs : List P2} (hw : wd ≤ 20000) (hh : hg ≤ 20000) (h : ptsB wd hg zs = true) : allOk zs = true := by
  unfold ptsB at h
  simp only [Bool.and_eq_true] at h
  have h1 := (allTo_iff _ _).1 h.1
  unfold allOk
  rw [List.all_eq_true]
  intro p hp
  obtain ⟨j, hj, e⟩ := List.mem_iff_getElem.1 hp
  have h2 := h1 j hj
  unfold ptB ptIn inI at h2
  have e2 : zs.getD j (0, 0) = p := by rw [← e]; simp [List.getD_eq_getElem?_getD, hj]
  rw [e2] at h2
  simp only [Bool.and_eq_true, decide_eq_true_eq] at h2
  unfold okI inI
  simp only [Bool.and_eq_true, decide_eq_true_eq]
  omega
theorem pts_end {wd hg : Int} {zs : List P2} {n : Nat} (hn : n = zs.length) (h48 : n ≤ 48) (hv : allOk zs = true) (h : ∀ j, j < n → ptIn wd hg (zs.getD j (0, 0)) = true) : ptsB wd hg zs = ((Maps.size (Sn zs n) : Int) == (n : Int)) := by
  obtain ⟨_, h2⟩ := size_Sn hv n (by omega)
  unfold ptsB
  rw [← hn, decide_eq_true h48, Bool.and_true]
  have e : allTo (ptB wd hg zs) n = allTo (newB zs) n := allTo_congr (fun j hj => by unfold ptB; rw [h j hj]; rfl)
  rw [e, ← Bool.decide_coe (allTo (newB zs) n)]
  show decide _ = decide _
  exact decide_eq_decide.2 (h2.symm.trans (by omega))
set_option maxRecDepth 100000 in
set_option maxHeartbeats 4000000 in
theorem points_impl (v : Value) (D : Drw) (w : World) (hd : DV w v D) (hpn : panelB D = true) : Calls Tryz.prog 35 #[v] w fun e w' => e = .returned (.bool (ptsB D.wd D.hg D.ps)) ∧ Below w.heap.size w w' := by
  obtain ⟨ao, n, c, bo, m, d, rfl, _, _, hs, hp, _⟩ := hd.out
  have HP := Lib.hid hp
  have HZ := Lib.hid hp.1
  have hn : n ≤ 1048576 := by have := hp.1; unfold dSz at hs; omega
  have HBX := Lib.hid (World.alloc_heap_new w (.cells #[.int .i64 D.wd, .int .i64 D.hg, .slice ao n c, .slice bo m d] 33))
  have HPN := Lib.hid (show D.wd ≤ 20000 ∧ D.hg ≤ 20000 by unfold panelB inI at hpn; simp at hpn; omega)
  clear hd hp hs hpn
  generalize D.ps = zs at *
  generalize D.wd = wd at *
  generalize D.hg = hg at *
  by_cases h48 : n ≤ 48
  rotate_left
  · have HR := Lib.hid (show ptsB wd hg zs = false by unfold ptsB; rw [decide_eq_false (by have := HZ.out; omega)]; simp)
    have e1 : decide (48 < (n : Int)) = true := by simp; omega
    go_enter Tryz.func35, Tryz.ntmps35
    go_wp2
    go_ret
    exact ⟨ret_bool' HR.out.symm, one_alloc _⟩
  have e1 : decide (48 < (n : Int)) = false := by simp; omega
  cases hv : allOk zs with
  | false =>
    have HR := Lib.hid (show ptsB wd hg zs = false by
      cases h : ptsB wd hg zs with
      | false => rfl
      | true => rw [pts_allOk HPN.out.1 HPN.out.2 h] at hv; cases hv)
    go_enter Tryz.func35, Tryz.ntmps35
    go_wp2_with fail
    refine (allValid_pv ao n c zs _ (by omega) (HP.out.below (one_alloc _))).mono ?_
    rintro e w1 ⟨rfl, g1⟩
    have HG := Lib.hid (bseq (one_alloc _) g1)
    clear g1
    rw [hv]
    go_wp2
    go_ret
    exact ⟨ret_bool' HR.out.symm, HG.out⟩
  | true =>
    have HV := Lib.hid hv
    have hmm := @run_makeMap Tryz.prog
    go_enter Tryz.func35, Tryz.ntmps35
    go_wp2_with fail
    refine (allValid_pv ao n c zs _ (by omega) (HP.out.below (one_alloc _))).mono ?_
    rintro e w1 ⟨rfl, g1⟩
    have HG := Lib.hid (bseq (one_alloc _) g1)
    have HX := Lib.hid ((g1.block _ (by simp)).trans HBX.out)
    have HM := Lib.hid (World.ownsMap_made w1 Tryz.prog 67 (plainElem (H := Unit) Tryz.prog 4))
    clear g1
    rw [hv]
    obtain ⟨_, _, _, _, x2, _, _, _⟩ := cells4_of HX.out
    have hxw := blk_lt HX.out
    clear hv
    go_wp2
    clear x2 hxw
    have hgs := HG.out.size
    have hgs' := blk_lt HX.out
    have HM2 : Hid ((w1.alloc (.map #[] 0)).ownsMap Tryz.prog 67 (plainElem (H := Unit) Tryz.prog 4) w1.heap.size 0 (Sn zs 0)) := Lib.hid (by rw [Sn_zero]; exact HM.out)
    go_loopw [20, 5] (fun iv jv wr => ∃ (k : Nat), k ≤ n ∧ iv = .int .i64 k ∧ Hid (∀ j, j < k → ptIn wd hg (zs.getD j (0, 0)) = true) ∧ Hid (wr.ownsMap Tryz.prog 67 (plainElem (H := Unit) Tryz.prog 4) w1.heap.size k (Sn zs k)) ∧ Hid (wr.heap[w.heap.size]? = some (.cells #[.int .i64 wd, .int .i64 hg, .slice ao n c, .slice bo m d] 33 (0, 0))) ∧ Hid (Below w.heap.size w wr)) (fun i _ _ => n - (intOf i).toNat)
    case atStart => exact ⟨0, by omega, rfl, Lib.hid (fun j hj => by omega), HM2, Lib.hid ((Below.heap_alloc _ _ _ (blk_lt HX.out)).trans HX.out), Lib.hid (HG.out.alloc hgs _)⟩
    case round =>
      obtain ⟨k, hk, rfl, ha, hm, hx, hb⟩ := hrel
      have hxw := blk_lt hx.out
      have hbs := hb.out.size
      obtain ⟨x0, _, x1, _, x2, _, _, _⟩ := cells4_of hx.out
      by_cases hlt : k < n
      · have hkz : k < zs.length := by have := HZ.out; omega
        obtain ⟨b, rfl, hpp⟩ := (HP.out.below hb.out).at (by omega)
        have hbw := hpp.1
        obtain ⟨x, y, e, p0, p1⟩ := hpp.pt hkz
        have hok := allOk_at HV.out k hkz
        rw [e] at hok
        have HKY := Lib.hid (keyPt (wf_ok hok).1 (wf_ok hok).2)
        have HE := Lib.hid e
        have HOK := Lib.hid hok
        clear hpp e hok
        by_cases h1 : wd < x
        · have HR := Lib.hid (pt_out (wd := wd) (hg := hg) hkz HE.out (Or.inl h1))
          have e3 : decide (wd < x) = true := by simpa using h1
          clear h1
          go_wp2
          go_ret
          exact ⟨ret_bool' HR.out.symm, hb.out.alloc hbs _⟩
        · have e3 : decide (wd < x) = false := by simpa using h1
          by_cases h2 : hg < y
          · have HR := Lib.hid (pt_out (wd := wd) (hg := hg) hkz HE.out (Or.inr h2))
            have e4 : decide (hg < y) = true := by simpa using h2
            clear h1 h2
            go_wp2
            go_ret
            exact ⟨ret_bool' HR.out.symm, hb.out.alloc hbs _⟩
          · have e4 : decide (hg < y) = false := by simpa using h2
            have HIN := Lib.hid (show ptIn wd hg (zs.getD k (0, 0)) = true by
              have := ok_bd HOK.out
              rw [HE.out]; unfold ptIn inI; simp; omega)
            clear h1 h2
            go_wp2_with (first
              | (at_mapUpdate; refine wpList_mapUpdate_own _ rfl _ _ _ 84 rfl 67 4 keyedPt Tryz.underlying84 (plainElem (H := Unit) Tryz.prog 4) w1.heap.size k _ rfl (hm.out.alloc _) (by unfold maxLen; omega) _ _ _ rfl rfl HKY.out _ [] (plainElem_bool Tryz.underlying4 true) ?_; intro w3 hown3 hgrow3)
              | go_in)
            refine ⟨⟨k + 1, by omega, by go_num, Lib.hid (fun j hj => by rcases Nat.lt_or_ge j k with h | h; exact ha.out j h; (obtain rfl : j = k := (by omega)); exact HIN.out), Lib.hid (by rw [Sn_succ hkz, HE.out]; exact hown3), Lib.hid ((hgrow3.block _ (by simp; omega) (by simp; omega)).trans ((Below.heap_alloc _ _ _ hxw).trans hx.out)), Lib.hid ((hb.out.alloc hbs _).grown hgrow3 (by simp; omega) (fun j hj => by cases hj; exact hgs))⟩, by simp [intOf]; omega⟩
      · obtain rfl : k = n := by omega
        have HR := Lib.hid (pts_end HZ.out h48 HV.out ha.out)
        go_wp2_with (first
          | (at_len; refine wpList_len_own _ rfl _ 84 rfl 67 4 Tryz.underlying84 _ w1.heap.size k _ rfl hm.out ?_)
          | go_in)
        go_ret
        exact ⟨ret_bool' HR.out.symm, hb.out⟩
end Go.Proofs.YtfhlafnjccoocaaGreat
