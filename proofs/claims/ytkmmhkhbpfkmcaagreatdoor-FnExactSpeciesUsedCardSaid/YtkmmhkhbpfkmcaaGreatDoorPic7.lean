/- The species of a picture: impl. -/
import Derived.Test.YtkmmhkhbpfkmcaaGreatDoorPic6
import Derived.Test.YtkmmhkhbpfkmcaaGreatDoorShelfSorted
import Derived.Maps.OwnSet
import Derived.DeepKeys4
import Derived.StringKeys
namespace Go.Proofs.YtkmmhkhbpfkmcaaGreatDoor
open Seq2 Go.ChangeShapes Go.WideShapes Go.ChangeAt Go.RowKit Go.Maps Go.Joins Go.Sort
set_option linter.unusedVariables false
set_option linter.unusedSimpArgs false

theorem keyedStr : Keyed Tryz.prog 9 := string_keyed Tryz.underlying9
def keyS (z : Vn) : Lit := .string z.1.data.toList
def keysS (zs : List Vn) (k : Nat) : List Lit := (zs.take k).map keyS
def Sv (zs : List Vn) (k : Nat) : DataW Unit := setOf (.lit (.bool true)) (keysS zs k)
theorem keysS_succ {zs : List Vn} {k : Nat} (hk : k < zs.length) : keysS zs (k + 1) = keysS zs k ++ [keyS (zs.getD k vn0)] := by
  unfold keysS
  rw [List.take_succ_eq_append_getElem hk, List.map_append]
  simp [List.getD_eq_getElem?_getD, hk]
theorem Sv_succ {zs : List Vn} {k : Nat} (hk : k < zs.length) : Sv zs (k + 1) = (Sv zs k).put (keyS (zs.getD k vn0)) (.lit (.bool true)) := by
  unfold Sv
  rw [keysS_succ hk, setOf_snoc]
theorem Sv_zero (zs : List Vn) : Sv zs 0 = .map [] := by simp [Sv, keysS, setOf]
theorem name_ix {nm : ByteArray} (h : ixN nm < 10) : nm.data.toList = (spRow (ixN nm)).1 := by
  unfold ixN at h
  cases hf : (List.range 10).find? (eqN nm) with
  | none => rw [hf] at h; simp at h
  | some k =>
    have he := List.find?_some hf
    have : ixN nm = k := by unfold ixN; rw [hf]; rfl
    rw [this]
    unfold eqN at he
    rw [ByteArray.toList_eq, ByteArray.toList_eq] at he
    have := eq_of_beq he
    rw [← this]; simp [spN]
theorem row_len : ∀ j, j < 10 → (spRow j).1.length ≤ 10 := by decide +kernel
theorem name_size {nm : ByteArray} (h : ixN nm < 10) : nm.size ≤ maxLen := by
  have h1 := row_len _ h
  rw [← name_ix h] at h1
  have : nm.size = nm.data.toList.length := by rw [Array.length_toList]; rfl
  unfold maxLen; omega
theorem key_str {z : Vn} (h : ixN z.1 < 10) : keyOf Tryz.prog 9 (.string z.1) = some (keyS z) := Go.WideMaps.keyOf_string_mk Tryz.underlying9 (name_size h)
theorem mem_get {zs : List Vn} {p : Vn} (h : p ∈ zs) : ∃ j, j < zs.length ∧ zs.getD j vn0 = p := by
  obtain ⟨j, hj, e⟩ := List.mem_iff_getElem.1 h
  exact ⟨j, hj, by rw [← e]; simp [List.getD_eq_getElem?_getD, hj]⟩
theorem keysS_key {zs : List Vn} (hv : ∀ j, j < zs.length → ixN (zs.getD j vn0).1 < 10) (k : Nat) : ∀ l ∈ keysS zs k, WideAt.IsKeyLit l := by
  intro l hl
  obtain ⟨p, hp, rfl⟩ := List.mem_map.1 hl
  obtain ⟨j, hj, rfl⟩ := mem_get (List.mem_of_mem_take hp)
  exact keyedStr.key (key_str (hv j hj))
theorem usP_iff (zs : List Vn) (j : Nat) : usP zs j = true ↔ ∃ i, i < zs.length ∧ (zs.getD i vn0).1.data.toList = (spRow j).1 := by
  have h : ∀ k, usK zs j k = true ↔ ∃ i, i < k ∧ (zs.getD i vn0).1.data.toList = (spRow j).1 := by
    intro k
    induction k with
    | zero => exact ⟨fun h => (by cases h), fun ⟨i, h, _⟩ => by omega⟩
    | succ k ih =>
      unfold usK
      rw [Bool.or_eq_true, ih, ByteArray.toList_eq, ByteArray.toList_eq]
      constructor
      · rintro (⟨i, h1, h2⟩ | h)
        · exact ⟨i, by omega, h2⟩
        · exact ⟨k, by omega, by rw [eq_of_beq h]; simp [spN]⟩
      · rintro ⟨i, h1, h2⟩
        by_cases e : i = k
        · subst e
          right; rw [h2]; simp [spN]
        · exact Or.inl ⟨i, by omega, h2⟩
  exact h _
theorem rows_up : (List.range 10).Pairwise (fun i j => leB (spRow i).1 (spRow j).1 = true) := by decide +kernel
theorem rows_nodup : ((List.range 10).map fun j => (spRow j).1).Nodup := by decide +kernel
theorem rowsL_up (p : Nat → Bool) : (rowsL p 10).Pairwise (fun x y => leB x y = true) := List.pairwise_map.2 (rows_up.filter p)
theorem rowsL_nodup (p : Nat → Bool) : (rowsL p 10).Nodup := rows_nodup.sublist (List.filter_sublist.map _)
theorem mem_rowsL (p : Nat → Bool) (x : List UInt8) : x ∈ rowsL p 10 ↔ ∃ j, j < 10 ∧ p j = true ∧ (spRow j).1 = x := by
  unfold rowsL
  rw [List.mem_map]
  constructor
  · rintro ⟨j, hj, rfl⟩
    rw [List.mem_filter, List.mem_range] at hj
    exact ⟨j, hj.1, hj.2, rfl⟩
  · rintro ⟨j, h1, h2, rfl⟩
    exact ⟨j, List.mem_filter.2 ⟨List.mem_range.2 h1, h2⟩, rfl⟩
/-- The keys of the set, sorted, are the names of the rows that are used. -/
theorem sorted_used {w : World} {b n : Nat} {zs : List Vn} (hown : w.ownsMap Tryz.prog 9 (plainElem (H := Unit) Tryz.prog 4) b n (Sv zs zs.length)) (hv : ∀ j, j < zs.length → ixN (zs.getD j vn0).1 < 10) {ss : List (List UInt8)} (h : ss.Perm (strKeys (Sv zs zs.length))) :
    ss.mergeSort (fun x y => decide (x ≤ y)) = rowsL (usP zs) 10 := by
  have hR : (rowsL (usP zs) 10).Perm (strKeys (Sv zs zs.length)) := by
    obtain ⟨es, hD, hp⟩ := hown.tidy keyedStr
    obtain ⟨es', hD', hk⟩ := hown.keysOf
    have he : es = es' := by rw [hD] at hD'; injection hD'
    subst he
    rw [hD]
    refine perm_strKeys hp (fun p hp' => ?_) (rowsL_nodup _) (fun x => ?_)
    · obtain ⟨v, hv'⟩ := hk p hp'
      obtain ⟨x, _, hx, _⟩ := Maps.keyOf_str Tryz.underlying9 hv'
      exact ⟨x, hx⟩
    · rw [← hD, mem_rowsL]
      unfold Sv
      rw [has_setOf _ _ _ (keysS_key hv _), List.any_eq_true]
      constructor
      · rintro ⟨j, h1, h2, rfl⟩
        obtain ⟨i, hi, e⟩ := (usP_iff _ _).1 h2
        refine ⟨keyS (zs.getD i vn0), List.mem_map.2 ⟨zs.getD i vn0, ?_, rfl⟩, ?_⟩
        · rw [List.take_of_length_le (Nat.le_refl _), List.getD_eq_getElem?_getD, List.getElem?_eq_getElem hi]
          exact List.getElem_mem hi
        · unfold keyS
          rw [e]
          have hl : WideAt.IsKeyLit (keyS (zs.getD i vn0)) := keyedStr.key (key_str (hv i hi))
          unfold keyS at hl
          rw [e] at hl
          exact WideAt.sameKey_self hl
      · rintro ⟨l, hl, hs⟩
        obtain ⟨p, hp', rfl⟩ := List.mem_map.1 hl
        obtain ⟨i, hi, rfl⟩ := mem_get (List.mem_of_mem_take hp')
        have e := WideAt.sameKey_eq hs
        unfold keyS at e
        injection e with e
        refine ⟨ixN (zs.getD i vn0).1, hv i hi, (usP_iff _ _).2 ⟨i, hi, name_ix (hv i hi)⟩, ?_⟩
        rw [← name_ix (hv i hi), e]
  have h1 := mergeSort_of_perm (h.trans hR.symm)
  rw [show (fun x y : List UInt8 => decide (x ≤ y)) = leB from rfl, h1]
  exact List.mergeSort_of_pairwise (rowsL_up _)
set_option maxRecDepth 100000 in
set_option maxHeartbeats 8000000 in
theorem used_impl (v : Value) (z : Pc) (w : World) (hd : PcV w v z) (ht : TabAt w) : Calls Tryz.prog 14 #[v] w (NewSC (suR z) w) := by
  unfold NewSC
  have HD := Lib.hid hd
  have HT := Lib.hid ht
  obtain ⟨ao, bo, n, c, m, d, eo, N, e, rfl, hs, h2, h3, h4⟩ := hd.out
  have HA := Lib.hid (one_alloc (w := w) (.cells #[.int .i64 z.dr.wd, .int .i64 z.dr.hg, .slice ao n c, .slice bo m d, .slice eo N e] 37))
  have HX := Lib.hid (World.alloc_heap_new w (.cells #[.int .i64 z.dr.wd, .int .i64 z.dr.hg, .slice ao n c, .slice bo m d, .slice eo N e] 37))
  have HVN := Lib.hid h4
  have HNN := Lib.hid h4.1
  have hN1 : N ≤ 1048576 := h3
  clear hd hs h2 h3 h4 ht
  cases hv : picB z with
  | false =>
    have HR := Lib.hid (show suR z = ([], 1) by unfold suR; rw [hv]; rfl)
    rw [HR.out]
    go_enter Tryz.func14, Tryz.ntmps14
    go_wp2_with fail
    refine (picv_impl _ z _ (HD.out.below HA.out) (HT.out.below HA.out)).mono ?_
    rintro e' w1 ⟨rfl, g1⟩
    have HG := Lib.hid (bseq HA.out g1)
    clear g1
    rw [hv]
    go_wp2
    go_ret2
    exact ⟨_, rfl, World.ownsRow_nil _ _ _ _, HG.out⟩
  | true =>
    have HR := Lib.hid (show suR z = (rowsL (usP z.vs) 10, 0) by unfold suR; rw [hv]; rfl)
    have HIX := Lib.hid (show ∀ j, j < z.vs.length → ixN (z.vs.getD j vn0).1 < 10 from fun j hj => (venB_ok (show venB _ _ _ = true from (by
      have := vnsB_all hv j hj
      exact this))).1)
    rw [HR.out]
    have hmm := @run_makeMap Tryz.prog
    go_enter Tryz.func14, Tryz.ntmps14
    go_wp2_with fail
    refine (picv_impl _ z _ (HD.out.below HA.out) (HT.out.below HA.out)).mono ?_
    rintro e' w1 ⟨rfl, g1⟩
    have HG := Lib.hid (bseq HA.out g1)
    have HX1 := Lib.hid ((g1.block _ (blk_lt HX.out)).trans HX.out)
    have HM := Lib.hid (World.ownsMap_made w1 Tryz.prog 9 (plainElem (H := Unit) Tryz.prog 4))
    clear g1
    rw [hv]
    have hz := blk_lt HX1.out
    have a4 := (cell_of_arr HX1.out (j := 4) rfl).1
    go_wp2
    clear a4 hz
    have hgs := HG.out.size
    have HM2 : Hid ((w1.alloc (.map #[] 0)).ownsMap Tryz.prog 9 (plainElem (H := Unit) Tryz.prog 4) w1.heap.size 0 (Sv z.vs 0)) := Lib.hid (by rw [Sv_zero]; exact HM.out)
    go_loopw [14] (fun iv wr => ∃ k : Nat, k ≤ N ∧ iv = .int .i64 k ∧ Hid (wr.ownsMap Tryz.prog 9 (plainElem (H := Unit) Tryz.prog 4) w1.heap.size k (Sv z.vs k)) ∧ Hid (Below w1.heap.size w1 wr)) (fun i _ => N - (intOf i).toNat)
    case atStart => exact ⟨0, by omega, rfl, HM2, Lib.hid ((Below.refl _ _).alloc (Nat.le_refl _) _)⟩
    case round =>
      obtain ⟨k, hk, rfl, hm, hb⟩ := hrel
      have hbs := hb.out.size
      by_cases hlt : k < N
      · have hkz : k < z.vs.length := by have := HNN.out; omega
        obtain ⟨vb, rfl, hcs⟩ := (HVN.out.below (HG.out.trans (hb.out.mono hgs))).2.resolve_left (by omega)
        obtain ⟨hvw, y0, y1, y2⟩ := hcs k hlt
        have HKY := Lib.hid (key_str (HIX.out k hkz))
        have HS := Lib.hid (Sv_succ hkz)
        clear hcs
        generalize hzk : z.vs.getD k vn0 = q at *
        have HZK := Lib.hid hzk
        obtain ⟨s, x, y⟩ := q
        simp only at y0 y1 y2 HKY
        clear hzk
        go_wp2_with (first
          | (at_mapUpdate; refine wpList_mapUpdate_own _ rfl _ _ _ 70 rfl 9 4 keyedStr Tryz.underlying70 (plainElem (H := Unit) Tryz.prog 4) w1.heap.size k _ rfl (hm.out.alloc _) (by unfold maxLen; omega) _ _ _ rfl rfl HKY.out _ [] (plainElem_bool Tryz.underlying4 true) ?_; intro w3 hown3 hgrow3)
          | go_in)
        refine ⟨⟨k + 1, by omega, by go_num, Lib.hid (by rw [HS.out]; exact hown3), Lib.hid ((hb.out.alloc hbs _).grown hgrow3 (by simp; omega) (fun j hj => by cases hj; exact Nat.le_refl _))⟩, by simp [intOf]; omega⟩
      · obtain rfl : k = N := by omega
        have HOW := Lib.hid (show wr.ownsMap Tryz.prog 9 (plainElem (H := Unit) Tryz.prog 4) w1.heap.size k (Sv z.vs z.vs.length) by rw [← HNN.out]; exact hm.out)
        have HSZ := Lib.hid HOW.out.size_le
        go_wp2_with fail
        refine (callsIn_wide.1 (Tryz.maps_Keys_39 (some w1.heap.size) wr)).mono ?_
        rintro e1 w4 ⟨rfl, rfl⟩
        go_wp2_with fail
        refine (callsIn_wide.1 (Tryz.slices_Sorted_keys_38_39 w1.heap.size k _ _ wr HOW.out (by have := HSZ.out; unfold maxLen; omega) (by have := HSZ.out; omega))).mono ?_
        rintro e2 w5 ⟨v5, ss, rfl, hS, hrow, hnil, hb5⟩
        have HE := Lib.hid (sorted_used HOW.out HIX.out hS)
        have hlen : (rowsL (usP z.vs) 10).length = ss.length := by rw [← HE.out, List.length_mergeSort]
        have HO := Lib.hid (show OwnS w5 w.heap.size v5 (rowsL (usP z.vs) 10) by
          unfold OwnS
          rw [hlen, ← HE.out]
          exact World.ownsRow.mono hrow (by simp; omega))
        have HB5 := Lib.hid ((bseq HG.out hb.out).trans (((Below.refl _ wr).alloc (Nat.le_refl _) _).trans (hb5.mono (by simp)) |>.mono (by omega)))
        clear hrow hb5 hnil hS hlen
        go_wp2
        go_ret2
        exact ⟨_, rfl, HO.out, HB5.out⟩
end Go.Proofs.YtkmmhkhbpfkmcaaGreatDoor
