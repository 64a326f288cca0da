/- The text of a polygon: impl. -/
import Derived.Test.YtmfchcaidfloaaaDoorPgt1
import Derived.Test.YtmfchcaidfloaaaDoorK14
import Derived.Test.YtmfchcaidfloaaaDoorLft
namespace Go.Proofs.YtmfchcaidfloaaaDoor
open Seq2 Go.ChangeShapes Go.WideShapes Go.ChangeAt Go.RowKit Go.Joins
set_option linter.unusedVariables false
set_option linter.unusedSimpArgs false

/-- A slice of n strings of the call's own, of which the first k are written: the j-th one is f j. -/
structure TxG (f : Nat → List UInt8) (n k B g : Nat) (w wr : World) : Prop where
  own : ∃ X, wr.ownsRow B 9 1 (.slice (some ⟨g, 0, none⟩) n n) n X ∧ ∀ j, j < k → X[j]? = some (.string (tb (f j)))
  below : Below B w wr
  lt : B ≤ g ∧ g < wr.heap.size
theorem txg_call {f : Nat → List UInt8} {n k B g : Nat} {w wr w1 : World} (h : TxG f n k B g w wr) (hb : Below wr.heap.size wr w1) (hBw : B ≤ wr.heap.size) : TxG f n k B g w w1 := by
  obtain ⟨⟨X, h1, h2⟩, h3, h4⟩ := h
  exact ⟨⟨X, ownB_below h1 hb (Nat.le_refl _), h2⟩, h3.trans (hb.mono hBw), h4.1, by have := hb.size; omega⟩
theorem txg_step {f : Nat → List UInt8} {n k B g : Nat} {w wr : World} (h : TxG f n k B g w wr) (hk : k < n) : TxG f n (k + 1) B g w (wr.setCell ⟨g, k, none⟩ (.string (tb (f k)))) := by
  obtain ⟨⟨X, h1, h2⟩, h3, h4⟩ := h
  have hX : X.length = n := by have := h1.1; simpa using this
  obtain ⟨s1, s2⟩ := h1.stored k (.string (tb (f k)))
  refine ⟨⟨_, s1, fun j hj => ?_⟩, h3.setCell h4.1 _, h4.1, by have := s2.size; omega⟩
  by_cases e : j = k
  · subst e; rw [List.getElem?_set_self (by omega)]
  · rw [List.getElem?_set_ne (by omega)]; exact h2 j (by omega)
theorem txg_free {f : Nat → List UInt8} {n k B g : Nat} {w wr : World} (h : TxG f n k B g w wr) (j : Nat) : wr.frozen? ⟨g, j, none⟩ = false := by
  obtain ⟨⟨X, h1, _⟩, _, _⟩ := h
  exact h1.frozenAt j
theorem txg_cell {f : Nat → List UInt8} {n k B g : Nat} {w wr : World} (h : TxG f n k B g w wr) (j : Nat) (hj : j < n) : ∃ v, wr.cell? ⟨g, j, none⟩ = some v := by
  obtain ⟨⟨X, h1, _⟩, _, _⟩ := h
  have hX : X.length = n := by have := h1.1; simpa using this
  exact ⟨X[j]'(by omega), by rw [h1.cellAt j (by omega)]; simp⟩
theorem txg_end {α : Type} {f : Nat → List UInt8} {p : α → List UInt8} {d : α} {zs : List α} {k B g : Nat} {w wr : World} (hf : ∀ j, j < zs.length → f j = p (zs.getD j d)) (h : TxG f zs.length k B g w wr) (hk : zs.length ≤ k) : ∀ (j : Nat) x, (zs.map fun z => tb (p z))[j]? = some x → wr.cell? ⟨g, 0 + j, none⟩ = some (.string x) := by
  obtain ⟨⟨X, h1, h2⟩, _, h4⟩ := h
  intro j x hx
  have hj : j < zs.length := by
    have := (List.getElem?_eq_some_iff.1 hx).1
    simpa using this
  rw [Nat.zero_add, h1.cellAt j (by omega), h2 j (by omega), hf j hj]
  simp [hj] at hx
  simp [hj, hx]
theorem joinP_any (g cap : Nat) (zs : List P2) (w : World) (hg : g < w.heap.size) (hcap : zs.length ≤ cap) (hl : zs.length ≤ 24) (hj : (pgJ zs).length ≤ 100000)
    (hc : ∀ (j : Nat) x, (zs.map fun z => tb (ptP z))[j]? = some x → w.cell? ⟨g, 0 + j, none⟩ = some (.string x)) :
    Calls Tryd.prog 53 #[.slice (some ⟨g, 0, none⟩) zs.length cap, .string ⟨#[32]⟩] w fun e w' => e = .returned (.string (tb (pgJ zs))) ∧ Below w.heap.size w w' := by
  have e1 : (zs.map fun z => tb (ptP z)).length = zs.length := by simp
  have e2 : (zs.map fun z => tb (ptP z)).map (·.data.toList) = zs.map ptP := by
    rw [List.map_map]; apply List.map_congr_left; intro z _; exact tb_data _
  have := Tryd.strings_Join g 0 cap (zs.map fun z => tb (ptP z)) ⟨#[32]⟩ w hc hg (by omega) (by omega) (by rw [e2]; unfold pgJ at hj; show (Lib.join _ [32]).length ≤ _; omega)
  rw [e1, e2] at this
  exact this
set_option maxRecDepth 100000 in
set_option maxHeartbeats 8000000 in
theorem pgt_impl (ao : Option Addr) (n cap : Nat) (zs : List P2) (w : World) (hl : n ≤ 1048576) (hp : PV w ao n zs) (ht : TabOk w) : Calls Tryd.prog 24 #[.slice ao n cap] w fun e w' => e = .returned (.string (tb (pgT zs))) ∧ Below w.heap.size w w' := by
  have HP := Lib.hid hp
  have HN := Lib.hid hp.1
  have HT := Lib.hid ht
  clear hp ht
  cases h : polyB zs with
  | false =>
    rw [show pgT zs = [] by unfold pgT; rw [h]; rfl]
    go_enter Tryd.func24, Tryd.ntmps24
    go_wp2_with fail
    refine (valid_pimpl ao n cap zs _ hl HP.out).mono ?_
    rintro e w1 ⟨rfl, g1⟩
    have HG := Lib.hid g1
    clear g1
    rw [h]
    go_wp2
    go_ret
    exact ⟨rfl, HG.out⟩
  | true =>
    rw [show pgT zs = pgJ zs by unfold pgT; rw [h]; rfl]
    obtain ⟨⟨h3, h24⟩, hok⟩ := poly_pts h
    have HOK := Lib.hid hok
    have hn3 : 1 ≤ n := by rw [HN.out]; omega
    have hn24 : n ≤ 24 := by rw [HN.out]; omega
    have HPL := Lib.hid (show (pgJ zs).length ≤ 100000 by have := pg_len zs hok zs.length (Nat.le_refl _); rw [List.take_length] at this; omega)
    obtain ⟨b, rfl, hpt⟩ := HP.out.at hn3
    have HPT := Lib.hid hpt
    have H24 := Lib.hid h24
    clear hpt hok h3 h24
    obtain ⟨i0, hi, hz0, hz1, hz2⟩ := info_parts Tryd.infoStr
    go_enter Tryd.func24, Tryd.ntmps24
    go_wp2_with fail
    refine (valid_pimpl _ n cap zs _ hl HP.out).mono ?_
    rintro e w1 ⟨rfl, g1⟩
    have HG := Lib.hid g1
    have HP1 := Lib.hid (HPT.out.below g1 HPT.out.1)
    have HT1 := Lib.hid (HT.out.below g1 (Nat.le_refl _))
    clear g1
    rw [h]
    go_wp2_with (refine wpList_make_full _ rfl _ _ 93 rfl w1.heap.size 9 i0 (.string ⟨#[]⟩) 1 Tryd.underlying93 hi hz0 hz1 .i64 .i64 _ _ n rfl rfl rfl rfl (by rw [hz2]; omega) (by unfold maxLen; omega) (Nat.le_refl _) ?_)
    intro w2 hown hgrow
    have HI : Hid (TxG (fun j => ptP (zs.getD j (0, 0))) n 0 w1.heap.size w1.heap.size w1 w2) := Lib.hid ⟨⟨_, hown, fun j hj => by omega⟩, (Below.refl _ _).grown hgrow (Nat.le_refl _) (fun k hk => by cases hk), Nat.le_refl _, (hown.lt _ rfl).2⟩
    clear hown hgrow
    go_wp2
    go_loopw [14, 4] (fun i u4 wr => ∃ k : Nat, k ≤ n ∧ i = .int .i64 k ∧ Hid (TxG (fun j => ptP (zs.getD j (0, 0))) n k w1.heap.size w1.heap.size w1 wr)) (fun i _ _ => n - (intOf i).toNat)
    case atStart => exact ⟨0, by omega, rfl, HI⟩
    case round =>
      obtain ⟨k, hk, rfl, hI⟩ := hrel
      by_cases hlt : k < n
      · have hp := HP1.out.below hI.out.below HP1.out.1
        have hbw := hp.1
        obtain ⟨c0, c1⟩ := hp.2 k (by rw [← HN.out]; exact hlt)
        have HO := Lib.hid (HOK.out k (by rw [← HN.out]; exact hlt))
        have hBw : w1.heap.size ≤ wr.heap.size := by have := hI.out.lt; omega
        obtain ⟨z, hz⟩ : ∃ z, zs.getD k (0, 0) = z := ⟨_, rfl⟩
        rw [hz] at c0 c1 HO
        have HZ := Lib.hid hz
        obtain ⟨x, y⟩ := z
        simp only at c0 c1 HO
        clear hz hp
        have HA := Lib.hid (one_alloc (w := wr) (.cells #[.int .i64 x, .int .i64 y] 90))
        have hI0 := Lib.hid (txg_call hI.out HA.out hBw)
        have HTr := Lib.hid (HT1.out.below hI0.out.below (Nat.le_refl _))
        go_wp2_with fail
        refine (ptextI_yes x y _ HO.out HTr.out).mono ?_
        rintro e w3 ⟨rfl, g3⟩
        have hI1 := Lib.hid (txg_call hI0.out g3 (by simp; omega))
        clear g3
        obtain ⟨v0, hdst⟩ := txg_cell hI1.out k hlt
        have hfree := txg_free hI1.out k
        have hgl := hI1.out.lt.2
        have HN1 := Lib.hid (txg_step hI1.out hlt)
        have HN2 : Hid (TxG (fun j => ptP (zs.getD j (0, 0))) n (k + 1) w1.heap.size w1.heap.size w1 (w3.setCell ⟨w1.heap.size, k, none⟩ (.string (tb (ptT x y))))) := Lib.hid (by have := HN1.out; simp only [HZ.out] at this; exact this)
        go_wp2
        go_roundw
        case rel => exact ⟨k + 1, by omega, by go_num, HN2⟩
        case measure => simp [intOf]; omega
      · obtain rfl : k = n := by omega
        have HI2 := Lib.hid (show TxG (fun j => ptP (zs.getD j (0, 0))) zs.length zs.length w1.heap.size w1.heap.size w1 wr by rw [← HN.out]; exact hI.out)
        have HE := Lib.hid (txg_end (p := ptP) (fun j _ => rfl) HI2.out (Nat.le_refl _))
        have HB := Lib.hid hI.out.below
        have hg := hI.out.lt.2
        have HJ := Lib.hid (joinP_any w1.heap.size k zs wr hg (by rw [← HN.out]; exact Nat.le_refl _) H24.out HPL.out HE.out)
        rw [← HN.out] at HJ
        go_wp2_with fail
        refine (HJ.out).mono ?_
        rintro e w4 ⟨rfl, g4⟩
        have HB4 := Lib.hid (HG.out.trans ((HB.out.trans (g4.mono (Nat.le_of_lt hg))).mono HG.out.size))
        clear g4
        go_wp2
        go_ret
        exact ⟨rfl, HB4.out⟩
end Go.Proofs.YtmfchcaidfloaaaDoor
