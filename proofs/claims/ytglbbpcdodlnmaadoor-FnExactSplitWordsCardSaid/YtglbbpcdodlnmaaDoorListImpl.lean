/- ListText of impl: the text of a list of numbers. -/
import Derived.Test.YtglbbpcdodlnmaaDoorListText
import Derived.Test.YtglbbpcdodlnmaaDoorDecimal
import Derived.Test.YtglbbpcdodlnmaaDoorShelfJoin
namespace Go.Proofs.YtglbbpcdodlnmaaDoor
open Go.ChangeShapes Go.WideShapes Go.ChangeAt Go.RowKit Go.Joins

theorem Tryd.infoStr : (Tryd.prog.info? 9).map (fun i => (i.zero, i.size, i.bytes)) = some (some (.string ⟨#[]⟩), 1, 16) := by kernel_rfl

/-- What is owned stays owned behind a call that leaves all older blocks alone. -/
theorem own_below {w w' : World} {base e size n B : Nat} {v : Value} {xs : List Value} (h : w.ownsRow base e size v n xs) (hb : Below B w w') (hB : w.heap.size ≤ B) : w'.ownsRow base e size v n xs := by
  have hlt := h.lt
  obtain ⟨h1, h2 | ⟨g, cap, cur, rfl, h3, h4, h5⟩⟩ := h
  · exact ⟨h1, Or.inl h2⟩
  · refine ⟨h1, Or.inr ⟨g, cap, cur, rfl, h3, ?_, h5⟩⟩
    rw [hb.block g (by have := (hlt g rfl).2; omega)]
    exact h4

/-- The loop: the first k texts are written. -/
structure TxInv (zs : List Int) (k B g : Nat) (w wr : World) : Prop where
  own : ∃ X, wr.ownsRow B 9 1 (.slice (some ⟨g, 0, none⟩) zs.length zs.length) zs.length X ∧ ∀ j, j < k → X[j]? = some (.string (tb (Lib.itoa (zs.getD j 0))))
  below : Below B w wr
  lt : B ≤ g ∧ g < wr.heap.size
theorem tx_call {zs : List Int} {k B g : Nat} {w wr w1 : World} (h : TxInv zs k B g w wr) (hb : Below wr.heap.size wr w1) (hBw : B ≤ wr.heap.size) : TxInv zs k B g w w1 := by
  obtain ⟨⟨X, h1, h2⟩, h3, h4⟩ := h
  exact ⟨⟨X, own_below h1 hb (Nat.le_refl _), h2⟩, h3.trans (hb.mono hBw), h4.1, by have := hb.size; omega⟩
theorem tx_step {zs : List Int} {k B g : Nat} {w wr : World} (h : TxInv zs k B g w wr) (hk : k < zs.length) : TxInv zs (k + 1) B g w (wr.setCell ⟨g, k, none⟩ (.string (tb (Lib.itoa (zs.getD k 0))))) := by
  obtain ⟨⟨X, h1, h2⟩, h3, h4⟩ := h
  have hX : X.length = zs.length := by have := h1.1; simpa using this
  obtain ⟨s1, s2⟩ := h1.stored k (.string (tb (Lib.itoa (zs.getD k 0))))
  refine ⟨⟨_, s1, fun j hj => ?_⟩, h3.setCell h4.1 _, h4.1, by have := s2.size; omega⟩
  by_cases e : j = k
  · subst e; rw [List.getElem?_set_self (by omega)]
  · rw [List.getElem?_set_ne (by omega)]; exact h2 j (by omega)
theorem tx_free {zs : List Int} {k B g : Nat} {w wr : World} (h : TxInv zs k B g w wr) (j : Nat) : wr.frozen? ⟨g, j, none⟩ = false := by
  obtain ⟨⟨X, h1, _⟩, _, _⟩ := h
  exact h1.frozenAt j
theorem tx_cell {zs : List Int} {k B g : Nat} {w wr : World} (h : TxInv zs k B g w wr) (j : Nat) (hj : j < zs.length) : ∃ v, wr.cell? ⟨g, j, none⟩ = some v := by
  obtain ⟨⟨X, h1, _⟩, _, _⟩ := h
  have hX : X.length = zs.length := by have := h1.1; simpa using this
  exact ⟨X[j]'(by omega), by rw [h1.cellAt j (by omega)]; simp⟩
theorem tx_end {zs : List Int} {k B g : Nat} {w wr : World} (h : TxInv zs k B g w wr) (hk : zs.length ≤ k) : ∀ (j : Nat) x, (zs.map fun z => tb (Lib.itoa z))[j]? = some x → wr.cell? ⟨g, 0 + j, none⟩ = some (.string x) := by
  obtain ⟨⟨X, h1, h2⟩, _, h4⟩ := h
  intro j x hx
  have hj : j < zs.length := by
    have := (List.getElem?_eq_some_iff.1 hx).1
    simpa using this
  rw [Nat.zero_add, h1.cellAt j (by omega), h2 j (by omega)]
  simp [hj] at hx
  simp [hj, hx]
theorem decimal_tb (n : Int) (w : World) (h1 : -9223372036854775808 ≤ n) (h2 : n ≤ 9223372036854775807) (ht : TabOk w) :
    Calls Tryd.prog 20 #[.int .i64 n] w fun e w' => e = .returned (.string (tb (Lib.itoa n))) ∧ Below w.heap.size w w' := decimal_impl n w h1 h2 ht
theorem join_any (g cap : Nat) (zs : List Int) (w : World) (hg : g < w.heap.size) (hcap : zs.length ≤ cap) (hw : wiI 1000000000000 zs = true) (hl : zs.length ≤ 64)
    (hc : ∀ (j : Nat) x, (zs.map fun z => tb (Lib.itoa z))[j]? = some x → w.cell? ⟨g, 0 + j, none⟩ = some (.string x)) :
    Calls Tryd.prog 46 #[.slice (some ⟨g, 0, none⟩) zs.length cap, .string ⟨#[44]⟩] w fun e w' => e = .returned (.string (tb (jn zs))) ∧ Below w.heap.size w w' := by
  have e1 : (zs.map fun z => tb (Lib.itoa z)).length = zs.length := by simp
  have e2 : (zs.map fun z => tb (Lib.itoa z)).map (·.data.toList) = zs.map Lib.itoa := by
    rw [List.map_map]; apply List.map_congr_left; intro z _; exact tb_data _
  have hj := jn_len zs hw zs.length (Nat.le_refl _)
  rw [List.take_length] at hj
  have := Tryd.strings_Join g 0 cap (zs.map fun z => tb (Lib.itoa z)) ⟨#[44]⟩ w hc hg (by omega) (by omega) (by rw [e2]; unfold jn at hj; show (Lib.join _ [44]).length ≤ _; omega)
  rw [e1, e2] at this
  exact this

set_option maxHeartbeats 1000000 in
theorem listText_impl (b cap : Nat) (zs : List Int) (w : World) (hl : zs.length ≤ 1048576) (h1 : IntsAt w b zs) (ht : TabOk w) :
    Calls Tryd.prog 18 #[.slice (some ⟨b, 0, none⟩) zs.length cap] w fun e w' => e = .returned (.string (tb (listR zs))) ∧ Below w.heap.size w w' := by
  have H1 := Lib.hid h1
  have HT := Lib.hid ht
  clear h1 ht
  unfold listR fitB
  by_cases h64 : zs.length ≤ 64
  · have e1 : decide (64 < (zs.length : Int)) = false := by simp; omega
    rw [decide_eq_true h64, Bool.and_true]
    cases hw : wiI 1000000000000 zs with
    | false =>
      go_enter Tryd.func18, Tryd.ntmps18
      go_wp2_with ((with_reducible refine (allWithin_any _ (by omega) (by omega) _ _ _ _ zs _ rfl (by omega) H1.out.plain).mono ?_); rintro e w' ⟨rfl, rfl⟩)
      go_ret
      exact ⟨rfl, Below.refl _ _⟩
    | true =>
      have HW := Lib.hid hw
      rw [if_pos rfl]
      unfold listT
      by_cases h0 : zs.length = 0
      · rw [if_pos h0]
        have e0 : ((zs.length : Int) == 0) = true := by rw [beq_iff_eq]; omega
        clear h0
        go_enter Tryd.func18, Tryd.ntmps18
        go_wp2_with ((with_reducible refine (allWithin_any _ (by omega) (by omega) _ _ _ _ zs _ rfl (by omega) H1.out.plain).mono ?_); rintro e w' ⟨rfl, rfl⟩)
        go_ret
        exact ⟨rfl, Below.refl _ _⟩
      rw [if_neg h0]
      have e0 : ((zs.length : Int) == 0) = false := by rw [beq_eq_false_iff_ne]; omega
      clear h0
      obtain ⟨i0, hi, hz0, hz1, hz2⟩ := info_parts Tryd.infoStr
      go_enter Tryd.func18, Tryd.ntmps18
      go_wp2_with (first | ((with_reducible refine (allWithin_any _ (by omega) (by omega) _ _ _ _ zs _ rfl (by omega) H1.out.plain).mono ?_); rintro e w' ⟨rfl, rfl⟩) | (refine wpList_make_full _ rfl _ _ 40 rfl w.heap.size 9 i0 (.string ⟨#[]⟩) 1 Tryd.underlying40 hi hz0 hz1 .i64 .i64 _ _ zs.length rfl rfl rfl rfl (by rw [hz2]; omega) (by unfold maxLen; omega) (Nat.le_refl _) ?_; intro w1 hown hgrow))
      have HI : Hid (TxInv zs 0 w.heap.size w.heap.size w w1) := Lib.hid ⟨⟨_, hown, fun j hj => by omega⟩, (Below.refl _ _).grown hgrow (Nat.le_refl _) (fun k hk => by cases hk), Nat.le_refl _, (hown.lt _ rfl).2⟩
      clear hown hgrow
      go_wp2
      go_loopw [22] (fun i wr => ∃ k : Nat, k ≤ zs.length ∧ i = .int .i64 k ∧ Hid (TxInv zs k w.heap.size w.heap.size w wr)) (fun i _ => zs.length - (intOf i).toNat)
      case atStart => exact ⟨0, by omega, rfl, HI⟩
      case round =>
        obtain ⟨k, hk, rfl, hI⟩ := hrel
        have HTr := Lib.hid (HT.out.below hI.out.below (Nat.le_refl _))
        by_cases hlt : k < zs.length
        · have hcell : wr.cell? ⟨b, k, none⟩ = some (.int .i64 (zs.getD k 0)) := (hI.out.below.cell (p := ⟨b, k, none⟩) H1.out.1).trans (H1.out.2 k hlt)
          have hy := wi_at HW.out k hlt
          have hBw : w.heap.size ≤ wr.heap.size := by have := hI.out.lt; omega
          obtain ⟨y, hyy⟩ : ∃ y, zs.getD k 0 = y := ⟨_, rfl⟩
          have HY := Lib.hid hyy
          rw [hyy] at hcell hy
          clear hyy
          go_wp2_with ((with_reducible refine (decimal_tb _ _ (by omega) (by omega) HTr.out).mono ?_); rintro e w2 ⟨rfl, hb1⟩; have hI1 := Lib.hid (tx_call hI.out hb1 hBw); obtain ⟨v0, hdst⟩ := tx_cell hI1.out k hlt; have hfree := tx_free hI1.out k; clear hb1)
          have HN := Lib.hid (tx_step hI1.out hlt)
          have HN2 : Hid (TxInv zs (k + 1) w.heap.size w.heap.size w (w2.setCell ⟨w.heap.size, k, none⟩ (.string (tb (Lib.itoa y))))) := Lib.hid (by rw [← HY.out]; exact HN.out)
          go_roundw
          case rel => exact ⟨k + 1, by omega, by go_num, HN2⟩
          case measure => simp [intOf]; omega
        · have HE := Lib.hid (tx_end hI.out (by omega))
          have HB := Lib.hid hI.out.below
          have hg := hI.out.lt.2
          go_wp2_with ((with_reducible refine (join_any _ _ zs _ hg (Nat.le_refl _) HW.out h64 HE.out).mono ?_); rintro e w2 ⟨rfl, hb1⟩)
          go_ret
          exact ⟨rfl, HB.out.trans (hb1.mono (by omega))⟩
  · have e1 : decide (64 < (zs.length : Int)) = true := by simp; omega
    rw [decide_eq_false h64, Bool.and_false]
    go_enter Tryd.func18, Tryd.ntmps18
    go_wp2
    go_ret
    exact ⟨rfl, Below.refl _ _⟩
end Go.Proofs.YtglbbpcdodlnmaaDoor
