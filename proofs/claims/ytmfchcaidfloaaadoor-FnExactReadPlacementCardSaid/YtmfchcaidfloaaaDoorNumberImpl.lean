/- ReadDecimal of impl: it answers numI, at every string of at most 1048576 bytes. -/
import Derived.Test.YtmfchcaidfloaaaDoorNumber
namespace Go.Proofs.YtmfchcaidfloaaaDoor
open Go.ChangeShapes Go.WideShapes Go.ChangeAt Go.RowKit Go.Joins

set_option maxHeartbeats 1000000 in
theorem number_impl (s : ByteArray) (w : World) (hs : s.size ≤ 1048576) (hN : NumOk w) :
    Calls Tryd.prog 63 #[.string s] w fun e w' => e = .returned (.tuple #[.int .i64 ((numI s.data.toList).getD 0), .bool (numI s.data.toList).isSome]) ∧ Below w.heap.size w w' := by
  have HN := Lib.hid hN
  clear hN
  by_cases hl : (tailD s.data.toList).length ≤ 18
  · have hl2 : (trimS s).size ≤ 18 := by rw [trimS_size]; exact hl
    have e2 : decide (18 < ((trimS s).size : Int)) = false := by simp; omega
    generalize hx : numI s.data.toList = x
    cases x with
    | some n =>
      obtain ⟨g1, g2, g3, g4, g5⟩ := num_some _ _ hx
      have G2 := Lib.hid g2
      have G3 := Lib.hid g3
      clear g2 g3 hx hl
      go_enter Tryd.func63, Tryd.ntmps63
      go_wp2_with ((with_reducible refine (trim_any _ _).mono ?_); rintro e w' ⟨rfl, rfl⟩)
      refine (parse_good _ n _ hs G2.out HN.out.syn HN.out.rng).mono ?_
      rintro e w1 ⟨rfl, hb1⟩
      have HN1 := Lib.hid (HN.out.below hb1 (Nat.le_refl _))
      have HB1 := Lib.hid hb1
      clear hb1
      go_wp2_with fail
      refine (decimal_same n s _ G3.out (by omega) (by omega) HN1.out.tab).mono ?_
      rintro e w2 ⟨rfl, hb2⟩
      have HB2 := Lib.hid hb2
      clear hb2
      go_wp2
      go_ret2
      exact ⟨rfl, HB1.out.trans (HB2.out.mono HB1.out.size)⟩
    | none =>
      by_cases hp : ∃ v, Lib.parseIntB 64 s.data.toList = .ok v
      · obtain ⟨n, g2⟩ := hp
        have g3 := num_none _ n hx hl
        have g4 := parse_bd _ _ g2
        have G2 := Lib.hid g2
        have hne := decS_ne n s g3
        have hne1 : ((decS n).toList == s.toList) = false := by rw [beq_eq_false_iff_ne]; exact hne
        have hne2 : ((decS n).toList != s.toList) = true := by rw [bne, hne1]; rfl
        obtain ⟨g5, g6⟩ := g4
        clear g2 g3 hx hl
        go_enter Tryd.func63, Tryd.ntmps63
        go_wp2_with ((with_reducible refine (trim_any _ _).mono ?_); rintro e w' ⟨rfl, rfl⟩)
        refine (parse_good _ n _ hs G2.out HN.out.syn HN.out.rng).mono ?_
        rintro e w1 ⟨rfl, hb1⟩
        have HN1 := Lib.hid (HN.out.below hb1 (Nat.le_refl _))
        have HB1 := Lib.hid hb1
        clear hb1
        go_wp2_with fail
        refine (decimal_other n _ (by omega) (by omega) HN1.out.tab).mono ?_
        rintro e w2 ⟨rfl, hb2⟩
        have HB2 := Lib.hid hb2
        clear hb2
        go_wp2
        go_ret2
        exact ⟨rfl, HB1.out.trans (HB2.out.mono HB1.out.size)⟩
      · have G2 := Lib.hid (fun v e => hp ⟨v, e⟩ : ∀ v, Lib.parseIntB 64 s.data.toList ≠ .ok v)
        clear hp hx hl
        go_enter Tryd.func63, Tryd.ntmps63
        go_wp2_with ((with_reducible refine (trim_any _ _).mono ?_); rintro e w' ⟨rfl, rfl⟩)
        refine (parse_bad _ _ hs G2.out HN.out.syn HN.out.rng).mono ?_
        rintro e w1 ⟨⟨m, N, rfl⟩, hb1⟩
        have HB1 := Lib.hid hb1
        clear hb1
        go_wp2
        go_ret2
        exact ⟨rfl, HB1.out⟩
  · have hl2 : 18 < (trimS s).size := by rw [trimS_size]; omega
    have e2 : decide (18 < ((trimS s).size : Int)) = true := by simp; omega
    have hx : numI s.data.toList = none := by
      apply not_none
      rw [okNum, decide_eq_false hl]
      simp
    rw [hx]
    clear hx hl
    go_enter Tryd.func63, Tryd.ntmps63
    go_wp2_with ((with_reducible refine (trim_any _ _).mono ?_); rintro e w' ⟨rfl, rfl⟩)
    go_ret2
    exact ⟨rfl, Below.refl _ _⟩
end Go.Proofs.YtmfchcaidfloaaaDoor
