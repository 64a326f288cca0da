/- The walk of FnExactSplitWords where the text has at most 1048576 bytes. -/
import Derived.Test.YtglbbpcdodlnmaaDoorMarkText
namespace Go.Proofs.YtglbbpcdodlnmaaDoor
open Go.ChangeShapes Go.WideShapes Go.ChangeAt Go.RowKit

theorem own_keepW {w w' : World} {base e size n B : Nat} {v : Value} {xs : List Value} (h : w.ownsRow base e size v n xs) (hlt : ∀ k, v.ownBlock = some k → k < B) (hb : Below B w w') : w'.ownsRow base e size v n xs := by
  obtain ⟨h1, h2 | ⟨g, cap, cur, rfl, h3, h4, h5⟩⟩ := h
  · exact ⟨h1, Or.inl h2⟩
  · refine ⟨h1, Or.inr ⟨g, cap, cur, rfl, h3, ?_, h5⟩⟩
    rw [hb.block g (hlt g rfl)]
    exact h4
theorem markedS_below {w w' : World} {base n B : Nat} {v : Value} (h : MarkedS w base v n) (hb : Below B w w') (hB : w.heap.size ≤ B) : MarkedS w' base v n := by
  obtain ⟨X, h1, h2⟩ := h
  exact ⟨X, own_below h1 hb hB, h2⟩
theorem drew_belowW (w : World) (n : Nat) (B : Nat) : Below B w (w.drewN n) := ⟨rfl, rfl, rfl, Nat.le_refl _, fun _ _ => rfl⟩
theorem wdPost_zs {l : List UInt8} {B : Nat} {w w' : World} {e : Ending} {L : List (List UInt8)} (h : WdPost l B w e w') (hz : wd l = L) :
    ∃ v, e = .returned v ∧ w'.ownsRow B 9 1 v L.length (L.map sV) ∧ Below w.heap.size w w' := by
  subst hz
  exact h
theorem wd_len (s : ByteArray) (hs : s.size ≤ 1048576) : (wd s.data.toList).length ≤ 1048577 := by
  have h1 := List.length_filter_le neB (spl 32 s.data.toList)
  have h2 := spl_size 32 s.data.toList
  simp at h2
  unfold wd
  omega

set_option maxRecDepth 100000 in
set_option maxHeartbeats 2000000 in
theorem wordsLaw (a0 : ByteArray) (w : World) (hs : a0.size ≤ 1048576) (hM : MaxOkW w) :
    Calls Tryd.prog 7 #[.string a0] w fun e w' => e = .returned (.bool true) ∧ Below w.heap.size w w' := by
  have HM := Lib.hid hM
  clear hM
  have e1 : decide (1048576 < (a0.size : Int)) = false := by simp; omega
  have hl := wd_len a0 hs
  obtain ⟨L, hz⟩ : ∃ L, wd a0.data.toList = L := ⟨_, rfl⟩
  rw [hz] at hl
  have HZ := Lib.hid hz
  clear hz
  have hl2 : L.length ≤ 2000000 := by omega
  have hl3 : L.length ≤ 1900000 := by omega
  go_enter Tryd.func7, Tryd.ntmps7
  go_wp2_with fail
  refine (words_spec _ _ hs).mono ?_
  intro e w1 hp
  obtain ⟨v0, rfl, ho0, hb1⟩ := wdPost_zs hp HZ.out
  have HO0 := Lib.hid ho0
  have HB1 := Lib.hid hb1
  have HM1 := Lib.hid (HM.out.below hb1 (Nat.le_refl _))
  clear ho0 hb1 hp
  go_wp2_with fail
  refine (words_impl _ _ hs HM1.out).mono ?_
  intro e w2 hp
  obtain ⟨v1, rfl, ho1, hb2⟩ := wdPost_zs hp HZ.out
  have HO1 := Lib.hid ho1
  have HO0b := Lib.hid (own_below HO0.out hb2 (Nat.le_refl _))
  have HW2 := Lib.hid (HB1.out.trans (hb2.mono HB1.out.size))
  clear ho1 hb2 hp
  go_wp2_with fail
  refine (eqOwnS _ _ _ _ _ _ hl2 HO1.out HO0b.out).mono ?_
  rintro e w3 ⟨rfl, n1, rfl⟩
  have HO1c := Lib.hid (own_below HO1.out (drew_belowW w2 n1 _) (Nat.le_refl _))
  have HO0c := Lib.hid (own_below HO0b.out (drew_belowW w2 n1 _) (Nat.le_refl _))
  go_wp2_with fail
  refine (markOwnS _ _ _ _ _ hl3 HO1c.out).mono ?_
  rintro e w4 ⟨rfl, hm4, hb4⟩
  have HK4 := Lib.hid hm4
  have HO0d := Lib.hid (own_keepW HO0c.out (fun k hk => (HO0.out.lt k hk).2) hb4)
  have HW4 := Lib.hid ((HW2.out.trans (drew_belowW w2 n1 _)).trans (hb4.mono HB1.out.size))
  clear hm4 hb4
  go_wp2_with fail
  refine (heldOwnS _ _ _ _ hl3 HK4.out).mono ?_
  rintro e w5 ⟨rfl, hb5⟩
  have HK5 := Lib.hid (markedS_below HK4.out hb5 (Nat.le_refl _))
  have HO0e := Lib.hid (own_below HO0d.out hb5 (Nat.le_refl _))
  have HW5 := Lib.hid (HW4.out.trans (hb5.mono HW4.out.size))
  have HM5 := Lib.hid (HM.out.below HW5.out (Nat.le_refl _))
  clear hb5
  go_wp2_with fail
  refine (words_impl _ _ hs HM5.out).mono ?_
  intro e w6 hp
  obtain ⟨v2, rfl, ho2, hb6⟩ := wdPost_zs hp HZ.out
  have HO2 := Lib.hid ho2
  have HO0f := Lib.hid (own_below HO0e.out hb6 (Nat.le_refl _))
  have HK6 := Lib.hid (markedS_below HK5.out hb6 (Nat.le_refl _))
  have HW6 := Lib.hid (HW5.out.trans (hb6.mono HW5.out.size))
  clear ho2 hb6 hp
  go_wp2_with fail
  refine (eqOwnS _ _ _ _ _ _ hl2 HO2.out HO0f.out).mono ?_
  rintro e w7 ⟨rfl, n2, rfl⟩
  have HK7 := Lib.hid (markedS_below HK6.out (drew_belowW w6 n2 _) (Nat.le_refl _))
  go_wp2_with fail
  refine (heldOwnS _ _ _ _ hl3 HK7.out).mono ?_
  rintro e w8 ⟨rfl, hb8⟩
  have HW7 := Lib.hid (HW6.out.trans (drew_belowW w6 n2 _))
  have HW8 := Lib.hid (HW7.out.trans (hb8.mono HW7.out.size))
  clear hb8
  go_wp2
  go_ret
  exact ⟨rfl, HW8.out⟩
end Go.Proofs.YtglbbpcdodlnmaaDoor
