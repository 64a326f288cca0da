/- The walk of FnExactReadList where the text has at most 1048576 bytes. -/
import Derived.Test.YtglbbpcdodlnmaaDoorReadImpl
import Derived.Test.YtglbbpcdodlnmaaDoorMarks
namespace Go.Proofs.YtglbbpcdodlnmaaDoor
open Go.ChangeShapes Go.WideShapes Go.ChangeAt Go.RowKit

/-- What is owned stays owned where only younger blocks change. -/
theorem own_keep {w w' : World} {base e size n B : Nat} {v : Value} {xs : List Value} (h : w.ownsRow base e size v n xs) (hlt : ∀ k, v.ownBlock = some k → k < B) (hb : Below B w w') : w'.ownsRow base e size v n xs := by
  obtain ⟨h1, h2 | ⟨g, cap, cur, rfl, h3, h4, h5⟩⟩ := h
  · exact ⟨h1, Or.inl h2⟩
  · refine ⟨h1, Or.inr ⟨g, cap, cur, rfl, h3, ?_, h5⟩⟩
    rw [hb.block g (hlt g rfl)]
    exact h4
theorem marked_below {w w' : World} {base n B : Nat} {v : Value} (h : Marked w base v n) (hb : Below B w w') (hB : w.heap.size ≤ B) : Marked w' base v n := by
  obtain ⟨X, h1, h2⟩ := h
  exact ⟨X, own_below h1 hb hB, h2⟩
theorem drew_below (w : World) (n : Nat) (B : Nat) : Below B w (w.drewN n) := ⟨rfl, rfl, rfl, Nat.le_refl _, fun _ _ => rfl⟩
theorem rdPost_zs {l : List UInt8} {B : Nat} {w w' : World} {e : Ending} {zs : List Int} {b : Bool} (h : RdPost l B w e w') (hz : rlL l = zs) (hb : rlB l = b) :
    ∃ v, e = .returned (.tuple #[v, .bool b]) ∧ w'.ownsRow B 2 1 v zs.length (zs.map (Value.int .i64)) ∧ Below w.heap.size w w' := by
  subst hz hb
  exact h
theorem rl_len (l : List UInt8) : (rlL l).length ≤ 64 := by
  unfold rlL
  split
  · simp
  · split
    · rename_i hg
      simp only [rlGood, Bool.and_eq_true, decide_eq_true_eq] at hg
      rw [rdvals_len]; exact hg.1
    · simp

set_option maxRecDepth 100000 in
set_option maxHeartbeats 2000000 in
theorem readLaw (a0 : ByteArray) (w : World) (hs : a0.size ≤ 1048576) (hN : NumOk w) (hM : MaxOk w) :
    Calls Tryd.prog 9 #[.string a0] w fun e w' => e = .returned (.bool true) ∧ Below w.heap.size w w' := by
  have HN := Lib.hid hN
  have HM := Lib.hid hM
  clear hN hM
  have e1 : decide (1048576 < (a0.size : Int)) = false := by simp; omega
  have hl := rl_len a0.data.toList
  obtain ⟨zs, hz⟩ : ∃ zs, rlL a0.data.toList = zs := ⟨_, rfl⟩
  obtain ⟨bb, hbb⟩ : ∃ bb, rlB a0.data.toList = bb := ⟨_, rfl⟩
  rw [hz] at hl
  have HZ := Lib.hid hz
  have HBB := Lib.hid hbb
  clear hz hbb
  have hl2 : zs.length ≤ 1048576 := by omega
  go_enter Tryd.func9, Tryd.ntmps9
  go_wp2_with fail
  refine (readList_spec _ _ hs).mono ?_
  intro e w1 hp
  obtain ⟨v0, rfl, ho0, hb1⟩ := rdPost_zs hp HZ.out HBB.out
  have HO0 := Lib.hid ho0
  have HB1 := Lib.hid hb1
  have HN1 := Lib.hid (HN.out.below hb1 (Nat.le_refl _))
  have HM1 := Lib.hid (HM.out.below hb1 (Nat.le_refl _))
  clear ho0 hb1 hp
  go_wp2_with fail
  refine (readList_impl _ _ hs HN1.out HM1.out).mono ?_
  intro e w2 hp
  obtain ⟨v1, rfl, ho1, hb2⟩ := rdPost_zs hp HZ.out HBB.out
  have HO1 := Lib.hid ho1
  have HB2 := Lib.hid hb2
  have HO0b := Lib.hid (own_below HO0.out hb2 (Nat.le_refl _))
  have HW2 := Lib.hid (HB1.out.trans (hb2.mono HB1.out.size))
  clear ho1 hb2 hp
  go_wp2_with fail
  refine (eqOwn _ _ _ _ _ _ hl2 HO1.out HO0b.out).mono ?_
  rintro e w3 ⟨rfl, n1, rfl⟩
  have HO1c := Lib.hid (own_below HO1.out (drew_below w2 n1 _) (Nat.le_refl _))
  have HO0c := Lib.hid (own_below HO0b.out (drew_below w2 n1 _) (Nat.le_refl _))
  go_wp2_with fail
  refine (markOwn _ _ _ _ _ hl2 HO1c.out).mono ?_
  rintro e w4 ⟨rfl, hm4, hb4⟩
  have HK4 := Lib.hid hm4
  have HO0d := Lib.hid (own_keep HO0c.out (fun k hk => (HO0.out.lt k hk).2) hb4)
  have HW4 := Lib.hid ((HW2.out.trans (drew_below w2 n1 _)).trans (hb4.mono HB1.out.size))
  have HN4 := Lib.hid (HN.out.below HW4.out (Nat.le_refl _))
  have HM4 := Lib.hid (HM.out.below HW4.out (Nat.le_refl _))
  clear hm4 hb4
  go_wp2_with fail
  refine (heldOwn _ _ _ _ hl2 HK4.out).mono ?_
  rintro e w5 ⟨rfl, rfl⟩
  go_wp2_with fail
  refine (readList_impl _ _ hs HN4.out HM4.out).mono ?_
  intro e w6 hp
  obtain ⟨v2, rfl, ho2, hb6⟩ := rdPost_zs hp HZ.out HBB.out
  have HO2 := Lib.hid ho2
  have HO0e := Lib.hid (own_below HO0d.out hb6 (Nat.le_refl _))
  have HK6 := Lib.hid (marked_below HK4.out hb6 (Nat.le_refl _))
  have HW6 := Lib.hid (HW4.out.trans (hb6.mono HW4.out.size))
  clear ho2 hb6 hp
  go_wp2_with fail
  refine (eqOwn _ _ _ _ _ _ hl2 HO2.out HO0e.out).mono ?_
  rintro e w7 ⟨rfl, n2, rfl⟩
  have HK7 := Lib.hid (marked_below HK6.out (drew_below w6 n2 _) (Nat.le_refl _))
  go_wp2_with fail
  refine (heldOwn _ _ _ _ hl2 HK7.out).mono ?_
  rintro e w8 ⟨rfl, rfl⟩
  go_wp2
  go_ret
  exact ⟨rfl, HW6.out.trans (drew_below w6 n2 _)⟩
end Go.Proofs.YtglbbpcdodlnmaaDoor
