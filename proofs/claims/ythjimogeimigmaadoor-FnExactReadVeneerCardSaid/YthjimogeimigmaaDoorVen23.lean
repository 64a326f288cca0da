/- ReadVeneer: spec and impl. -/
import Derived.Test.YthjimogeimigmaaDoorVen22
namespace Go.Proofs.YthjimogeimigmaaDoor
open Seq2 Go.ChangeShapes Go.WideShapes Go.ChangeAt Go.RowKit
set_option linter.unusedVariables false
set_option linter.unusedSimpArgs false

def rvR (s : ByteArray) : Vn × Bool := ((vrO s.data.toList).getD vn0, (vrO s.data.toList).isSome)
theorem vrC_none {a b c : List UInt8} (h : numI c = none) : vrC a b c = none := by
  unfold vrC; rw [h]; cases numI b <;> rfl
theorem vrO_three {l a b c : List UInt8} (h : spl 32 l = [a, b, c]) : vrO l = vrC a b c := by unfold vrO; rw [h]
theorem vrO_other {l : List UInt8} (h : (spl 32 l).length ≠ 3) : vrO l = none := by
  unfold vrO
  split
  · rename_i heq; rw [heq] at h; simp at h
  · rfl
theorem len_three {α : Type} {l : List α} (h : l.length = 3) : ∃ a b c, l = [a, b, c] := by
  match l, h with
  | [a, b, c], _ => exact ⟨a, b, c, rfl⟩
theorem l07read_any (s : ByteArray) (w : World) (hs : s.size ≤ 1048576) : Calls Tryd.prog 69 #[.string s] w fun e w' => e = .returned (.tuple #[vnV (rvR s).1, .bool (rvR s).2]) ∧ Below w.heap.size w w' := by
  by_cases h : (spl 32 s.data.toList).length = 3
  · obtain ⟨a, b, c, he⟩ := len_three h
    have hp : ∀ p, p ∈ spl 32 s.data.toList → p.length ≤ 1048576 := fun p hp => by have := spl_piece 32 s.data.toList p hp; rw [size_list] at this; omega
    have := read3_spec s a b c w (hp _ (by rw [he]; simp)) (hp _ (by rw [he]; simp)) (hp _ (by rw [he]; simp)) (fun w1 _ => spl3_spec s a b c w1 hs he)
    unfold rvR
    rw [vrO_three he]
    exact this
  · have := read3_spec_no s w (fun w1 _ => splN_spec s w1 hs h)
    unfold rvR
    rw [vrO_other h]
    exact this
set_option maxRecDepth 100000 in
set_option maxHeartbeats 4000000 in
theorem readv_spec (s : ByteArray) (w : World) (hs : s.size ≤ 1048576) : Calls Tryd.prog 41 #[.string s] w fun e w' => e = .returned (.tuple #[vnV (rvR s).1, .bool (rvR s).2]) ∧ Below w.heap.size w w' := by
  have HC := Lib.hid (fun w => l07read_any s w hs)
  obtain ⟨⟨z, r⟩, hR⟩ : ∃ R, rvR s = R := ⟨_, rfl⟩
  rw [hR] at HC ⊢
  clear hR
  obtain ⟨x0, x1, x2⟩ := z
  have HV := Lib.hid (show vnV (x0, x1, x2) = .agg #[.string x0, .int .i64 x1, .int .i64 x2] from rfl)
  rw [HV.out]
  have HZ := Lib.hid (World.alloc_heap_new w (.cells #[.string ⟨#[]⟩, .int .i64 0, .int .i64 0] 34))
  have HA := Lib.hid (one_alloc (w := w) (.cells #[.string ⟨#[]⟩, .int .i64 0, .int .i64 0] 34))
  go_enter Tryd.func41, Tryd.ntmps41
  go_wp2_with fail
  refine (HC.out _).mono ?_
  rintro e w1 ⟨rfl, g1⟩
  simp only [HV.out]
  have HG := Lib.hid (bseq HA.out g1)
  have hz := (g1.block _ (by simp)).trans HZ.out
  clear g1
  have hzl := blk_lt3 hz
  obtain ⟨z0, fz0, z1, fz1, z2, fz2⟩ := cells3_of hz
  go_wp2
  have q := (stored3 (x0 := .string x0) (x1 := .int .i64 x1) (x2 := .int .i64 x2) hz).here
  obtain ⟨q0, _, q1, _, q2, _⟩ := cells3_of q
  refine bodyPost_ret (v := .tuple #[.agg #[.string x0, .int .i64 x1, .int .i64 x2], .bool r]) ?_ rfl ⟨rfl, ?_⟩
  · clear hz q z0 z1 z2 fz0 fz1 fz2
    generalize World.setCell _ _ _ = W at *
    simp [results, Tryd.results41, go_sem, q0, q1, q2]
  · have HBX := HG.out
    (repeat (first | exact HBX | refine Below.setCell ?_ (by first | exact Nat.le_refl _ | (dsimp only; omega) | (simp; done) | (simp; omega)) _ | refine Below.alloc ?_ (by first | exact Nat.le_refl _ | omega | (simp; done) | (simp; omega)) _))
theorem readv_impl (s : ByteArray) (w : World) (hs : s.size ≤ 1048576) (ht : TabAt w) (hN : NumOk w) (hM : MaxV w) : Calls Tryd.prog 42 #[.string s] w fun e w' => e = .returned (.tuple #[vnV (rvR s).1, .bool (rvR s).2]) ∧ Below w.heap.size w w' := by
  have hM1 : ∀ w1, Below w.heap.size w w1 → MaxV w1 := fun w1 hb => hM.below hb (Nat.le_refl _)
  by_cases h2 : s.data.toList.count 32 ≤ 2
  · have hk := piecesFew s h2
    by_cases h : (spl 32 s.data.toList).length = 3
    · obtain ⟨a, b, c, he⟩ := len_three h
      have hp : ∀ p, p ∈ spl 32 s.data.toList → p.length ≤ 1048576 := fun p hp => by have := spl_piece 32 s.data.toList p hp; rw [size_list] at this; omega
      have := read3_impl s a b c w (hp _ (by rw [he]; simp)) (hp _ (by rw [he]; simp)) (hp _ (by rw [he]; simp)) (fun w1 hb => spl3_impl s a b c w1 hs (hM1 w1 hb) (hk.trans he)) ht hN
      unfold rvR
      rw [vrO_three he]
      exact this
    · have := read3_impl_no s w (fun w1 hb => splN_impl s w1 hs (hM1 w1 hb) (by rw [hk]; exact h))
      unfold rvR
      rw [vrO_other h]
      exact this
  · have hk := piecesMany s (by omega)
    obtain ⟨a, b, r, he, hr, la, lb, lr⟩ := splitK_two s.data.toList (by omega)
    rw [size_list] at la lb lr
    have := read3_impl s a b r w (by omega) (by omega) (by omega) (fun w1 hb => spl3_impl s a b r w1 hs (hM1 w1 hb) (hk.trans he)) ht hN
    rw [vrC_none (num_blank r hr)] at this
    unfold rvR
    rw [vrO_other (by rw [spl_len]; omega)]
    exact this
end Go.Proofs.YthjimogeimigmaaDoor
