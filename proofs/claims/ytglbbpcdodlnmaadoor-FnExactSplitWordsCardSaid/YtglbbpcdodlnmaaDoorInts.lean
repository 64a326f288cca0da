/- Slices of int64 that the law itself has copied: toInt64S, eqInt64S. -/
import Derived.Test.YtglbbpcdodlnmaaDoorProg
import Derived.Test.YtglbbpcdodlnmaaDoorBase
import Derived.Test.YtglbbpcdodlnmaaDoorOwn
import Derived.Deep.QuietTactic
import Derived.BigQuiet
import Derived.OwnWalk
namespace Go.Proofs.YtglbbpcdodlnmaaDoor
open Go.ChangeShapes Go.WideShapes Go.ChangeAt Go.RowKit

theorem Tryd.infoI64 : (Tryd.prog.info? 2).map (fun i => (i.zero, i.size, i.bytes)) = some (some (.int .i64 0), 1, 8) := by kernel_rfl

/-- The block g holds the numbers zs from its head on. -/
def IntsAt (w : World) (g : Nat) (zs : List Int) : Prop := g < w.heap.size ∧ ∀ j, j < zs.length → w.cell? ⟨g, j, none⟩ = some (.int .i64 (zs.getD j 0))
theorem IntsAt.below {w w' : World} {g B : Nat} {zs : List Int} (h : IntsAt w g zs) (hb : Below B w w') (hB : w.heap.size ≤ B) : IntsAt w' g zs := by
  have hs := hb.size
  refine ⟨by have := h.1; omega, fun j hj => ?_⟩
  have h1 := h.1
  exact (hb.cell (p := ⟨g, j, none⟩) (by simp; omega)).trans (h.2 j hj)
theorem IntsAt.plain {w : World} {g : Nat} {zs : List Int} (h : IntsAt w g zs) : ∀ j, j < zs.length → w.cell? ⟨g, 0 + j, none⟩ = some (.int .i64 (zs.getD j 0)) := fun j hj => by rw [Nat.zero_add]; exact h.2 j hj

/-- The loop of a copy: the first k cells are written. -/
structure CpInv (zs : List Int) (k B g : Nat) (w wr : World) : Prop where
  own : ∃ X, wr.ownsRow B 2 1 (.slice (some ⟨g, 0, none⟩) zs.length zs.length) zs.length X ∧ ∀ j, j < k → X[j]? = some (.int .i64 (zs.getD j 0))
  below : Below B w wr
  lt : B ≤ g ∧ g < wr.heap.size
theorem cp_step {zs : List Int} {k B g : Nat} {w wr : World} (h : CpInv zs k B g w wr) (hk : k < zs.length) : CpInv zs (k + 1) B g w (wr.setCell ⟨g, k, none⟩ (.int .i64 (zs.getD k 0))) := by
  obtain ⟨⟨X, h1, h2⟩, h3, h4⟩ := h
  have hX : X.length = zs.length := by have := h1.1; simpa using this
  obtain ⟨s1, s2⟩ := h1.stored k (.int .i64 (zs.getD k 0))
  refine ⟨⟨_, s1, fun j hj => ?_⟩, h3.setCell h4.1 _, h4.1, by have := s2.size; omega⟩
  by_cases e : j = k
  · subst e; rw [List.getElem?_set_self (by omega)]
  · rw [List.getElem?_set_ne (by omega)]; exact h2 j (by omega)
theorem cp_free {zs : List Int} {k B g : Nat} {w wr : World} (h : CpInv zs k B g w wr) (j : Nat) : wr.frozen? ⟨g, j, none⟩ = false := by
  obtain ⟨⟨X, h1, _⟩, _, _⟩ := h
  exact h1.frozenAt j
theorem cp_cell {zs : List Int} {k B g : Nat} {w wr : World} (h : CpInv zs k B g w wr) (j : Nat) (hj : j < zs.length) : ∃ v, wr.cell? ⟨g, j, none⟩ = some v := by
  obtain ⟨⟨X, h1, _⟩, _, _⟩ := h
  have hX : X.length = zs.length := by have := h1.1; simpa using this
  exact ⟨X[j]'(by omega), by rw [h1.cellAt j (by omega)]; simp⟩
theorem cp_end {zs : List Int} {k B g : Nat} {w wr : World} (h : CpInv zs k B g w wr) (hk : zs.length ≤ k) : IntsAt wr g zs := by
  obtain ⟨⟨X, h1, h2⟩, _, h4⟩ := h
  exact ⟨h4.2, fun j hj => by rw [h1.cellAt j (by omega)]; exact h2 j (by omega)⟩

set_option maxHeartbeats 1000000 in
theorem toInts_some (b off cap : Nat) (zs : List Int) (w : World) (hl : zs.length ≤ 1048576) (hb : b < w.heap.size)
    (hc : ∀ j, j < zs.length → w.cell? ⟨b, off + j, none⟩ = some (.int .i64 (zs.getD j 0))) :
    Calls Tryd.prog 32 #[.slice (some ⟨b, off, none⟩) zs.length cap] w fun e w' => e = .returned (.slice (some ⟨w.heap.size, 0, none⟩) zs.length zs.length) ∧ IntsAt w' w.heap.size zs ∧ Below w.heap.size w w' := by
  have HC := Lib.hid hc
  clear hc
  obtain ⟨i0, hi, hz0, hz1, hz2⟩ := info_parts Tryd.infoI64
  go_enter Tryd.func32, Tryd.ntmps32
  go_wp2_with (refine wpList_make_full _ rfl _ _ 30 rfl w.heap.size 2 i0 (.int .i64 0) 1 Tryd.underlying30 hi hz0 hz1 .i64 .i64 _ _ zs.length rfl rfl rfl rfl (by rw [hz2]; omega) (by unfold maxLen; omega) (Nat.le_refl _) ?_; intro w1 hown hgrow)
  have HI : Hid (CpInv zs 0 w.heap.size w.heap.size w w1) := Lib.hid ⟨⟨_, hown, fun j hj => by omega⟩, (Below.refl _ _).grown hgrow (Nat.le_refl _) (fun k hk => by cases hk), Nat.le_refl _, (hown.lt _ rfl).2⟩
  clear hown hgrow
  go_wp2
  go_loopw [4] (fun i wr => ∃ k : Nat, k ≤ zs.length ∧ i = .int .i64 k ∧ Hid (CpInv zs k w.heap.size w.heap.size w wr)) (fun i _ => zs.length - (intOf i).toNat)
  case atStart => exact ⟨0, by omega, rfl, HI⟩
  case round =>
    obtain ⟨k, hk, rfl, hI⟩ := hrel
    by_cases hlt : k < zs.length
    · have hcell : wr.cell? ⟨b, off + k, none⟩ = some (.int .i64 (zs.getD k 0)) := (hI.out.below.cell (p := ⟨b, off + k, none⟩) hb).trans (HC.out k hlt)
      obtain ⟨v0, hdst⟩ := cp_cell hI.out k hlt
      have hfree := cp_free hI.out k
      have HN := Lib.hid (cp_step hI.out hlt)
      generalize zs.getD k 0 = y at *
      go_wp2
      go_roundw
      case rel => exact ⟨k + 1, by omega, by go_num, HN⟩
      case measure => simp [intOf]; omega
    · have HE := Lib.hid (cp_end hI.out (by omega))
      have HB := Lib.hid hI.out.below
      go_wp2
      go_ret
      exact ⟨rfl, HE.out, HB.out⟩

set_option maxHeartbeats 1000000 in
theorem toInts_empty (ao : Option Addr) (cap : Nat) (w : World) :
    Calls Tryd.prog 32 #[.slice ao 0 cap] w fun e w' => e = .returned (.slice (some ⟨w.heap.size, 0, none⟩) 0 0) ∧ IntsAt w' w.heap.size [] ∧ Below w.heap.size w w' := by
  obtain ⟨i0, hi, hz0, hz1, hz2⟩ := info_parts Tryd.infoI64
  go_enter Tryd.func32, Tryd.ntmps32
  go_wp2_with (refine wpList_make_full _ rfl _ _ 30 rfl w.heap.size 2 i0 (.int .i64 0) 1 Tryd.underlying30 hi hz0 hz1 .i64 .i64 _ _ 0 rfl rfl rfl rfl (by omega) (by unfold maxLen; omega) (Nat.le_refl _) ?_; intro w1 hown hgrow)
  have HB : Hid (Below w.heap.size w w1) := Lib.hid ((Below.refl _ _).grown hgrow (Nat.le_refl _) (fun k hk => by cases hk))
  have hlt := (hown.lt _ rfl).2
  clear hown hgrow
  go_wp2
  go_loopw [4] (fun i wr => i = .int .i64 0 ∧ w1 = wr) (fun _ _ => 0)
  case atStart => exact ⟨rfl, rfl⟩
  case round =>
    obtain ⟨rfl, rfl⟩ := hrel
    go_wp2
    go_ret
    exact ⟨rfl, ⟨hlt, fun j hj => by simp at hj⟩, HB.out⟩

set_option maxHeartbeats 1000000 in
theorem eqInts_yes (b1 b2 c1 c2 : Nat) (zs : List Int) (w : World) (hl : zs.length ≤ 1048576) (h1 : IntsAt w b1 zs) (h2 : IntsAt w b2 zs) :
    Calls Tryd.prog 33 #[.slice (some ⟨b1, 0, none⟩) zs.length c1, .slice (some ⟨b2, 0, none⟩) zs.length c2] w fun e w' => e = .returned (.bool true) ∧ ∃ n, w' = w.drewN n := by
  have H1 := Lib.hid h1
  have H2 := Lib.hid h2
  clear h1 h2
  go_enter Tryd.func33, Tryd.ntmps33
  go_wp2
  go_loopw [5] (fun i wr => ∃ k n : Nat, k ≤ zs.length ∧ i = .int .i64 k ∧ wr = w.drewN n) (fun i _ => zs.length - (intOf i).toNat)
  case atStart => exact ⟨0, 0, by omega, rfl, rfl⟩
  case round =>
    obtain ⟨k, n, hk, rfl, rfl⟩ := hrel
    by_cases hlt : k < zs.length
    · have c1' := H1.out.2 k hlt
      have c2' := H2.out.2 k hlt
      have hlt' : (k : Int) < (zs.length : Int) := by omega
      generalize zs.getD k 0 = y at *
      go_wp2
      go_quiet (fail)
      go_wp2
      go_roundw
      case rel => exact ⟨k + 1, _, by omega, by go_num, rfl⟩
      case measure => simp [intOf]; omega
    · go_wp2
      go_ret
      exact ⟨rfl, n, rfl⟩

/-- A slice that came in reads as the numbers zs. -/
def View (w : World) (ao : Option Addr) (zs : List Int) : Prop := zs = [] ∨ ∃ b off, ao = some ⟨b, off, none⟩ ∧ b < w.heap.size ∧ ∀ j, j < zs.length → w.cell? ⟨b, off + j, none⟩ = some (.int .i64 (zs.getD j 0))
theorem View.below {w w' : World} {ao : Option Addr} {B : Nat} {zs : List Int} (h : View w ao zs) (hb : Below B w w') (hB : w.heap.size ≤ B) : View w' ao zs := by
  rcases h with h | ⟨b, off, rfl, h1, h2⟩
  · exact Or.inl h
  · have hs := hb.size
    exact Or.inr ⟨b, off, rfl, by omega, fun j hj => (hb.cell (p := ⟨b, off + j, none⟩) (by simp; omega)).trans (h2 j hj)⟩
theorem toInts_view (ao : Option Addr) (cap : Nat) (zs : List Int) (w : World) (hl : zs.length ≤ 1048576) (h : View w ao zs) :
    Calls Tryd.prog 32 #[.slice ao zs.length cap] w fun e w' => e = .returned (.slice (some ⟨w.heap.size, 0, none⟩) zs.length zs.length) ∧ IntsAt w' w.heap.size zs ∧ Below w.heap.size w w' := by
  rcases h with rfl | ⟨b, off, rfl, h1, h2⟩
  · exact toInts_empty ao cap w
  · exact toInts_some b off cap zs w hl h1 h2
end Go.Proofs.YtglbbpcdodlnmaaDoor
