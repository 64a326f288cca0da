/- The source of choices of spec: what next, pick and R8Numbers answer lies within bounds. -/
import Derived.Test.YtglbbpcdodlnmaaDoorProg
import Derived.Test.YtglbbpcdodlnmaaDoorBase
import Derived.Deep.QuietTactic
import Derived.BigQuiet
import Derived.RegionTactic
import Derived.Laws.BitsAllLaws
import Derived.Laws.Rows
import Derived.IntWalk
namespace Go.Proofs.YtglbbpcdodlnmaaDoor
open Go.ChangeShapes Go.WideShapes Go.ChangeAt Go.RowKit

/-- A slice of bytes that came in: its places hold numbers of a byte. -/
def BView (w : World) (ao : Option Addr) (n : Nat) : Prop := n = 0 ∨ ∃ b off, ao = some ⟨b, off, none⟩ ∧ b < w.heap.size ∧ ∀ j, j < n → ∃ c : Int, w.cell? ⟨b, off + j, none⟩ = some (.int .u8 c) ∧ 0 ≤ c ∧ c ≤ 255
theorem BView.below {w w' : World} {ao : Option Addr} {B n : Nat} (h : BView w ao n) (hb : Below B w w') (hB : w.heap.size ≤ B) : BView w' ao n := by
  rcases h with h | ⟨b, off, rfl, h1, h2⟩
  · exact Or.inl h
  · have hs := hb.size
    refine Or.inr ⟨b, off, rfl, by omega, fun j hj => ?_⟩
    obtain ⟨c, hc, hc2⟩ := h2 j hj
    exact ⟨c, (hb.cell (p := ⟨b, off + j, none⟩) (by simp; omega)).trans hc, hc2⟩

/-- The block S holds a source that reads the slice. -/
structure SrcAt (w : World) (S : Nat) (ao : Option Addr) (n cap at_ : Nat) : Prop where
  blk : ∃ seed : Int, w.heap[S]? = some (.cells #[.slice ao n cap, .int .i64 at_, .int .u64 seed] 67 (0, 0)) ∧ 0 ≤ seed ∧ seed ≤ 18446744073709551615
  view : n = 0 ∨ ∃ b off, ao = some ⟨b, off, none⟩ ∧ b < S ∧ ∀ j, j < n → ∃ c : Int, w.cell? ⟨b, off + j, none⟩ = some (.int .u8 c) ∧ 0 ≤ c ∧ c ≤ 255

theorem src_cells {w : World} {S n cap at_ : Nat} {ao : Option Addr} {seed : Int} (h : w.heap[S]? = some (.cells #[.slice ao n cap, .int .i64 at_, .int .u64 seed] 67 (0, 0))) :
    w.cell? ⟨S, 0, none⟩ = some (.slice ao n cap) ∧ w.cell? ⟨S, 1, none⟩ = some (.int .i64 at_) ∧ w.cell? ⟨S, 2, none⟩ = some (.int .u64 seed) ∧ w.frozen? ⟨S, 1, none⟩ = false ∧ w.frozen? ⟨S, 2, none⟩ = false := by
  refine ⟨?_, ?_, ?_, ?_, ?_⟩ <;> simp [World.cell?, World.frozen?, h]

theorem wrapU2 (n : Int) : 0 ≤ IntKind.u64.wrap n ∧ IntKind.u64.wrap n ≤ 18446744073709551615 := by
  have : IntKind.u64.wrap n = n % 18446744073709551616 := by simp [IntKind.wrap, IntKind.bits, IntKind.signed]
  rw [this]; omega
/-- The source one step on. -/
theorem src_next {w w' : World} {S n cap at_ : Nat} {ao : Option Addr} {seed sd : Int} (h : w.heap[S]? = some (.cells #[.slice ao n cap, .int .i64 at_, .int .u64 seed] 67 (0, 0)))
    (hv : n = 0 ∨ ∃ b off, ao = some ⟨b, off, none⟩ ∧ b < S ∧ ∀ j, j < n → ∃ c : Int, w.cell? ⟨b, off + j, none⟩ = some (.int .u8 c) ∧ 0 ≤ c ∧ c ≤ 255) (hs : 0 ≤ sd ∧ sd ≤ 18446744073709551615)
    (hh : w'.heap = ((w.setCell ⟨S, 1, none⟩ (.int .i64 ((at_ : Int) + 1))).setCell ⟨S, 2, none⟩ (.int .u64 sd)).heap) (e1 : w'.os = w.os) (e2 : w'.tape = w.tape) (e3 : w'.output = w.output) :
    SrcAt w' S ao n cap (at_ + 1) ∧ Below S w w' := by
  have hb : Below S w w' := by
    have h1 := ((Below.refl S w).setCell (p := ⟨S, 1, none⟩) (Nat.le_refl _) (.int .i64 ((at_ : Int) + 1))).setCell (p := ⟨S, 2, none⟩) (Nat.le_refl _) (.int .u64 sd)
    exact ⟨e1, e2, e3, by rw [hh]; exact h1.size, fun k hk => by rw [hh]; exact h1.block k hk⟩
  refine ⟨⟨⟨sd, ?_, hs.1, hs.2⟩, ?_⟩, hb⟩
  · have h1 := heap_setCell_same _ S 1 _ _ (.int .i64 ((at_ : Int) + 1)) h
    have h2 := heap_setCell_same _ S 2 _ _ (.int .u64 sd) h1
    rw [hh, h2]
    simp
  · rcases hv with hv | ⟨b, off, rfl, h1, h2⟩
    · exact Or.inl hv
    · refine Or.inr ⟨b, off, rfl, h1, fun j hj => ?_⟩
      obtain ⟨c, hc, hc2⟩ := h2 j hj
      exact ⟨c, (hb.cell (p := ⟨b, off + j, none⟩) h1).trans hc, hc2⟩
theorem and255 (x : Int) (h0 : 0 ≤ x) (h1 : x ≤ 18446744073709551615) : 0 ≤ bits .and .u64 x 255 ∧ bits .and .u64 x 255 ≤ 255 := by
  obtain ⟨m, rfl⟩ : ∃ m : Nat, x = m := ⟨x.toNat, by omega⟩
  have := u64_and_nat m 255 (by omega) (by omega)
  rw [show ((255 : Nat) : Int) = 255 from rfl] at this
  rw [this]
  have := Nat.and_le_right (n := m) (m := 255)
  omega
def NextPost (S n cap at_ : Nat) (ao : Option Addr) (w : World) (e : Ending) (w' : World) : Prop := (∃ x : Int, 0 ≤ x ∧ x ≤ 255 ∧ e = .returned (.int .i64 x)) ∧ SrcAt w' S ao n cap (at_ + 1) ∧ Below S w w'

set_option maxRecDepth 100000 in
set_option maxHeartbeats 1000000 in
theorem next_any (S n cap at_ : Nat) (ao : Option Addr) (w : World) (_hn : n ≤ 1048576) (ha : at_ ≤ 1000) (h : SrcAt w S ao n cap at_) :
    Calls Tryd.prog 58 #[.pointer (some ⟨S, 0, none⟩)] w (NextPost S n cap at_ ao w) := by
  obtain ⟨⟨seed, hblk, hs0, hs1⟩, hv⟩ := h
  obtain ⟨c0, c1, c2, f1, f2⟩ := src_cells hblk
  have HBLK := Lib.hid hblk
  have HV := Lib.hid hv
  clear hblk hv
  by_cases hlt : at_ < n
  · have e1 : decide (at_ < n) = true := by simpa using hlt
    obtain ⟨b, off, rfl, hb, hcs⟩ := HV.out.resolve_left (by omega)
    obtain ⟨c, hc, hc0, hc1⟩ := hcs at_ hlt
    have hlt2 : (at_ : Int) < (n : Int) := by omega
    have e2 : decide (at_ + 1 ≤ n) = true := by simp; omega
    clear hcs
    go_enter Tryd.func58, Tryd.ntmps58
    go_wp2
    go_quiet (fail)
    go_wp2
    go_quiet (fail)
    go_wp2
    go_quiet (fail)
    go_wp2
    go_ret
    exact ⟨⟨c, hc0, hc1, rfl⟩, src_next HBLK.out HV.out (wrapU2 _) rfl rfl rfl rfl⟩
  · have e1 : decide (at_ < n) = false := by simpa using hlt
    have e2 : decide (at_ + 1 ≤ n) = false := by simp; omega
    go_enter Tryd.func58, Tryd.ntmps58
    go_wp2
    go_quiet (fail)
    go_wp2
    go_quiet (fail)
    go_wp2
    go_ret
    have hw := wrapU2 (IntKind.u64.wrap (IntKind.u64.wrap (seed * 6364136223846793005)) + 1442695040888963407)
    have ha := and255 (IntKind.u64.wrap (IntKind.u64.wrap (IntKind.u64.wrap (seed * 6364136223846793005)) + 1442695040888963407) / 1099511627776) (by omega) (by omega)
    exact ⟨⟨_, ha.1, ha.2, ret_int (IntWalk.wrap64_in _ (by omega))⟩, src_next HBLK.out HV.out (wrapU2 _) rfl rfl rfl rfl⟩

def PickPost (S n cap at_ : Nat) (m : Int) (ao : Option Addr) (w : World) (e : Ending) (w' : World) : Prop := (∃ x : Int, 0 ≤ x ∧ x < m ∧ e = .returned (.int .i64 x)) ∧ SrcAt w' S ao n cap (at_ + 2) ∧ Below S w w'
set_option maxHeartbeats 1000000 in
theorem pick_any (S n cap at_ : Nat) (m : Int) (ao : Option Addr) (w : World) (hn : n ≤ 1048576) (ha : at_ ≤ 900) (hm : 200 < m) (hm2 : m ≤ 60000) (h : SrcAt w S ao n cap at_) :
    Calls Tryd.prog 38 #[.pointer (some ⟨S, 0, none⟩), .int .i64 m] w (PickPost S n cap at_ m ao w) := by
  have HS := Lib.hid h
  clear h
  go_enter Tryd.func38, Tryd.ntmps38
  go_wp2_with fail
  refine (next_any S n cap at_ ao _ hn (by omega) HS.out).mono ?_
  rintro e w1 ⟨⟨x, hx0, hx1, rfl⟩, hs1, hb1⟩
  have HS1 := Lib.hid hs1
  have HB1 := Lib.hid hb1
  clear hs1 hb1
  go_wp2_with fail
  refine (next_any S n cap (at_ + 1) ao _ hn (by omega) HS1.out).mono ?_
  rintro e w2 ⟨⟨y, hy0, hy1, rfl⟩, hs2, hb2⟩
  have HS2 := Lib.hid hs2
  have HB2 := Lib.hid hb2
  clear hs2 hb2
  go_wp2
  go_ret
  exact ⟨⟨_, Int.emod_nonneg _ (by omega), Int.emod_lt_of_pos _ (by omega), rfl⟩, HS2.out, HB1.out.trans HB2.out⟩

theorem src_made (w : World) (ao : Option Addr) (n cap : Nat) (hv : BView w ao n) : SrcAt (w.alloc (.cells #[.slice ao n cap, .int .i64 0, .int .u64 0] 67)) w.heap.size ao n cap 0 := by
  refine ⟨⟨0, ?_, by omega, by omega⟩, ?_⟩
  · show (w.heap.push _)[w.heap.size]? = _
    simp
  · rcases hv with hv | ⟨b, off, rfl, h1, h2⟩
    · exact Or.inl hv
    · refine Or.inr ⟨b, off, rfl, h1, fun j hj => ?_⟩
      obtain ⟨c, hc, hc2⟩ := h2 j hj
      exact ⟨c, (((Below.refl w.heap.size w).alloc (Nat.le_refl _) _).cell (p := ⟨b, off + j, none⟩) h1).trans hc, hc2⟩
def NumsPost (w : World) (e : Ending) (w' : World) : Prop := (∃ a b : Int, -100000 ≤ a ∧ a ≤ 3600000000 ∧ 1 ≤ b ∧ b ≤ 5000 ∧ e = .returned (.tuple #[.int .i64 a, .int .i64 b])) ∧ Below w.heap.size w w'
theorem mul60 (x y : Int) (h0 : 0 ≤ x) (h1 : x < 60000) (h2 : 0 ≤ y) (h3 : y < 60000) : 0 ≤ x * y ∧ x * y ≤ 3600000000 := by
  refine ⟨Int.mul_nonneg h0 h2, ?_⟩
  have := Int.mul_le_mul (show x ≤ 60000 by omega) (show y ≤ 60000 by omega) h2 (by omega)
  omega
theorem from_any (ao : Option Addr) (n cap : Nat) (w : World) :
    Calls Tryd.prog 37 #[.slice ao n cap] w fun e w' => e = .returned (.pointer (some ⟨w.heap.size, 0, none⟩)) ∧ w' = w.alloc (.cells #[.slice ao n cap, .int .i64 0, .int .u64 0] 67) := by
  go_enter Tryd.func37, Tryd.ntmps37
  go_wp2
  go_ret
  exact ⟨rfl, rfl⟩
set_option maxHeartbeats 1000000 in
theorem nums_any (ao : Option Addr) (n cap : Nat) (w : World) (hn : n ≤ 1048576) (hv : BView w ao n) :
    Calls Tryd.prog 11 #[.slice ao n cap] w (NumsPost w) := by
  have hs0 := src_made w ao n cap hv
  have hb0 : Below w.heap.size w (w.alloc (.cells #[.slice ao n cap, .int .i64 0, .int .u64 0] 67)) := (Below.refl _ _).alloc (Nat.le_refl _) _
  clear hv
  go_enter Tryd.func11, Tryd.ntmps11
  go_wp2_with fail
  refine (from_any ao n cap w).mono ?_
  rintro e w0 ⟨rfl, hw0⟩
  rw [← hw0] at hs0 hb0
  have HS := Lib.hid hs0
  have HB := Lib.hid hb0
  clear hs0 hb0 hw0
  go_wp2_with fail
  refine (pick_any w.heap.size n cap 0 60000 ao _ hn (by omega) (by omega) (by omega) HS.out).mono ?_
  rintro e w1 ⟨⟨x, hx0, hx1, rfl⟩, hs1, hb1⟩
  have HS1 := Lib.hid hs1
  have HB1 := Lib.hid (HB.out.trans hb1)
  clear hs1 hb1
  go_wp2_with fail
  refine (pick_any w.heap.size n cap 2 60000 ao _ hn (by omega) (by omega) (by omega) HS1.out).mono ?_
  rintro e w2 ⟨⟨y, hy0, hy1, rfl⟩, hs2, hb2⟩
  have HS2 := Lib.hid hs2
  have HB2 := Lib.hid (HB1.out.trans hb2)
  have hm := mul60 x y hx0 hx1 hy0 hy1
  clear hs2 hb2
  go_wp2_with fail
  refine (pick_any w.heap.size n cap 4 5000 ao _ hn (by omega) (by omega) (by omega) HS2.out).mono ?_
  rintro e w3 ⟨⟨z, hz0, hz1, rfl⟩, hs3, hb3⟩
  have HB3 := Lib.hid (HB2.out.trans hb3)
  clear hs3 hb3
  go_wp2
  go_ret2
  exact ⟨⟨_, _, by omega, by omega, by omega, by omega, rfl⟩, HB3.out⟩

/-- A number that two bytes choose. -/
theorem at_any (ao : Option Addr) (n cap : Nat) (k : Int) (w : World) (_hn : n ≤ 1048576) (hk : 0 ≤ k) (hk2 : k ≤ 100) (hv : BView w ao n) :
    Calls Tryd.prog 42 #[.slice ao n cap, .int .i64 k, .int .i64 256] w fun e w' => (∃ x : Int, 0 ≤ x ∧ x ≤ 255 ∧ e = .returned (.int .i64 x)) ∧ w = w' := by
  obtain ⟨j, rfl⟩ : ∃ j : Nat, k = j := ⟨k.toNat, by omega⟩
  by_cases hlt : j < n
  · obtain ⟨b, off, rfl, hb, hcs⟩ := hv.resolve_left (by omega)
    obtain ⟨c, hc, hc0, hc1⟩ := hcs j hlt
    have e1 : decide (n ≤ j) = false := by simp; omega
    clear hcs hv
    go_enter Tryd.func42, Tryd.ntmps42
    go_wp2
    go_ret
    exact ⟨⟨_, Int.emod_nonneg _ (by omega), by have := Int.emod_lt_of_pos c (show (0 : Int) < 256 by omega); omega, rfl⟩, rfl⟩
  · have e1 : decide (n ≤ j) = true := by simp; omega
    clear hv
    go_enter Tryd.func42, Tryd.ntmps42
    go_wp2
    go_ret
    exact ⟨⟨0, by omega, by omega, rfl⟩, rfl⟩
theorem wide_any (ao : Option Addr) (n cap : Nat) (k m : Int) (w : World) (hn : n ≤ 1048576) (hk : 0 ≤ k) (hk2 : k ≤ 90) (hm : 0 < m) (hm2 : m ≤ 60000) (hv : BView w ao n) :
    Calls Tryd.prog 15 #[.slice ao n cap, .int .i64 k, .int .i64 m] w fun e w' => (∃ x : Int, 0 ≤ x ∧ x < m ∧ e = .returned (.int .i64 x)) ∧ w = w' := by
  have HV := Lib.hid hv
  clear hv
  go_enter Tryd.func15, Tryd.ntmps15
  go_wp2_with fail
  refine (at_any ao n cap k _ hn (by omega) (by omega) HV.out).mono ?_
  rintro e w1 ⟨⟨x, hx0, hx1, rfl⟩, rfl⟩
  go_wp2_with fail
  refine (at_any ao n cap (k + 1) _ hn (by omega) (by omega) HV.out).mono ?_
  rintro e w2 ⟨⟨y, hy0, hy1, rfl⟩, rfl⟩
  go_wp2
  go_ret
  exact ⟨⟨_, Int.emod_nonneg _ (by omega), Int.emod_lt_of_pos _ (by omega), rfl⟩, rfl⟩
theorem long_no (a1 a2 : Option Addr) (n1 n2 c1 c2 : Nat) (w : World) (h1 : n1 ≤ 1048576) (h2 : n2 ≤ 1048576) :
    Calls Tryd.prog 10 #[.slice a1 n1 c1, .slice a2 n2 c2] w fun e w' => e = .returned (.bool false) ∧ w = w' := by
  have e1 : decide (1048576 < (n1 : Int)) = false := by simp; omega
  have e2 : decide (1048576 < (n2 : Int)) = false := by simp; omega
  go_enter Tryd.func10, Tryd.ntmps10
  go_wp2
  go_ret
  exact ⟨rfl, rfl⟩
theorem long_yes (a1 a2 : Option Addr) (n1 n2 c1 c2 : Nat) (w : World) (m1 : n1 ≤ 9223372036854775807) (m2 : n2 ≤ 9223372036854775807) (h : ¬ (n1 ≤ 1048576 ∧ n2 ≤ 1048576)) :
    Calls Tryd.prog 10 #[.slice a1 n1 c1, .slice a2 n2 c2] w fun e w' => e = .returned (.bool true) ∧ w = w' := by
  by_cases h1 : n1 ≤ 1048576
  · have e1 : decide (1048576 < (n1 : Int)) = false := by simp; omega
    have e2 : decide (1048576 < (n2 : Int)) = true := by simp; omega
    go_enter Tryd.func10, Tryd.ntmps10
    go_wp2
    go_ret
    exact ⟨rfl, rfl⟩
  · have e1 : decide (1048576 < (n1 : Int)) = true := by simp; omega
    go_enter Tryd.func10, Tryd.ntmps10
    go_wp2
    go_ret
    exact ⟨rfl, rfl⟩
theorem abs_any (n : Int) (w : World) (h1 : -100000000000000 ≤ n) (h2 : n ≤ 100000000000000) :
    Calls Tryd.prog 14 #[.int .i64 n] w fun e w' => e = .returned (.int .i64 (max n (-n))) ∧ w = w' := by
  go_enter Tryd.func14, Tryd.ntmps14
  go_wp2
  all_goals
    go_ret
    exact ⟨ret_int (by omega), rfl⟩
end Go.Proofs.YtglbbpcdodlnmaaDoor
