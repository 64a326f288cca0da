/- Segments of impl that touch. -/
import Derived.Test.YtcbbhpabiijpoaaSegCross
namespace Go.Proofs.Ytcbbhpabiijpoaa
open Go.ChangeShapes Go.WideShapes Go.ChangeAt Go.RowKit

def EndsPost (xa ya xb yb : Int) (w : World) (e : Ending) (w2 : World) : Prop := ∃ p, e = .returned (.slice (some ⟨p, 0, none⟩) 2 2) ∧ MadeAt w w2 p (.cells #[.int .i64 xa, .int .i64 ya, .int .i64 xb, .int .i64 yb] 25 (0, 0))
theorem ends_any (xa ya xb yb : Int) (w : World) : Calls Try.prog 92 #[.agg #[.int .i64 xa, .int .i64 ya, .int .i64 xb, .int .i64 yb]] w (EndsPost xa ya xb yb w) := by
  go_enter Try.func92, Try.ntmps92
  go_wp2
  go_ret
  exact ⟨w.heap.size + 1, rfl, by have := madeAt_after (one_alloc (w := w) (.cells #[.int .i64 xa, .int .i64 ya, .int .i64 xb, .int .i64 yb] 68 (0, 0))) (madeAt_alloc _ (.cells #[.int .i64 xa, .int .i64 ya, .int .i64 xb, .int .i64 yb] 25 (0, 0))); simpa using this⟩
def firstI (b c : Bool) : Int := if b then 0 else if c then 1 else -1
def IxInv (b c : Bool) (k : Nat) : Prop := (0 < k → b = false) ∧ (1 < k → c = false)
theorem ix_end (b c : Bool) (k : Nat) (h : IxInv b c k) (hk : ¬ k < 2) : (-1 : Int) = firstI b c := by
  rw [h.1 (by omega), h.2 (by omega)]; rfl
set_option maxHeartbeats 1000000 in
theorem index_any (xa ya xb yb xc yc xd yd : Int) (p : Nat) (w : World) (ha : okI xa ya = true) (hb : okI xb yb = true) (hc : okI xc yc = true) (hd : okI xd yd = true) (hp : p < w.heap.size) (c0 : w.cell? ⟨p, 0, none⟩ = some (.int .i64 xa)) (c1 : w.cell? ⟨p, 1, none⟩ = some (.int .i64 ya)) (c2 : w.cell? ⟨p, 2, none⟩ = some (.int .i64 xb)) (c3 : w.cell? ⟨p, 3, none⟩ = some (.int .i64 yb)) :
    Calls Try.prog 121 #[.slice (some ⟨p, 0, none⟩) 2 2, .func (.func 56) #[.agg #[.int .i64 xc, .int .i64 yc, .int .i64 xd, .int .i64 yd]] #[]] w fun e w' => e = .returned (.int .i64 (firstI (onB xc yc xd yd xa ya) (onB xc yc xd yd xb yb))) ∧ Below w.heap.size w w' := by
  have HA := Lib.hid ha
  have HB := Lib.hid hb
  have HC := Lib.hid hc
  have HD := Lib.hid hd
  clear ha hb hc hd
  have HC4 := Lib.hid (And.intro c0 (And.intro c1 (And.intro c2 c3)))
  clear c0 c1 c2 c3
  go_enter Try.func121, Try.ntmps121
  go_wp2
  go_loopw [8] (fun i wr => ∃ k : Nat, k ≤ 2 ∧ i = .int .i64 k ∧ Hid (IxInv (onB xc yc xd yd xa ya) (onB xc yc xd yd xb yb) k) ∧ Hid (Below w.heap.size w wr)) (fun i _ => 2 - (intOf i).toNat)
  case atStart => exact ⟨0, by omega, rfl, Lib.hid ⟨fun h => absurd h (by omega), fun h => absurd h (by omega)⟩, Lib.hid (Below.refl _ _)⟩
  case round =>
    obtain ⟨k, hk, rfl, hi, hb⟩ := hrel
    by_cases hlt : k < 2
    · obtain ⟨b1, b2⟩ := bcell hb.out
      have c0 := (b1 p 0 hp).trans HC4.out.1
      have c1 := (b1 p 1 hp).trans HC4.out.2.1
      have c2 := (b1 p 2 hp).trans HC4.out.2.2.1
      have c3 := (b1 p 3 hp).trans HC4.out.2.2.2
      clear b1 b2
      match k, hlt with
      | 0, _ =>
        cases ho : onB xc yc xd yd xa ya
        · go_wp2_with fail
          refine (contains_any _ _ _ _ _ _ _ HC.out HD.out HA.out).mono ?_
          rintro e w1 ⟨rfl, g1⟩
          have HW1 := Lib.hid g1
          clear g1
          go_wp2
          go_roundw
          case rel => exact ⟨1, by omega, rfl, Lib.hid ⟨fun _ => rfl, fun h => absurd h (by omega)⟩, Lib.hid (bseq hb.out HW1.out)⟩
          case measure => simp [intOf]
        · go_wp2_with fail
          refine (contains_any _ _ _ _ _ _ _ HC.out HD.out HA.out).mono ?_
          rintro e w1 ⟨rfl, g1⟩
          have HW1 := Lib.hid g1
          clear g1
          go_wp2
          go_ret
          exact ⟨ret_int (by rw [ho]; rfl), bseq hb.out HW1.out⟩
      | 1, _ =>
        have h0 := hi.out.1 (by omega)
        cases ho : onB xc yc xd yd xb yb
        · go_wp2_with fail
          refine (contains_any _ _ _ _ _ _ _ HC.out HD.out HB.out).mono ?_
          rintro e w1 ⟨rfl, g1⟩
          have HW1 := Lib.hid g1
          clear g1
          go_wp2
          go_roundw
          case rel => exact ⟨2, by omega, rfl, Lib.hid ⟨fun _ => h0, fun _ => rfl⟩, Lib.hid (bseq hb.out HW1.out)⟩
          case measure => simp [intOf]
        · go_wp2_with fail
          refine (contains_any _ _ _ _ _ _ _ HC.out HD.out HB.out).mono ?_
          rintro e w1 ⟨rfl, g1⟩
          have HW1 := Lib.hid g1
          clear g1
          go_wp2
          go_ret
          exact ⟨ret_int (by rw [h0, ho]; rfl), bseq hb.out HW1.out⟩
    · go_wp2
      go_ret
      exact ⟨ret_int (ix_end _ _ k hi.out hlt), hb.out⟩
theorem first_ge (b c : Bool) : decide (0 ≤ firstI b c) = (b || c) := by cases b <;> cases c <;> rfl
theorem first_rng (b c : Bool) : -1 ≤ firstI b c ∧ firstI b c ≤ 1 := by cases b <;> cases c <;> decide
theorem has_any (xa ya xb yb xc yc xd yd : Int) (p : Nat) (w : World) (ha : okI xa ya = true) (hb : okI xb yb = true) (hc : okI xc yc = true) (hd : okI xd yd = true) (hp : p < w.heap.size) (c0 : w.cell? ⟨p, 0, none⟩ = some (.int .i64 xa)) (c1 : w.cell? ⟨p, 1, none⟩ = some (.int .i64 ya)) (c2 : w.cell? ⟨p, 2, none⟩ = some (.int .i64 xb)) (c3 : w.cell? ⟨p, 3, none⟩ = some (.int .i64 yb)) :
    Calls Try.prog 91 #[.slice (some ⟨p, 0, none⟩) 2 2, .func (.func 56) #[.agg #[.int .i64 xc, .int .i64 yc, .int .i64 xd, .int .i64 yd]] #[]] w fun e w' => e = .returned (.bool (onB xc yc xd yd xa ya || onB xc yc xd yd xb yb)) ∧ Below w.heap.size w w' := by
  rw [← first_ge]
  have hx := index_any xa ya xb yb xc yc xd yd p w ha hb hc hd hp c0 c1 c2 c3
  have HX := Lib.hid hx
  clear hx c0 c1 c2 c3
  go_enter Try.func91, Try.ntmps91
  go_wp2_with fail
  refine HX.out.mono ?_
  rintro e w1 ⟨rfl, g1⟩
  have HW1 := Lib.hid g1
  clear g1
  go_wp2
  go_ret
  exact ⟨rfl, HW1.out⟩
end Go.Proofs.Ytcbbhpabiijpoaa
