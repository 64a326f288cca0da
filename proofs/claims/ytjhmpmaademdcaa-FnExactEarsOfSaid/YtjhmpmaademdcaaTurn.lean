/- Turns of impl and of spec: what one turn does to a point. -/
import Derived.Test.YtjhmpmaademdcaaTurnMath
import Derived.Test.YtjhmpmaademdcaaK1
import Derived.Test.YtjhmpmaademdcaaPlan
import Derived.LoopTactic
namespace Go.Proofs.Ytjhmpmaademdcaa
open Go.ChangeShapes Go.WideShapes Go.ChangeAt Go.RowKit
set_option linter.unusedVariables false

/-- The world in the loop of l02Turned: the point and the result lie in two blocks of the call's own. -/
structure TAt (w wr : World) (x y : Int) : Prop where
  below : Below w.heap.size w wr
  pt : wr.heap[w.heap.size]? = some (.cells #[.int .i64 x, .int .i64 y] 30 (0, 0))
  res : wr.heap[w.heap.size + 1]? = some (.cells #[.int .i64 0, .int .i64 0] 30 (0, 0))
theorem TAt.step {w wr : World} {x y a b : Int} (h : TAt w wr x y) : TAt w ((wr.setCell ⟨w.heap.size, 0, none⟩ (.int .i64 a)).setCell ⟨w.heap.size, 1, none⟩ (.int .i64 b)) a b := by
  have hs := stored2 (x0 := .int .i64 a) (x1 := .int .i64 b) h.pt
  exact ⟨(h.below.setCell (Nat.le_refl _) _).setCell (Nat.le_refl _) _, hs.here, by rw [hs.there _ (by omega)]; exact h.res⟩
theorem TAt.start (w : World) (x y : Int) : TAt w ((w.alloc (.cells #[.int .i64 x, .int .i64 y] 30)).alloc (.cells #[.int .i64 0, .int .i64 0] 30)) x y := by
  have h1 := madeAt_alloc w (.cells #[.int .i64 x, .int .i64 y] 30)
  have h2 := madeAt_alloc (w.alloc (.cells #[.int .i64 x, .int .i64 y] 30)) (.cells #[.int .i64 0, .int .i64 0] 30)
  refine ⟨two_allocs _ _, ?_, ?_⟩
  · rw [h2.below.block _ h1.high]; exact h1.here
  · have := h2.here
    simpa using this
def rotX (n : Nat) (x y : Int) : Int := match n with | 0 => x | 1 => -y | 2 => -x | _ => y
def rotY (n : Nat) (x y : Int) : Int := match n with | 0 => y | 1 => x | 2 => -y | _ => -x
set_option maxHeartbeats 1000000 in
theorem l02Turned0 (x y : Int) (w : World) (hx : -20000 ≤ x ∧ x ≤ 20000) (hy : -20000 ≤ y ∧ y ≤ 20000) : Calls Try.prog 192 #[.agg #[.int .i64 x, .int .i64 y], .int .i64 0] w fun e w' => e = .returned (.agg #[.int .i64 (x), .int .i64 (y)]) ∧ Below w.heap.size w w' := by
  have hst := Lib.hid (TAt.start w (x) (y))
  go_enter Try.func192, Try.ntmps192
  go_wp2
  go_loopw [5] (fun i wr => ∃ (n : Nat) (a b : Int), n ≤ 0 ∧ i = .int .i64 n ∧ (-20000 ≤ a ∧ a ≤ 20000) ∧ (-20000 ≤ b ∧ b ≤ 20000) ∧ Hid (rotX n a b = x ∧ rotY n a b = y) ∧ Hid (TAt w wr a b)) (fun i _ => (intOf i).toNat)
  case atStart => exact ⟨0, x, y, by omega, rfl, by omega, by omega, Lib.hid ⟨by simp [rotX], by simp [rotY]⟩, hst⟩
  case round =>
    obtain ⟨n, a, b, hn0, rfl, ha, hb, hr, ht⟩ := hrel
    rcases (show n = 0 by omega) with hn
    · obtain rfl : n = 0 := by omega
      have HR := Lib.hid (show a = x ∧ b = y from hr.out)
      obtain ⟨c0, f0, c1, f1⟩ := cells2_of ht.out.pt
      obtain ⟨c2, f2, c3, f3⟩ := cells2_of ht.out.res
      go_wp2
      exact bodyPost_ret (v := .agg #[.int .i64 a, .int .i64 b]) (by simp [results, Try.results192, go_sem, c2, c3]) rfl ⟨by rw [HR.out.1, HR.out.2], (ht.out.below.setCell (by simp) _).setCell (by simp) _⟩
set_option maxHeartbeats 1000000 in
theorem l02Turned1 (x y : Int) (w : World) (hx : -20000 ≤ x ∧ x ≤ 20000) (hy : -20000 ≤ y ∧ y ≤ 20000) : Calls Try.prog 192 #[.agg #[.int .i64 x, .int .i64 y], .int .i64 1] w fun e w' => e = .returned (.agg #[.int .i64 (-y), .int .i64 (x)]) ∧ Below w.heap.size w w' := by
  have hst := Lib.hid (TAt.start w (x) (y))
  go_enter Try.func192, Try.ntmps192
  go_wp2
  go_loopw [5] (fun i wr => ∃ (n : Nat) (a b : Int), n ≤ 1 ∧ i = .int .i64 n ∧ (-20000 ≤ a ∧ a ≤ 20000) ∧ (-20000 ≤ b ∧ b ≤ 20000) ∧ Hid (rotX n a b = -y ∧ rotY n a b = x) ∧ Hid (TAt w wr a b)) (fun i _ => (intOf i).toNat)
  case atStart => exact ⟨1, x, y, by omega, rfl, by omega, by omega, Lib.hid ⟨by simp [rotX], by simp [rotY]⟩, hst⟩
  case round =>
    obtain ⟨n, a, b, hn0, rfl, ha, hb, hr, ht⟩ := hrel
    rcases (show n = 1 ∨ n = 0 by omega) with hn | hn
    · obtain rfl : n = 1 := by omega
      obtain ⟨c0, f0, c1, f1⟩ := cells2_of ht.out.pt
      go_wp2
      go_roundw
      case rel => exact ⟨0, -b, a, by omega, rfl, by omega, by omega, Lib.hid ⟨by have := hr.out.1; simp [rotX] at this ⊢; omega, by have := hr.out.2; simp [rotY] at this ⊢; omega⟩, Lib.hid ht.out.step⟩
      case measure => simp [intOf]
    · obtain rfl : n = 0 := by omega
      have HR := Lib.hid (show a = -y ∧ b = x from hr.out)
      obtain ⟨c0, f0, c1, f1⟩ := cells2_of ht.out.pt
      obtain ⟨c2, f2, c3, f3⟩ := cells2_of ht.out.res
      go_wp2
      exact bodyPost_ret (v := .agg #[.int .i64 a, .int .i64 b]) (by simp [results, Try.results192, go_sem, c2, c3]) rfl ⟨by rw [HR.out.1, HR.out.2], (ht.out.below.setCell (by simp) _).setCell (by simp) _⟩
set_option maxHeartbeats 1000000 in
theorem l02Turned2 (x y : Int) (w : World) (hx : -20000 ≤ x ∧ x ≤ 20000) (hy : -20000 ≤ y ∧ y ≤ 20000) : Calls Try.prog 192 #[.agg #[.int .i64 x, .int .i64 y], .int .i64 2] w fun e w' => e = .returned (.agg #[.int .i64 (-x), .int .i64 (-y)]) ∧ Below w.heap.size w w' := by
  have hst := Lib.hid (TAt.start w (x) (y))
  go_enter Try.func192, Try.ntmps192
  go_wp2
  go_loopw [5] (fun i wr => ∃ (n : Nat) (a b : Int), n ≤ 2 ∧ i = .int .i64 n ∧ (-20000 ≤ a ∧ a ≤ 20000) ∧ (-20000 ≤ b ∧ b ≤ 20000) ∧ Hid (rotX n a b = -x ∧ rotY n a b = -y) ∧ Hid (TAt w wr a b)) (fun i _ => (intOf i).toNat)
  case atStart => exact ⟨2, x, y, by omega, rfl, by omega, by omega, Lib.hid ⟨by simp [rotX], by simp [rotY]⟩, hst⟩
  case round =>
    obtain ⟨n, a, b, hn0, rfl, ha, hb, hr, ht⟩ := hrel
    rcases (show n = 2 ∨ n = 1 ∨ n = 0 by omega) with hn | hn | hn
    · obtain rfl : n = 2 := by omega
      obtain ⟨c0, f0, c1, f1⟩ := cells2_of ht.out.pt
      go_wp2
      go_roundw
      case rel => exact ⟨1, -b, a, by omega, rfl, by omega, by omega, Lib.hid ⟨by have := hr.out.1; simp [rotX] at this ⊢; omega, by have := hr.out.2; simp [rotY] at this ⊢; omega⟩, Lib.hid ht.out.step⟩
      case measure => simp [intOf]
    · obtain rfl : n = 1 := by omega
      obtain ⟨c0, f0, c1, f1⟩ := cells2_of ht.out.pt
      go_wp2
      go_roundw
      case rel => exact ⟨0, -b, a, by omega, rfl, by omega, by omega, Lib.hid ⟨by have := hr.out.1; simp [rotX] at this ⊢; omega, by have := hr.out.2; simp [rotY] at this ⊢; omega⟩, Lib.hid ht.out.step⟩
      case measure => simp [intOf]
    · obtain rfl : n = 0 := by omega
      have HR := Lib.hid (show a = -x ∧ b = -y from hr.out)
      obtain ⟨c0, f0, c1, f1⟩ := cells2_of ht.out.pt
      obtain ⟨c2, f2, c3, f3⟩ := cells2_of ht.out.res
      go_wp2
      exact bodyPost_ret (v := .agg #[.int .i64 a, .int .i64 b]) (by simp [results, Try.results192, go_sem, c2, c3]) rfl ⟨by rw [HR.out.1, HR.out.2], (ht.out.below.setCell (by simp) _).setCell (by simp) _⟩
set_option maxHeartbeats 1000000 in
theorem l02Turned3 (x y : Int) (w : World) (hx : -20000 ≤ x ∧ x ≤ 20000) (hy : -20000 ≤ y ∧ y ≤ 20000) : Calls Try.prog 192 #[.agg #[.int .i64 x, .int .i64 y], .int .i64 3] w fun e w' => e = .returned (.agg #[.int .i64 (y), .int .i64 (-x)]) ∧ Below w.heap.size w w' := by
  have hst := Lib.hid (TAt.start w (x) (y))
  go_enter Try.func192, Try.ntmps192
  go_wp2
  go_loopw [5] (fun i wr => ∃ (n : Nat) (a b : Int), n ≤ 3 ∧ i = .int .i64 n ∧ (-20000 ≤ a ∧ a ≤ 20000) ∧ (-20000 ≤ b ∧ b ≤ 20000) ∧ Hid (rotX n a b = y ∧ rotY n a b = -x) ∧ Hid (TAt w wr a b)) (fun i _ => (intOf i).toNat)
  case atStart => exact ⟨3, x, y, by omega, rfl, by omega, by omega, Lib.hid ⟨by simp [rotX], by simp [rotY]⟩, hst⟩
  case round =>
    obtain ⟨n, a, b, hn0, rfl, ha, hb, hr, ht⟩ := hrel
    rcases (show n = 3 ∨ n = 2 ∨ n = 1 ∨ n = 0 by omega) with hn | hn | hn | hn
    · obtain rfl : n = 3 := by omega
      obtain ⟨c0, f0, c1, f1⟩ := cells2_of ht.out.pt
      go_wp2
      go_roundw
      case rel => exact ⟨2, -b, a, by omega, rfl, by omega, by omega, Lib.hid ⟨by have := hr.out.1; simp [rotX] at this ⊢; omega, by have := hr.out.2; simp [rotY] at this ⊢; omega⟩, Lib.hid ht.out.step⟩
      case measure => simp [intOf]
    · obtain rfl : n = 2 := by omega
      obtain ⟨c0, f0, c1, f1⟩ := cells2_of ht.out.pt
      go_wp2
      go_roundw
      case rel => exact ⟨1, -b, a, by omega, rfl, by omega, by omega, Lib.hid ⟨by have := hr.out.1; simp [rotX] at this ⊢; omega, by have := hr.out.2; simp [rotY] at this ⊢; omega⟩, Lib.hid ht.out.step⟩
      case measure => simp [intOf]
    · obtain rfl : n = 1 := by omega
      obtain ⟨c0, f0, c1, f1⟩ := cells2_of ht.out.pt
      go_wp2
      go_roundw
      case rel => exact ⟨0, -b, a, by omega, rfl, by omega, by omega, Lib.hid ⟨by have := hr.out.1; simp [rotX] at this ⊢; omega, by have := hr.out.2; simp [rotY] at this ⊢; omega⟩, Lib.hid ht.out.step⟩
      case measure => simp [intOf]
    · obtain rfl : n = 0 := by omega
      have HR := Lib.hid (show a = y ∧ b = -x from hr.out)
      obtain ⟨c0, f0, c1, f1⟩ := cells2_of ht.out.pt
      obtain ⟨c2, f2, c3, f3⟩ := cells2_of ht.out.res
      go_wp2
      exact bodyPost_ret (v := .agg #[.int .i64 a, .int .i64 b]) (by simp [results, Try.results192, go_sem, c2, c3]) rfl ⟨by rw [HR.out.1, HR.out.2], (ht.out.below.setCell (by simp) _).setCell (by simp) _⟩
set_option maxHeartbeats 1000000 in
theorem l02Turned4 (x y : Int) (w : World) (hx : -20000 ≤ x ∧ x ≤ 20000) (hy : -20000 ≤ y ∧ y ≤ 20000) : Calls Try.prog 192 #[.agg #[.int .i64 x, .int .i64 y], .int .i64 4] w fun e w' => e = .returned (.agg #[.int .i64 (-x), .int .i64 (y)]) ∧ Below w.heap.size w w' := by
  have hst := Lib.hid (TAt.start w (-x) (y))
  go_enter Try.func192, Try.ntmps192
  go_wp2
  go_loopw [5] (fun i wr => ∃ (n : Nat) (a b : Int), n ≤ 0 ∧ i = .int .i64 n ∧ (-20000 ≤ a ∧ a ≤ 20000) ∧ (-20000 ≤ b ∧ b ≤ 20000) ∧ Hid (rotX n a b = -x ∧ rotY n a b = y) ∧ Hid (TAt w wr a b)) (fun i _ => (intOf i).toNat)
  case atStart => exact ⟨0, -x, y, by omega, rfl, by omega, by omega, Lib.hid ⟨by simp [rotX], by simp [rotY]⟩, hst⟩
  case round =>
    obtain ⟨n, a, b, hn0, rfl, ha, hb, hr, ht⟩ := hrel
    rcases (show n = 0 by omega) with hn
    · obtain rfl : n = 0 := by omega
      have HR := Lib.hid (show a = -x ∧ b = y from hr.out)
      obtain ⟨c0, f0, c1, f1⟩ := cells2_of ht.out.pt
      obtain ⟨c2, f2, c3, f3⟩ := cells2_of ht.out.res
      go_wp2
      exact bodyPost_ret (v := .agg #[.int .i64 a, .int .i64 b]) (by simp [results, Try.results192, go_sem, c2, c3]) rfl ⟨by rw [HR.out.1, HR.out.2], (ht.out.below.setCell (by simp) _).setCell (by simp) _⟩
set_option maxHeartbeats 1000000 in
theorem l02Turned5 (x y : Int) (w : World) (hx : -20000 ≤ x ∧ x ≤ 20000) (hy : -20000 ≤ y ∧ y ≤ 20000) : Calls Try.prog 192 #[.agg #[.int .i64 x, .int .i64 y], .int .i64 5] w fun e w' => e = .returned (.agg #[.int .i64 (-y), .int .i64 (-x)]) ∧ Below w.heap.size w w' := by
  have hst := Lib.hid (TAt.start w (-x) (y))
  go_enter Try.func192, Try.ntmps192
  go_wp2
  go_loopw [5] (fun i wr => ∃ (n : Nat) (a b : Int), n ≤ 1 ∧ i = .int .i64 n ∧ (-20000 ≤ a ∧ a ≤ 20000) ∧ (-20000 ≤ b ∧ b ≤ 20000) ∧ Hid (rotX n a b = -y ∧ rotY n a b = -x) ∧ Hid (TAt w wr a b)) (fun i _ => (intOf i).toNat)
  case atStart => exact ⟨1, -x, y, by omega, rfl, by omega, by omega, Lib.hid ⟨by simp [rotX], by simp [rotY]⟩, hst⟩
  case round =>
    obtain ⟨n, a, b, hn0, rfl, ha, hb, hr, ht⟩ := hrel
    rcases (show n = 1 ∨ n = 0 by omega) with hn | hn
    · obtain rfl : n = 1 := by omega
      obtain ⟨c0, f0, c1, f1⟩ := cells2_of ht.out.pt
      go_wp2
      go_roundw
      case rel => exact ⟨0, -b, a, by omega, rfl, by omega, by omega, Lib.hid ⟨by have := hr.out.1; simp [rotX] at this ⊢; omega, by have := hr.out.2; simp [rotY] at this ⊢; omega⟩, Lib.hid ht.out.step⟩
      case measure => simp [intOf]
    · obtain rfl : n = 0 := by omega
      have HR := Lib.hid (show a = -y ∧ b = -x from hr.out)
      obtain ⟨c0, f0, c1, f1⟩ := cells2_of ht.out.pt
      obtain ⟨c2, f2, c3, f3⟩ := cells2_of ht.out.res
      go_wp2
      exact bodyPost_ret (v := .agg #[.int .i64 a, .int .i64 b]) (by simp [results, Try.results192, go_sem, c2, c3]) rfl ⟨by rw [HR.out.1, HR.out.2], (ht.out.below.setCell (by simp) _).setCell (by simp) _⟩
set_option maxHeartbeats 1000000 in
theorem l02Turned6 (x y : Int) (w : World) (hx : -20000 ≤ x ∧ x ≤ 20000) (hy : -20000 ≤ y ∧ y ≤ 20000) : Calls Try.prog 192 #[.agg #[.int .i64 x, .int .i64 y], .int .i64 6] w fun e w' => e = .returned (.agg #[.int .i64 (x), .int .i64 (-y)]) ∧ Below w.heap.size w w' := by
  have hst := Lib.hid (TAt.start w (-x) (y))
  go_enter Try.func192, Try.ntmps192
  go_wp2
  go_loopw [5] (fun i wr => ∃ (n : Nat) (a b : Int), n ≤ 2 ∧ i = .int .i64 n ∧ (-20000 ≤ a ∧ a ≤ 20000) ∧ (-20000 ≤ b ∧ b ≤ 20000) ∧ Hid (rotX n a b = x ∧ rotY n a b = -y) ∧ Hid (TAt w wr a b)) (fun i _ => (intOf i).toNat)
  case atStart => exact ⟨2, -x, y, by omega, rfl, by omega, by omega, Lib.hid ⟨by simp [rotX], by simp [rotY]⟩, hst⟩
  case round =>
    obtain ⟨n, a, b, hn0, rfl, ha, hb, hr, ht⟩ := hrel
    rcases (show n = 2 ∨ n = 1 ∨ n = 0 by omega) with hn | hn | hn
    · obtain rfl : n = 2 := by omega
      obtain ⟨c0, f0, c1, f1⟩ := cells2_of ht.out.pt
      go_wp2
      go_roundw
      case rel => exact ⟨1, -b, a, by omega, rfl, by omega, by omega, Lib.hid ⟨by have := hr.out.1; simp [rotX] at this ⊢; omega, by have := hr.out.2; simp [rotY] at this ⊢; omega⟩, Lib.hid ht.out.step⟩
      case measure => simp [intOf]
    · obtain rfl : n = 1 := by omega
      obtain ⟨c0, f0, c1, f1⟩ := cells2_of ht.out.pt
      go_wp2
      go_roundw
      case rel => exact ⟨0, -b, a, by omega, rfl, by omega, by omega, Lib.hid ⟨by have := hr.out.1; simp [rotX] at this ⊢; omega, by have := hr.out.2; simp [rotY] at this ⊢; omega⟩, Lib.hid ht.out.step⟩
      case measure => simp [intOf]
    · obtain rfl : n = 0 := by omega
      have HR := Lib.hid (show a = x ∧ b = -y from hr.out)
      obtain ⟨c0, f0, c1, f1⟩ := cells2_of ht.out.pt
      obtain ⟨c2, f2, c3, f3⟩ := cells2_of ht.out.res
      go_wp2
      exact bodyPost_ret (v := .agg #[.int .i64 a, .int .i64 b]) (by simp [results, Try.results192, go_sem, c2, c3]) rfl ⟨by rw [HR.out.1, HR.out.2], (ht.out.below.setCell (by simp) _).setCell (by simp) _⟩
set_option maxHeartbeats 1000000 in
theorem l02Turned7 (x y : Int) (w : World) (hx : -20000 ≤ x ∧ x ≤ 20000) (hy : -20000 ≤ y ∧ y ≤ 20000) : Calls Try.prog 192 #[.agg #[.int .i64 x, .int .i64 y], .int .i64 7] w fun e w' => e = .returned (.agg #[.int .i64 (y), .int .i64 (x)]) ∧ Below w.heap.size w w' := by
  have hst := Lib.hid (TAt.start w (-x) (y))
  go_enter Try.func192, Try.ntmps192
  go_wp2
  go_loopw [5] (fun i wr => ∃ (n : Nat) (a b : Int), n ≤ 3 ∧ i = .int .i64 n ∧ (-20000 ≤ a ∧ a ≤ 20000) ∧ (-20000 ≤ b ∧ b ≤ 20000) ∧ Hid (rotX n a b = y ∧ rotY n a b = x) ∧ Hid (TAt w wr a b)) (fun i _ => (intOf i).toNat)
  case atStart => exact ⟨3, -x, y, by omega, rfl, by omega, by omega, Lib.hid ⟨by simp [rotX], by simp [rotY]⟩, hst⟩
  case round =>
    obtain ⟨n, a, b, hn0, rfl, ha, hb, hr, ht⟩ := hrel
    rcases (show n = 3 ∨ n = 2 ∨ n = 1 ∨ n = 0 by omega) with hn | hn | hn | hn
    · obtain rfl : n = 3 := by omega
      obtain ⟨c0, f0, c1, f1⟩ := cells2_of ht.out.pt
      go_wp2
      go_roundw
      case rel => exact ⟨2, -b, a, by omega, rfl, by omega, by omega, Lib.hid ⟨by have := hr.out.1; simp [rotX] at this ⊢; omega, by have := hr.out.2; simp [rotY] at this ⊢; omega⟩, Lib.hid ht.out.step⟩
      case measure => simp [intOf]
    · obtain rfl : n = 2 := by omega
      obtain ⟨c0, f0, c1, f1⟩ := cells2_of ht.out.pt
      go_wp2
      go_roundw
      case rel => exact ⟨1, -b, a, by omega, rfl, by omega, by omega, Lib.hid ⟨by have := hr.out.1; simp [rotX] at this ⊢; omega, by have := hr.out.2; simp [rotY] at this ⊢; omega⟩, Lib.hid ht.out.step⟩
      case measure => simp [intOf]
    · obtain rfl : n = 1 := by omega
      obtain ⟨c0, f0, c1, f1⟩ := cells2_of ht.out.pt
      go_wp2
      go_roundw
      case rel => exact ⟨0, -b, a, by omega, rfl, by omega, by omega, Lib.hid ⟨by have := hr.out.1; simp [rotX] at this ⊢; omega, by have := hr.out.2; simp [rotY] at this ⊢; omega⟩, Lib.hid ht.out.step⟩
      case measure => simp [intOf]
    · obtain rfl : n = 0 := by omega
      have HR := Lib.hid (show a = y ∧ b = x from hr.out)
      obtain ⟨c0, f0, c1, f1⟩ := cells2_of ht.out.pt
      obtain ⟨c2, f2, c3, f3⟩ := cells2_of ht.out.res
      go_wp2
      exact bodyPost_ret (v := .agg #[.int .i64 a, .int .i64 b]) (by simp [results, Try.results192, go_sem, c2, c3]) rfl ⟨by rw [HR.out.1, HR.out.2], (ht.out.below.setCell (by simp) _).setCell (by simp) _⟩
theorem l02Turned (x y t : Int) (w : World) (hx : -20000 ≤ x ∧ x ≤ 20000) (hy : -20000 ≤ y ∧ y ≤ 20000) (h0 : 0 ≤ t) (h1 : t ≤ 7) : Calls Try.prog 192 #[.agg #[.int .i64 x, .int .i64 y], .int .i64 t] w fun e w' => e = .returned (.agg #[.int .i64 (tuX t x y), .int .i64 (tuY t x y)]) ∧ Below w.heap.size w w' := by
  rcases (show t = 0 ∨ t = 1 ∨ t = 2 ∨ t = 3 ∨ t = 4 ∨ t = 5 ∨ t = 6 ∨ t = 7 by omega) with rfl | rfl | rfl | rfl | rfl | rfl | rfl | rfl
  · exact l02Turned0 x y w hx hy
  · exact l02Turned1 x y w hx hy
  · exact l02Turned2 x y w hx hy
  · exact l02Turned3 x y w hx hy
  · exact l02Turned4 x y w hx hy
  · exact l02Turned5 x y w hx hy
  · exact l02Turned6 x y w hx hy
  · exact l02Turned7 x y w hx hy
end Go.Proofs.Ytjhmpmaademdcaa
