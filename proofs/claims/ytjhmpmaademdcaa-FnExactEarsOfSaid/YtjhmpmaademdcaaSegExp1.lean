/- Exported functions of chapter 2 over points: sides and points on segments, in spec and in impl. -/
import Derived.Test.YtjhmpmaademdcaaSegVal
import Derived.Test.YtjhmpmaademdcaaK1
import Derived.Test.YtjhmpmaademdcaaSegCont
namespace Go.Proofs.Ytjhmpmaademdcaa
open Go.ChangeShapes Go.WideShapes Go.ChangeAt Go.RowKit

theorem four_no (xa ya xb yb xc yc xd yd : Int) (w : World) (h : ok4 xa ya xb yb xc yc xd yd = false) : Calls Try.prog 80 #[.agg #[.int .i64 xa, .int .i64 ya], .agg #[.int .i64 xb, .int .i64 yb], .agg #[.int .i64 xc, .int .i64 yc], .agg #[.int .i64 xd, .int .i64 yd]] w fun e w' => e = .returned (.bool false) ∧ Below w.heap.size w w' := by
  have := four_spec xa ya xb yb xc yc xd yd w
  rw [h] at this; exact this
theorem four_yes (xa ya xb yb xc yc xd yd : Int) (w : World) (h : ok4 xa ya xb yb xc yc xd yd = true) : Calls Try.prog 80 #[.agg #[.int .i64 xa, .int .i64 ya], .agg #[.int .i64 xb, .int .i64 yb], .agg #[.int .i64 xc, .int .i64 yc], .agg #[.int .i64 xd, .int .i64 yd]] w fun e w' => e = .returned (.bool true) ∧ Below w.heap.size w w' := by
  have := four_spec xa ya xb yb xc yc xd yd w
  rw [h] at this; exact this
theorem allValid2_no (xa ya xb yb : Int) (t : TypeId) (b : Nat) (w : World) (hb : b = w.heap.size) (h : (okI xa ya && okI xb yb) = false) :
    Calls Try.prog 83 #[.slice (some ⟨b, 0, none⟩) 2 2] (w.alloc (.cells #[.int .i64 xa, .int .i64 ya, .int .i64 xb, .int .i64 yb] t)) fun e w' => e = .returned (.bool false) ∧ Below (w.alloc (.cells #[.int .i64 xa, .int .i64 ya, .int .i64 xb, .int .i64 yb] t)).heap.size (w.alloc (.cells #[.int .i64 xa, .int .i64 ya, .int .i64 xb, .int .i64 yb] t)) w' := by
  have := allValid2 xa ya xb yb t b w hb
  rw [h] at this; exact this
theorem allValid2_yes (xa ya xb yb : Int) (t : TypeId) (b : Nat) (w : World) (hb : b = w.heap.size) (h : (okI xa ya && okI xb yb) = true) :
    Calls Try.prog 83 #[.slice (some ⟨b, 0, none⟩) 2 2] (w.alloc (.cells #[.int .i64 xa, .int .i64 ya, .int .i64 xb, .int .i64 yb] t)) fun e w' => e = .returned (.bool true) ∧ Below (w.alloc (.cells #[.int .i64 xa, .int .i64 ya, .int .i64 xb, .int .i64 yb] t)).heap.size (w.alloc (.cells #[.int .i64 xa, .int .i64 ya, .int .i64 xb, .int .i64 yb] t)) w' := by
  have := allValid2 xa ya xb yb t b w hb
  rw [h] at this; exact this
theorem allValid3_no (xa ya xb yb xc yc : Int) (t : TypeId) (b : Nat) (w : World) (hb : b = w.heap.size) (h : (okI xa ya && okI xb yb && okI xc yc) = false) :
    Calls Try.prog 83 #[.slice (some ⟨b, 0, none⟩) 3 3] (w.alloc (.cells #[.int .i64 xa, .int .i64 ya, .int .i64 xb, .int .i64 yb, .int .i64 xc, .int .i64 yc] t)) fun e w' => e = .returned (.bool false) ∧ Below (w.alloc (.cells #[.int .i64 xa, .int .i64 ya, .int .i64 xb, .int .i64 yb, .int .i64 xc, .int .i64 yc] t)).heap.size (w.alloc (.cells #[.int .i64 xa, .int .i64 ya, .int .i64 xb, .int .i64 yb, .int .i64 xc, .int .i64 yc] t)) w' := by
  have := allValid3 xa ya xb yb xc yc t b w hb
  rw [h] at this; exact this
theorem allValid3_yes (xa ya xb yb xc yc : Int) (t : TypeId) (b : Nat) (w : World) (hb : b = w.heap.size) (h : (okI xa ya && okI xb yb && okI xc yc) = true) :
    Calls Try.prog 83 #[.slice (some ⟨b, 0, none⟩) 3 3] (w.alloc (.cells #[.int .i64 xa, .int .i64 ya, .int .i64 xb, .int .i64 yb, .int .i64 xc, .int .i64 yc] t)) fun e w' => e = .returned (.bool true) ∧ Below (w.alloc (.cells #[.int .i64 xa, .int .i64 ya, .int .i64 xb, .int .i64 yb, .int .i64 xc, .int .i64 yc] t)).heap.size (w.alloc (.cells #[.int .i64 xa, .int .i64 ya, .int .i64 xb, .int .i64 yb, .int .i64 xc, .int .i64 yc] t)) w' := by
  have := allValid3 xa ya xb yb xc yc t b w hb
  rw [h] at this; exact this
theorem allValid4_no (xa ya xb yb xc yc xd yd : Int) (t : TypeId) (b : Nat) (w : World) (hb : b = w.heap.size) (h : (okI xa ya && okI xb yb && okI xc yc && okI xd yd) = false) :
    Calls Try.prog 83 #[.slice (some ⟨b, 0, none⟩) 4 4] (w.alloc (.cells #[.int .i64 xa, .int .i64 ya, .int .i64 xb, .int .i64 yb, .int .i64 xc, .int .i64 yc, .int .i64 xd, .int .i64 yd] t)) fun e w' => e = .returned (.bool false) ∧ Below (w.alloc (.cells #[.int .i64 xa, .int .i64 ya, .int .i64 xb, .int .i64 yb, .int .i64 xc, .int .i64 yc, .int .i64 xd, .int .i64 yd] t)).heap.size (w.alloc (.cells #[.int .i64 xa, .int .i64 ya, .int .i64 xb, .int .i64 yb, .int .i64 xc, .int .i64 yc, .int .i64 xd, .int .i64 yd] t)) w' := by
  have := allValid4 xa ya xb yb xc yc xd yd t b w hb
  rw [h] at this; exact this
theorem allValid4_yes (xa ya xb yb xc yc xd yd : Int) (t : TypeId) (b : Nat) (w : World) (hb : b = w.heap.size) (h : (okI xa ya && okI xb yb && okI xc yc && okI xd yd) = true) :
    Calls Try.prog 83 #[.slice (some ⟨b, 0, none⟩) 4 4] (w.alloc (.cells #[.int .i64 xa, .int .i64 ya, .int .i64 xb, .int .i64 yb, .int .i64 xc, .int .i64 yc, .int .i64 xd, .int .i64 yd] t)) fun e w' => e = .returned (.bool true) ∧ Below (w.alloc (.cells #[.int .i64 xa, .int .i64 ya, .int .i64 xb, .int .i64 yb, .int .i64 xc, .int .i64 yc, .int .i64 xd, .int .i64 yd] t)).heap.size (w.alloc (.cells #[.int .i64 xa, .int .i64 ya, .int .i64 xb, .int .i64 yb, .int .i64 xc, .int .i64 yc, .int .i64 xd, .int .i64 yd] t)) w' := by
  have := allValid4 xa ya xb yb xc yc xd yd t b w hb
  rw [h] at this; exact this
theorem sideI_no (xa ya xb yb xc yc : Int) (w : World) (hv : (okI xa ya && okI xb yb && okI xc yc) = false) :
    Calls Try.prog 65 #[.agg #[.int .i64 xa, .int .i64 ya], .agg #[.int .i64 xb, .int .i64 yb], .agg #[.int .i64 xc, .int .i64 yc]] w fun e w' => e = .returned (.int .i64 0) ∧ Below w.heap.size w w' := by
  have HV := Lib.hid hv
  clear hv
  go_enter Try.func65, Try.ntmps65
  go_wp2_with fail
  refine (allValid3_no _ _ _ _ _ _ _ _ _ (by simp) HV.out).mono ?_
  rintro e w1 ⟨rfl, g1⟩
  obtain ⟨k1, q1⟩ := bcell g1
  have HW1 := Lib.hid g1
  clear g1
  clear k1 q1
  go_wp2
  go_ret
  exact ⟨rfl, bseq (four_allocs _ _ _ _) HW1.out⟩
set_option maxHeartbeats 1000000 in
theorem sideI_yes (xa ya xb yb xc yc : Int) (w : World) (ha : okI xa ya = true) (hb : okI xb yb = true) (hc : okI xc yc = true) :
    Calls Try.prog 65 #[.agg #[.int .i64 xa, .int .i64 ya], .agg #[.int .i64 xb, .int .i64 yb], .agg #[.int .i64 xc, .int .i64 yc]] w fun e w' => e = .returned (.int .i64 (sdI xa ya xb yb xc yc)) ∧ Below w.heap.size w w' := by
  have hv := v3_of xa ya xb yb xc yc ha hb hc
  have HV := Lib.hid hv
  clear hv
  go_enter Try.func65, Try.ntmps65
  go_wp2_with fail
  refine (allValid3_yes _ _ _ _ _ _ _ _ _ (by simp) HV.out).mono ?_
  rintro e w1 ⟨rfl, g1⟩
  obtain ⟨k1, q1⟩ := bcell g1
  have HW1 := Lib.hid g1
  clear g1
  go_wp2_with fail
  refine (side_any _ _ _ _ _ _ _ ha hb hc).mono ?_
  rintro e w2 ⟨rfl, g2⟩
  obtain ⟨k2, q2⟩ := bcell (bseq HW1.out g2)
  have HW2 := Lib.hid (bseq HW1.out g2)
  clear g2 k1 q1
  clear k2 q2
  go_wp2
  go_ret
  exact ⟨rfl, bseq (four_allocs _ _ _ _) HW2.out⟩
theorem onI_no (xa ya xb yb xc yc : Int) (w : World) (hv : (okI xa ya && okI xb yb && okI xc yc) = false) :
    Calls Try.prog 66 #[.agg #[.int .i64 xa, .int .i64 ya], .agg #[.int .i64 xb, .int .i64 yb], .agg #[.int .i64 xc, .int .i64 yc]] w fun e w' => e = .returned (.bool false) ∧ Below w.heap.size w w' := by
  have HV := Lib.hid hv
  clear hv
  go_enter Try.func66, Try.ntmps66
  go_wp2_with fail
  refine (allValid3_no _ _ _ _ _ _ _ _ _ (by simp) HV.out).mono ?_
  rintro e w1 ⟨rfl, g1⟩
  obtain ⟨k1, q1⟩ := bcell g1
  have HW1 := Lib.hid g1
  clear g1
  clear k1 q1
  go_wp2
  go_ret
  exact ⟨rfl, bseq (four_allocs _ _ _ _) HW1.out⟩
set_option maxHeartbeats 1000000 in
theorem onI_yes (xa ya xb yb xc yc : Int) (w : World) (ha : okI xa ya = true) (hb : okI xb yb = true) (hc : okI xc yc = true) :
    Calls Try.prog 66 #[.agg #[.int .i64 xa, .int .i64 ya], .agg #[.int .i64 xb, .int .i64 yb], .agg #[.int .i64 xc, .int .i64 yc]] w fun e w' => e = .returned (.bool (onB xa ya xb yb xc yc)) ∧ Below w.heap.size w w' := by
  have hv := v3_of xa ya xb yb xc yc ha hb hc
  have HV := Lib.hid hv
  clear hv
  go_enter Try.func66, Try.ntmps66
  go_wp2_with fail
  refine (allValid3_yes _ _ _ _ _ _ _ _ _ (by simp) HV.out).mono ?_
  rintro e w1 ⟨rfl, g1⟩
  obtain ⟨k1, q1⟩ := bcell g1
  have HW1 := Lib.hid g1
  clear g1
  go_wp2_with fail
  refine (contains_any _ _ _ _ _ _ _ ha hb hc).mono ?_
  rintro e w2 ⟨rfl, g2⟩
  obtain ⟨k2, q2⟩ := bcell (bseq HW1.out g2)
  have HW2 := Lib.hid (bseq HW1.out g2)
  clear g2 k1 q1
  clear k2 q2
  go_wp2
  go_ret
  exact ⟨rfl, bseq (four_allocs _ _ _ _) HW2.out⟩
end Go.Proofs.Ytjhmpmaademdcaa
