/- Validity of two, three and four points, in spec and in impl. -/
import Derived.Test.YtjhmpmaademdcaaK1
namespace Go.Proofs.Ytjhmpmaademdcaa
open Go.ChangeShapes Go.WideShapes Go.ChangeAt Go.RowKit

theorem ok4_2 (xa ya xb yb : Int) : ok4 xa ya xa ya xb yb xb yb = (okI xa ya && okI xb yb) := by
  unfold ok4
  cases okI xa ya <;> cases okI xb yb <;> rfl
theorem allOk_2 (xa ya xb yb : Int) : allOk [(xa, ya), (xb, yb)] = (okI xa ya && okI xb yb) := by
  show ((okI xa ya && (okI xb yb && true))) = _
  cases okI xa ya <;> cases okI xb yb <;> rfl
theorem allValid2 (xa ya xb yb : Int) (t : TypeId) (b : Nat) (w : World) (hb : b = w.heap.size) :
    Calls Try.prog 83 #[.slice (some ⟨b, 0, none⟩) 2 2] (w.alloc (.cells #[.int .i64 xa, .int .i64 ya, .int .i64 xb, .int .i64 yb] t)) fun e w' => e = .returned (.bool (okI xa ya && okI xb yb)) ∧ Below (w.alloc (.cells #[.int .i64 xa, .int .i64 ya, .int .i64 xb, .int .i64 yb] t)).heap.size (w.alloc (.cells #[.int .i64 xa, .int .i64 ya, .int .i64 xb, .int .i64 yb] t)) w' := by
  subst hb
  rw [← allOk_2]
  refine allValid_any _ 2 2 [(xa, ya), (xb, yb)] _ rfl (by omega) ⟨by simp, fun j hj => ?_⟩
  match j, hj with
  | 0, _ => exact ⟨by simp, by simp⟩
  | 1, _ => exact ⟨by simp, by simp⟩
theorem ok4_3 (xa ya xb yb xc yc : Int) : ok4 xa ya xb yb xc yc xc yc = (okI xa ya && okI xb yb && okI xc yc) := by
  unfold ok4
  cases okI xa ya <;> cases okI xb yb <;> cases okI xc yc <;> rfl
theorem allOk_3 (xa ya xb yb xc yc : Int) : allOk [(xa, ya), (xb, yb), (xc, yc)] = (okI xa ya && okI xb yb && okI xc yc) := by
  show ((okI xa ya && (okI xb yb && (okI xc yc && true)))) = _
  cases okI xa ya <;> cases okI xb yb <;> cases okI xc yc <;> rfl
theorem allValid3 (xa ya xb yb xc yc : Int) (t : TypeId) (b : Nat) (w : World) (hb : b = w.heap.size) :
    Calls Try.prog 83 #[.slice (some ⟨b, 0, none⟩) 3 3] (w.alloc (.cells #[.int .i64 xa, .int .i64 ya, .int .i64 xb, .int .i64 yb, .int .i64 xc, .int .i64 yc] t)) fun e w' => e = .returned (.bool (okI xa ya && okI xb yb && okI xc yc)) ∧ Below (w.alloc (.cells #[.int .i64 xa, .int .i64 ya, .int .i64 xb, .int .i64 yb, .int .i64 xc, .int .i64 yc] t)).heap.size (w.alloc (.cells #[.int .i64 xa, .int .i64 ya, .int .i64 xb, .int .i64 yb, .int .i64 xc, .int .i64 yc] t)) w' := by
  subst hb
  rw [← allOk_3]
  refine allValid_any _ 3 3 [(xa, ya), (xb, yb), (xc, yc)] _ rfl (by omega) ⟨by simp, fun j hj => ?_⟩
  match j, hj with
  | 0, _ => exact ⟨by simp, by simp⟩
  | 1, _ => exact ⟨by simp, by simp⟩
  | 2, _ => exact ⟨by simp, by simp⟩
theorem ok4_4 (xa ya xb yb xc yc xd yd : Int) : ok4 xa ya xb yb xc yc xd yd = (okI xa ya && okI xb yb && okI xc yc && okI xd yd) := by
  unfold ok4
  cases okI xa ya <;> cases okI xb yb <;> cases okI xc yc <;> cases okI xd yd <;> rfl
theorem allOk_4 (xa ya xb yb xc yc xd yd : Int) : allOk [(xa, ya), (xb, yb), (xc, yc), (xd, yd)] = (okI xa ya && okI xb yb && okI xc yc && okI xd yd) := by
  show ((okI xa ya && (okI xb yb && (okI xc yc && (okI xd yd && true))))) = _
  cases okI xa ya <;> cases okI xb yb <;> cases okI xc yc <;> cases okI xd yd <;> rfl
theorem allValid4 (xa ya xb yb xc yc xd yd : Int) (t : TypeId) (b : Nat) (w : World) (hb : b = w.heap.size) :
    Calls Try.prog 83 #[.slice (some ⟨b, 0, none⟩) 4 4] (w.alloc (.cells #[.int .i64 xa, .int .i64 ya, .int .i64 xb, .int .i64 yb, .int .i64 xc, .int .i64 yc, .int .i64 xd, .int .i64 yd] t)) fun e w' => e = .returned (.bool (okI xa ya && okI xb yb && okI xc yc && okI xd yd)) ∧ Below (w.alloc (.cells #[.int .i64 xa, .int .i64 ya, .int .i64 xb, .int .i64 yb, .int .i64 xc, .int .i64 yc, .int .i64 xd, .int .i64 yd] t)).heap.size (w.alloc (.cells #[.int .i64 xa, .int .i64 ya, .int .i64 xb, .int .i64 yb, .int .i64 xc, .int .i64 yc, .int .i64 xd, .int .i64 yd] t)) w' := by
  subst hb
  rw [← allOk_4]
  refine allValid_any _ 4 4 [(xa, ya), (xb, yb), (xc, yc), (xd, yd)] _ rfl (by omega) ⟨by simp, fun j hj => ?_⟩
  match j, hj with
  | 0, _ => exact ⟨by simp, by simp⟩
  | 1, _ => exact ⟨by simp, by simp⟩
  | 2, _ => exact ⟨by simp, by simp⟩
  | 3, _ => exact ⟨by simp, by simp⟩
theorem v3_of (xa ya xb yb xc yc : Int) (ha : okI xa ya = true) (hb : okI xb yb = true) (hc : okI xc yc = true) : (okI xa ya && okI xb yb && okI xc yc) = true := by rw [ha, hb, hc]; rfl
theorem v2_of (xa ya xb yb : Int) (ha : okI xa ya = true) (hb : okI xb yb = true) : (okI xa ya && okI xb yb) = true := by rw [ha, hb]; rfl
theorem v4_of (xa ya xb yb xc yc xd yd : Int) (ha : okI xa ya = true) (hb : okI xb yb = true) (hc : okI xc yc = true) (hd : okI xd yd = true) : (okI xa ya && okI xb yb && okI xc yc && okI xd yd) = true := by rw [ha, hb, hc, hd]; rfl
end Go.Proofs.Ytjhmpmaademdcaa
