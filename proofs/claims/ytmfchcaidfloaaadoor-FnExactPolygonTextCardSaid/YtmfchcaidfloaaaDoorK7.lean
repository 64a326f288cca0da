/- Several texts in one: TurnMath, Turn, Least, TurnExp. -/
import Derived.Test.YtmfchcaidfloaaaDoorK1
import Derived.Test.YtmfchcaidfloaaaDoorPlan
import Derived.LoopTactic
import Derived.Test.YtmfchcaidfloaaaDoorProg
import Derived.Test.YtmfchcaidfloaaaDoorK5
namespace Go.Proofs.YtmfchcaidfloaaaDoor

def tuX (t x y : Int) : Int := if t = 1 then -y else if t = 2 then -x else if t = 3 then y else if t = 4 then -x else if t = 5 then -y else if t = 6 then x else if t = 7 then y else x
def tuY (t x y : Int) : Int := if t = 1 then x else if t = 2 then -y else if t = 3 then -x else if t = 4 then y else if t = 5 then -x else if t = 6 then -y else if t = 7 then x else y
/-- The first turn from k on, of the n next ones, for which g says yes; 0 if there is none. -/
def firstT (g : Int → Bool) : Nat → Int → Int
  | 0, _ => 0
  | n + 1, k => if g k then k else firstT g n (k + 1)
def invT (t : Int) : Int := firstT (fun b => decide (tuX b (tuX t 1 2) (tuY t 1 2) = 1) && decide (tuY b (tuX t 1 2) (tuY t 1 2) = 2)) 8 0
def cmpT (x y a b : Int) : Int := firstT (fun t => decide (tuX t x y = tuX b (tuX a x y) (tuY a x y)) && decide (tuY t x y = tuY b (tuX a x y) (tuY a x y))) 8 0
theorem turn_cases {t : Int} (h0 : 0 ≤ t) (h1 : t ≤ 7) : ∃ k : Fin 8, t = (k.val : Int) := ⟨⟨t.toNat, by omega⟩, by simp; omega⟩
theorem inv_eq (t : Int) (h0 : 0 ≤ t) (h1 : t ≤ 7) : invT t = if 4 ≤ t then t else (4 - t) % 4 := by
  obtain ⟨k, rfl⟩ := turn_cases h0 h1
  revert k
  decide +kernel
theorem cmp_eq (a b : Int) (ha : 0 ≤ a) (ha1 : a ≤ 7) (hb : 0 ≤ b) (hb1 : b ≤ 7) : cmpT 1 2 a b = cmpT 2 1 a b := by
  obtain ⟨k, rfl⟩ := turn_cases ha ha1
  obtain ⟨j, rfl⟩ := turn_cases hb hb1
  revert k j
  decide +kernel
theorem tu_bd (t x y : Int) (h1 : -20000 ≤ x ∧ x ≤ 20000) (h2 : -20000 ≤ y ∧ y ≤ 20000) : (-20000 ≤ tuX t x y ∧ tuX t x y ≤ 20000) ∧ (-20000 ≤ tuY t x y ∧ tuY t x y ≤ 20000) := by
  unfold tuX tuY
  refine ⟨?_, ?_⟩ <;> (repeat' split) <;> omega
theorem firstT_rng (g : Int → Bool) : ∀ (n : Nat) (k : Int), 0 ≤ k → 0 ≤ firstT g n k ∧ firstT g n k ≤ k + n
  | 0, k, h => by simp [firstT]; omega
  | n + 1, k, h => by
    have := firstT_rng g n (k + 1) (by omega)
    unfold firstT
    split <;> omega
theorem first_yes (g : Int → Bool) (n : Nat) (k : Int) (h : g k = true) : firstT g (n + 1) k = k := by
  show (if g k then k else firstT g n (k + 1)) = k
  rw [if_pos h]
theorem first_no (g : Int → Bool) (n : Nat) (k : Int) (h : g k = false) : firstT g (n + 1) k = firstT g n (k + 1) := by
  show (if g k then k else firstT g n (k + 1)) = _
  rw [if_neg (by simp [h])]
end Go.Proofs.YtmfchcaidfloaaaDoor
namespace Go.Proofs.YtmfchcaidfloaaaDoor
open Go.ChangeShapes Go.WideShapes Go.ChangeAt Go.RowKit
set_option linter.unusedVariables false

/-- The world in the loop of l02Turned: the point and the result lie in two blocks of the call's own. -/
structure TAt (w wr : World) (x y : Int) : Prop where
  below : Below w.heap.size w wr
  pt : wr.heap[w.heap.size]? = some (.cells #[.int .i64 x, .int .i64 y] 90 (0, 0))
  res : wr.heap[w.heap.size + 1]? = some (.cells #[.int .i64 0, .int .i64 0] 90 (0, 0))
theorem TAt.step {w wr : World} {x y a b : Int} (h : TAt w wr x y) : TAt w ((wr.setCell ⟨w.heap.size, 0, none⟩ (.int .i64 a)).setCell ⟨w.heap.size, 1, none⟩ (.int .i64 b)) a b := by
  have hs := stored2 (x0 := .int .i64 a) (x1 := .int .i64 b) h.pt
  exact ⟨(h.below.setCell (Nat.le_refl _) _).setCell (Nat.le_refl _) _, hs.here, by rw [hs.there _ (by omega)]; exact h.res⟩
theorem TAt.start (w : World) (x y : Int) : TAt w ((w.alloc (.cells #[.int .i64 x, .int .i64 y] 90)).alloc (.cells #[.int .i64 0, .int .i64 0] 90)) x y := by
  have h1 := madeAt_alloc w (.cells #[.int .i64 x, .int .i64 y] 90)
  have h2 := madeAt_alloc (w.alloc (.cells #[.int .i64 x, .int .i64 y] 90)) (.cells #[.int .i64 0, .int .i64 0] 90)
  refine ⟨two_allocs _ _, ?_, ?_⟩
  · rw [h2.below.block _ h1.high]; exact h1.here
  · have := h2.here
    simpa using this
def rotX (n : Nat) (x y : Int) : Int := match n with | 0 => x | 1 => -y | 2 => -x | _ => y
def rotY (n : Nat) (x y : Int) : Int := match n with | 0 => y | 1 => x | 2 => -y | _ => -x
end Go.Proofs.YtmfchcaidfloaaaDoor
namespace Go.Proofs.YtmfchcaidfloaaaDoor
open Go.ChangeShapes Go.WideShapes Go.ChangeAt Go.RowKit

def loI (x : Int) (l : List Int) : Int := l.foldl min x
def hiI (x : Int) (l : List Int) : Int := l.foldl max x
def wiI (m : Int) (l : List Int) : Bool := l.all fun x => decide (-m ≤ x) && decide (x ≤ m)

theorem loI_snoc (x : Int) (zs : List Int) (k : Nat) (h : k < zs.length) : loI x (zs.take (k + 1)) = min (loI x (zs.take k)) (zs.getD k 0) := by
  unfold loI
  rw [List.take_add_one, List.foldl_append]
  simp [List.getD, List.getElem?_eq_getElem h]
theorem hiI_snoc (x : Int) (zs : List Int) (k : Nat) (h : k < zs.length) : hiI x (zs.take (k + 1)) = max (hiI x (zs.take k)) (zs.getD k 0) := by
  unfold hiI
  rw [List.take_add_one, List.foldl_append]
  simp [List.getD, List.getElem?_eq_getElem h]

theorem loI_ge (m : Int) : ∀ (l : List Int) (x : Int), m ≤ loI x l ↔ m ≤ x ∧ ∀ y ∈ l, m ≤ y
  | [], x => by simp [loI]
  | z :: l, x => by
    have := loI_ge m l (min x z)
    unfold loI at this ⊢
    rw [List.foldl_cons, this]
    simp only [List.mem_cons, forall_eq_or_imp]
    rw [Int.le_min]
    exact and_assoc
theorem hiI_le (m : Int) : ∀ (l : List Int) (x : Int), hiI x l ≤ m ↔ x ≤ m ∧ ∀ y ∈ l, y ≤ m
  | [], x => by simp [hiI]
  | z :: l, x => by
    have := hiI_le m l (max x z)
    unfold hiI at this ⊢
    rw [List.foldl_cons, this]
    simp only [List.mem_cons, forall_eq_or_imp]
    rw [Int.max_le]
    exact and_assoc
theorem wiI_eq (m : Int) (hm : 0 ≤ m) (l : List Int) : (decide (-m ≤ loI 0 l) && decide (hiI 0 l ≤ m)) = wiI m l := by
  rw [Bool.eq_iff_iff]
  simp only [Bool.and_eq_true, decide_eq_true_eq, wiI, List.all_eq_true]
  rw [loI_ge, hiI_le]
  constructor
  · rintro ⟨⟨_, h1⟩, ⟨_, h2⟩⟩ y hy; exact ⟨h1 y hy, h2 y hy⟩
  · intro h; exact ⟨⟨by omega, fun y hy => (h y hy).1⟩, ⟨hm, fun y hy => (h y hy).2⟩⟩

set_option maxHeartbeats 400000 in
theorem least_any (x : Int) (b off len cap : Nat) (zs : List Int) (w : World) (hz : len = zs.length) (hbig : len ≤ 9223372036854775807)
    (hc : ∀ j, j < zs.length → w.cell? ⟨b, off + j, none⟩ = some (.int .i64 (zs.getD j 0))) :
    Calls Tryd.prog 95 #[.int .i64 x, .slice (some ⟨b, off, none⟩) len cap] w fun e w' => e = .returned (.int .i64 (loI x zs)) ∧ w = w' := by
  have HC := Lib.hid hc
  have HZ := Lib.hid hz
  clear hc hz
  go_enter Tryd.func95, Tryd.ntmps95
  go_wp2
  go_loop [0, 9] (fun t i => ∃ k : Nat, k ≤ len ∧ i = .int .i64 k ∧ t = .int .i64 (loI x (zs.take k))) (fun _ i => len - (intOf i).toNat)
  case atStart => exact ⟨0, Nat.zero_le _, rfl, rfl⟩
  case round =>
    obtain ⟨k, hk, rfl, rfl⟩ := hrel
    by_cases hlt : k < len
    · have hcell : w.cell? ⟨b, off + k, none⟩ = some (.int .i64 (zs.getD k 0)) := HC.out k (by have := HZ.out; omega)
      have HS := Lib.hid (loI_snoc x zs k (by have := HZ.out; omega))
      generalize zs.getD k 0 = y at *
      by_cases hy : y < loI x (zs.take k)
      all_goals
        go_wp2
        go_round
        case rel => exact ⟨k + 1, by omega, by go_num, val_int (by rw [HS.out]; omega)⟩
        case measure => simp [intOf]; omega
    · go_wp2
      go_ret
      exact ⟨ret_int (by rw [List.take_of_length_le (by have := HZ.out; omega)]), rfl⟩

set_option maxHeartbeats 400000 in
theorem greatest_any (x : Int) (b off len cap : Nat) (zs : List Int) (w : World) (hz : len = zs.length) (hbig : len ≤ 9223372036854775807)
    (hc : ∀ j, j < zs.length → w.cell? ⟨b, off + j, none⟩ = some (.int .i64 (zs.getD j 0))) :
    Calls Tryd.prog 96 #[.int .i64 x, .slice (some ⟨b, off, none⟩) len cap] w fun e w' => e = .returned (.int .i64 (hiI x zs)) ∧ w = w' := by
  have HC := Lib.hid hc
  have HZ := Lib.hid hz
  clear hc hz
  go_enter Tryd.func96, Tryd.ntmps96
  go_wp2
  go_loop [0, 9] (fun t i => ∃ k : Nat, k ≤ len ∧ i = .int .i64 k ∧ t = .int .i64 (hiI x (zs.take k))) (fun _ i => len - (intOf i).toNat)
  case atStart => exact ⟨0, Nat.zero_le _, rfl, rfl⟩
  case round =>
    obtain ⟨k, hk, rfl, rfl⟩ := hrel
    by_cases hlt : k < len
    · have hcell : w.cell? ⟨b, off + k, none⟩ = some (.int .i64 (zs.getD k 0)) := HC.out k (by have := HZ.out; omega)
      have HS := Lib.hid (hiI_snoc x zs k (by have := HZ.out; omega))
      generalize zs.getD k 0 = y at *
      by_cases hy : hiI x (zs.take k) < y
      all_goals
        go_wp2
        go_round
        case rel => exact ⟨k + 1, by omega, by go_num, val_int (by rw [HS.out]; omega)⟩
        case measure => simp [intOf]; omega
    · go_wp2
      go_ret
      exact ⟨ret_int (by rw [List.take_of_length_le (by have := HZ.out; omega)]), rfl⟩

theorem allWithin_any (m : Int) (hm0 : 0 ≤ m) (hm1 : m ≤ 1000000000000) (b off len cap : Nat) (zs : List Int) (w : World) (hz : len = zs.length) (hbig : len ≤ 9223372036854775807)
    (hc : ∀ j, j < zs.length → w.cell? ⟨b, off + j, none⟩ = some (.int .i64 (zs.getD j 0))) :
    Calls Tryd.prog 58 #[.int .i64 m, .slice (some ⟨b, off, none⟩) len cap] w fun e w' => e = .returned (.bool (wiI m zs)) ∧ w = w' := by
  rw [← wiI_eq m hm0 zs]
  have HC := Lib.hid hc
  have HZ := Lib.hid hz
  clear hc hz
  by_cases h1 : -m ≤ loI 0 zs <;> by_cases h2 : hiI 0 zs ≤ m
  all_goals
    simp only [h1, h2, decide_true, decide_false, Bool.and_true, Bool.and_false]
    go_enter Tryd.func58, Tryd.ntmps58
    go_wp2_with (first | ((with_reducible refine (least_any _ _ _ _ _ _ _ HZ.out hbig HC.out).mono ?_); rintro e w' ⟨rfl, rfl⟩) | ((with_reducible refine (greatest_any _ _ _ _ _ _ _ HZ.out hbig HC.out).mono ?_); rintro e w' ⟨rfl, rfl⟩))
    go_ret
    first | exact ⟨rfl, rfl⟩ | exact ⟨ret_bool (by simp [h2]), rfl⟩
end Go.Proofs.YtmfchcaidfloaaaDoor
namespace Go.Proofs.YtmfchcaidfloaaaDoor
open Go.ChangeShapes Go.WideShapes Go.ChangeAt Go.RowKit

theorem isTurnI (t : Int) (w : World) : Calls Tryd.prog 44 #[.int .i64 t] w fun e w' => e = .returned (.bool (inI t 0 7)) ∧ w = w' := by
  have hs : inI t 0 7 = (decide (0 ≤ t) && decide (t < 8)) := by unfold inI; congr 1; rw [decide_eq_decide]; omega
  rw [hs]; clear hs
  cases h1 : decide (0 ≤ t) <;> cases h2 : decide (t < 8)
  all_goals
    go_enter Tryd.func44, Tryd.ntmps44
    go_wp2
    go_ret
    exact ⟨rfl, rfl⟩
theorem within2 (m a b : Int) (t : TypeId) (p : Nat) (w : World) (hp : p = w.heap.size) (hm0 : 0 ≤ m) (hm1 : m ≤ 1000000000000) :
    Calls Tryd.prog 58 #[.int .i64 m, .slice (some ⟨p, 0, none⟩) 2 2] (w.alloc (.cells #[.int .i64 a, .int .i64 b] t)) fun e w' => e = .returned (.bool (inI a (-m) m && inI b (-m) m)) ∧ w.alloc (.cells #[.int .i64 a, .int .i64 b] t) = w' := by
  subst hp
  have e : wiI m [a, b] = (inI a (-m) m && inI b (-m) m) := by simp [wiI, inI]
  rw [← e]
  refine allWithin_any m hm0 hm1 w.heap.size 0 2 2 [a, b] _ rfl (by omega) (fun j hj => ?_)
  match j, hj with
  | 0, _ => simp
  | 1, _ => simp
theorem in_bd {n a b : Int} (h : inI n a b = true) : a ≤ n ∧ n ≤ b := by simpa [inI] using h
theorem eqPoint_yes (x y : Int) (w : World) : Calls Tryd.prog 54 #[.agg #[.int .i64 x, .int .i64 y], .agg #[.int .i64 x, .int .i64 y]] w fun e w' => e = .returned (.bool true) ∧ Below w.heap.size w w' := by
  go_enter Tryd.func54, Tryd.ntmps54
  go_wp2
  go_ret
  exact ⟨rfl, two_allocs _ _⟩
end Go.Proofs.YtmfchcaidfloaaaDoor
