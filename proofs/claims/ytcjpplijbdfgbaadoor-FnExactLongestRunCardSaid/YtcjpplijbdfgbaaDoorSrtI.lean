/- A slice of integers that the call owns, sorted by the library's insertion sort at a closure that reads. -/
import Derived.Test.YtcjpplijbdfgbaaDoorLea13
import Derived.Shelf.SlSortCmp.Insertion
import Derived.Ground.SlsfProg
import Derived.Sort.OwnSortedInts
import Derived.Deep.QuietTactic
import Derived.BigQuiet
namespace Go.Proofs
open Go.Shelf
def Tryd.insI_ren : Go.Shelf.Ren := ⟨fun | 20 => 136 | n => n, fun | 24 => 2 | 22 => 55 | 3 => 3 | 25 => 149 | 4 => 4 | 0 => 0 | n => n, fun | n => n⟩
theorem Tryd.insI : Go.Proofs.SlLaysF.n20 Tryd.prog Tryd.insI_ren := {
  mixed := by kernel_rfl
  f20 := ⟨Tryd.f136.name, by decide, Tryd.func136.trans (congrArg some (by kernel_rfl))⟩
  t0 := Tryd.underlying0
  a0 := Tryd.isAgg0
  z0 := Tryd.sizeOf0
  v0 := Tryd.zeroValue0
  t3 := Tryd.underlying3
  a3 := Tryd.isAgg3
  z3 := Tryd.sizeOf3
  v3 := Tryd.zeroValue3
  t4 := Tryd.underlying4
  a4 := Tryd.isAgg4
  z4 := Tryd.sizeOf4
  v4 := Tryd.zeroValue4
  t22 := Tryd.underlying55
  a22 := Tryd.isAgg55
  z22 := Tryd.sizeOf55
  v22 := Tryd.zeroValue55
  a24 := Tryd.isAgg2
  z24 := Tryd.sizeOf2
  t25 := Tryd.underlying149
  a25 := Tryd.isAgg149
  z25 := Tryd.sizeOf149
  v25 := Tryd.zeroValue149 }
end Go.Proofs
namespace Go.Proofs.YtcjpplijbdfgbaaDoor
open Seq2 Go.ChangeShapes Go.WideShapes Go.ChangeAt Go.RowKit Go.Sort Go.Shelf
set_option linter.unusedVariables false
set_option linter.unusedSimpArgs false

theorem posN_app (f : Int → Int) (x : Int) (L R : List Int) : ∀ k, k ≤ L.length → posN f x (L ++ R) k = posN f x L k
  | 0, _ => rfl
  | k + 1, h => by
    have e : (L ++ R).getD k 0 = L.getD k 0 := by
      rw [List.getD_eq_getElem?_getD, List.getD_eq_getElem?_getD, List.getElem?_append_left (by omega)]
    unfold posN
    rw [e, posN_app f x L R k (by omega)]
theorem insF_yes (f : Int → Int) (x y : Int) (L : List Int) (h : f x < f y) : insF f (L ++ [y]) x = insF f L x ++ [y] := by
  have e : (L ++ [y]).getD L.length 0 = y := by simp
  have hp : posN f x (L ++ [y]) (L ++ [y]).length = posN f x L L.length := by
    rw [List.length_append, List.length_singleton, posN, e, if_pos h, posN_app f x L [y] _ (Nat.le_refl _)]
  have hl := posN_le f x L L.length
  unfold insF
  rw [hp, List.take_append_of_le_length hl, List.drop_append_of_le_length hl]
  simp
theorem insF_no (f : Int → Int) (x y : Int) (L : List Int) (h : ¬ f x < f y) : insF f (L ++ [y]) x = L ++ [y, x] := by
  have e : (L ++ [y]).getD L.length 0 = y := by simp
  have hp : posN f x (L ++ [y]) (L ++ [y]).length = (L ++ [y]).length := by
    rw [List.length_append, List.length_singleton, posN, e, if_neg h]
  unfold insF
  rw [hp, List.take_of_length_le (Nat.le_refl _), List.drop_of_length_le (Nat.le_refl _)]
  simp
section
variable {α : Type} [Inhabited α] (lt : α → α → Bool) (g : α → Int) (f : Int → Int)
theorem swp_size (d : Array α) (i j : Nat) : (swp d i j).size = d.size := by simp [swp]
theorem inner_size : ∀ (j : Nat) (d : Array α), (insInner lt 0 j d).size = d.size
  | 0, d => rfl
  | j + 1, d => by
    rw [insInner]
    split
    · rw [inner_size j, swp_size]
    · rfl
theorem swp_list (M R : List α) (x y : α) (d : Array α) (hd : d.toList = M ++ [y] ++ x :: R) : (swp d (M.length + 1) M.length).toList = M ++ x :: (y :: R) := by
  have hs : d.size = M.length + 1 + 1 + R.length := by
    have := congrArg List.length hd
    simp at this; omega
  have e1 : d[M.length]! = y := by
    rw [getElem!_pos d _ (by omega)]
    simp only [← Array.getElem_toList]
    simp [hd]
  have e2 : d[M.length + 1]! = x := by
    rw [getElem!_pos d _ (by omega)]
    simp only [← Array.getElem_toList]
    simp [hd]
  apply List.ext_getElem?
  intro i
  unfold swp
  rw [e1, e2]
  simp only [Array.toList_setIfInBounds, hd]
  rcases Nat.lt_trichotomy i M.length with hi | hi | hi
  · rw [List.getElem?_set_ne (by omega), List.getElem?_set_ne (by omega), List.append_assoc, List.getElem?_append_left hi, List.getElem?_append_left hi]
  · subst hi
    simp [List.getElem?_set, List.getElem?_append]
  · by_cases h1 : i = M.length + 1
    · subst h1
      simp [List.getElem?_set, List.getElem?_append]
    · obtain ⟨j, rfl⟩ : ∃ j, i = M.length + (1 + (1 + j)) := ⟨i - M.length - 2, by omega⟩
      rw [List.getElem?_set_ne (by omega), List.getElem?_set_ne (by omega), List.append_assoc, List.getElem?_append_right (by omega)]
      conv => rhs; rw [List.getElem?_append_right (by omega)]
      rw [show M.length + (1 + (1 + j)) - M.length = j + 1 + 1 by omega]
      rfl
theorem inner_list (hlt : ∀ x y, lt x y = decide (f (g x) < f (g y))) : ∀ (i : Nat) (M R : List α) (x : α) (d : Array α), M.length = i → d.toList = M ++ x :: R → (insInner lt 0 i d).toList.map g = insF f (M.map g) (g x) ++ R.map g := by
  intro i
  induction i with
  | zero =>
    intro M R x d hM hd
    obtain rfl := List.eq_nil_of_length_eq_zero hM
    rw [insInner, hd]
    simp [insF, posN]
  | succ i ih =>
    intro M R x d hM hd
    rcases List.eq_nil_or_concat M with rfl | ⟨M, y, rfl⟩
    · simp at hM
    rw [List.concat_eq_append] at hd ⊢
    have hMi : M.length = i := by simpa using hM
    subst hMi
    have hs : d.size = M.length + 1 + 1 + R.length := by
      have := congrArg List.length hd
      simp at this; omega
    have e1 : d[M.length]! = y := by
      rw [getElem!_pos d _ (by omega)]
      simp only [← Array.getElem_toList]
      simp [hd]
    have e2 : d[M.length + 1]! = x := by
      rw [getElem!_pos d _ (by omega)]
      simp only [← Array.getElem_toList]
      simp [hd]
    rw [insInner, e1, e2, hlt]
    by_cases h : f (g x) < f (g y)
    · rw [if_pos (by simp [h]), ih M (y :: R) x _ rfl (swp_list M R x y d hd), List.map_append, List.map_singleton, insF_yes f _ _ _ h]
      simp
    · rw [if_neg (by simp [h]), List.map_append, List.map_singleton, insF_no f _ _ _ h, hd]
      simp
theorem outer_list (hlt : ∀ x y, lt x y = decide (f (g x) < f (g y))) (n : Nat) : ∀ (k i : Nat) (P : List Int) (M R : List α) (d : Array α), k = n - i → d.toList = M ++ R → M.length = i → i ≤ n → n = d.size → M.map g = srtF f P → (insOuter lt 0 n i d).toList.map g = srtF f (P ++ R.map g) := by
  intro k
  induction k with
  | zero =>
    intro i P M R d hk hd hM hi hn hs
    have h0 : R = [] := by
      have := congrArg List.length hd
      simp at this
      apply List.eq_nil_of_length_eq_zero; omega
    subst h0
    rw [insOuter, if_neg (by omega), hd]
    simpa using hs
  | succ k ih =>
    intro i P M R d hk hd hM hi hn hs
    cases R with
    | nil =>
      exfalso
      have := congrArg List.length hd
      simp at this; omega
    | cons x R =>
      have h1 := inner_list lt g f hlt i M R x d hM hd
      rw [hs, ← srtF_snoc] at h1
      have hsz := inner_size lt i d
      rw [insOuter, if_pos (by omega)]
      have hl : (srtF f (P ++ [g x])).length = i + 1 := by
        have := congrArg List.length hs
        rw [srtF_snoc, insF_len, ← this]; simp [hM]
      have h3 : ((insInner lt 0 i d).toList.map g).take (i + 1) = srtF f (P ++ [g x]) := by rw [h1, List.take_append_of_le_length (by omega), List.take_of_length_le (by omega)]
      have h4 : ((insInner lt 0 i d).toList.map g).drop (i + 1) = R.map g := by rw [h1, List.drop_append_of_le_length (by omega), List.drop_of_length_le (by omega), List.nil_append]
      have h5 : (insInner lt 0 i d).toList.length = n := by simpa [hn] using hsz
      rw [ih (i + 1) (P ++ [g x]) ((insInner lt 0 i d).toList.take (i + 1)) ((insInner lt 0 i d).toList.drop (i + 1)) _ (by omega) (by simp) (by rw [List.length_take]; omega) (by omega) (by omega) (by rw [List.map_take]; exact h3), List.map_drop, h4]
      simp
theorem sort_list (hlt : ∀ x y, lt x y = decide (f (g x) < f (g y))) (d : Array α) (h0 : 0 < d.size) : (insertionSort lt d 0 d.size).toList.map g = srtF f (d.toList.map g) := by
  unfold insertionSort
  rcases hd : d.toList with _ | ⟨x, R⟩
  · have h1 : d.toList.length = 0 := by rw [hd]; rfl
    rw [Array.length_toList] at h1
    omega
  · have h := outer_list lt g f hlt d.size (d.size - 1) 1 [g x] [x] R d rfl (by rw [hd]; rfl) rfl (by omega) rfl (by simp [srtF, insF, posN])
    rw [Nat.zero_add, h]
    simp
end

/-- The places of a list of n elements. -/
def encF (n : Nat) (x : Fin (n + 1)) : Value := .int .i64 ((x.val : Nat) : Int)
def valF (n : Nat) (x : Fin (n + 1)) : Int := ((x.val : Nat) : Int)
theorem encF_eq (n : Nat) (x : Fin (n + 1)) : encF n x = .int .i64 (valF n x) := rfl
theorem holds_of_blockF {w : World} {g m : Nat} {cur : Array Value} {e : TypeId} {ss : List (Fin (m + 1))} (hb : w.heap[g]? = some (.cells cur e (0, 0))) (ht : cur.toList.take ss.length = ss.map (encF m)) : Holds (encF m) w g 0 ss.toArray := by
  intro j hj
  have hj' : j < ss.length := by simpa using hj
  refine ⟨?_, by simp [World.frozen?, hb]⟩
  have h1 : (cur.toList.take ss.length)[j]? = (ss.map (encF m))[j]? := by rw [ht]
  rw [List.getElem?_take_of_lt hj'] at h1
  simp only [World.cell?, hb, Nat.zero_add]
  simp only [Option.isSome_none, Bool.false_eq_true, if_false]
  rw [← Array.getElem?_toList, h1]
  simp [hj']
theorem heap_sortedF {w : World} {g n m : Nat} {os : Array Obj} {cur : Array Value} {e : TypeId} {fr : Nat × Nat} (d : Array (Fin (m + 1))) (hb : w.heap[g]? = some (.cells cur e fr)) :
    (grow (putRow (encF m) (Sort.ahead w n) g 0 d) os).heap[g]? = some (.cells (putCells (encF m) 0 d cur) e fr) := by
  have hg : g < w.heap.size := (Array.getElem?_eq_some_iff.1 hb).1
  rw [heap_grow_old _ _ (by simpa using hg)]
  simp [putRow, mapBlock, Sort.ahead, Array.getElem?_modify, hb, onCells]
theorem grownBy_sortedF {w : World} {g n m : Nat} {os : Array Obj} (d : Array (Fin (m + 1))) : w.grownBy (grow (putRow (encF m) (Sort.ahead w n) g 0 d) os) (some g) := by
  refine ⟨rfl, rfl, rfl, by simp, fun k hk hne => ?_⟩
  rw [heap_grow_old _ _ (by simpa using hk)]
  have : g ≠ k := fun e => hne (by rw [e])
  simp [putRow, mapBlock, Sort.ahead, Array.getElem?_modify, this]
theorem take_putCellsF (m : Nat) (cur : Array Value) (ts : List (Fin (m + 1))) (h : ts.length ≤ cur.size) : (putCells (encF m) 0 ts.toArray cur).toList.take ts.length = ts.map (encF m) := by
  apply List.ext_getElem?
  intro j
  by_cases hj : j < ts.length
  · rw [List.getElem?_take_of_lt hj, Array.getElem?_toList]
    simp [putCells, hj, show j < cur.size by omega]
  · rw [List.getElem?_take_eq_none (by omega), List.getElem?_eq_none (by simp; omega)]
theorem ownsRow_sortedF {w : World} {base g cap n m : Nat} {e : TypeId} {os : Array Obj} {cur : Array Value} {ss ts : List (Fin (m + 1))} (hl : ts.length = ss.length) (hbase : base ≤ g) (hb : w.heap[g]? = some (.cells cur e (0, 0)))
    (h1 : ss.length ≤ cap) (h2 : cap ≤ maxLen) (h3 : cur.size = cap * 1) :
    (grow (putRow (encF m) (Sort.ahead w n) g 0 ts.toArray) os).ownsRow base e 1 (.slice (some ⟨g, 0, none⟩) ss.length cap) ss.length (ts.map (encF m)) :=
  ⟨by simp [hl], .inr ⟨g, cap, _, rfl, hbase, heap_sortedF _ hb, h1, h2, by simp [putCells, h3], by rw [Nat.mul_one, ← hl]; exact take_putCellsF m cur ts (by omega)⟩⟩
/-- A list of places as places. -/
theorem to_fin {L : List Int} {n : Nat} (h : ∀ y ∈ L, ∃ j : Nat, j < n + 1 ∧ y = (j : Int)) : ∃ ss : List (Fin (n + 1)), ss.map (valF n) = L := by
  induction L with
  | nil => exact ⟨[], rfl⟩
  | cons y r ih =>
    obtain ⟨ss, e⟩ := ih (fun z hz => h z (by simp [hz]))
    obtain ⟨j, hj, rfl⟩ := h y (by simp)
    exact ⟨⟨j, hj⟩ :: ss, by rw [List.map_cons, e]; rfl⟩
def cmpI (x y : Int) : Int := if x < y then -1 else if y < x then 1 else 0
theorem cmpI_neg (x y : Int) : decide (cmpI x y < 0) = decide (x < y) := by
  unfold cmpI
  by_cases h : x < y
  · simp [h]
  · rw [if_neg h]; split <;> simp [h]
set_option maxRecDepth 100000 in
set_option maxHeartbeats 1000000 in
theorem nan64 (x : Int) (w : World) : Calls Tryd.prog 135 #[.int .i64 x] w fun e w' => e = .returned (.bool false) ∧ w' = w := by
  go_enter Tryd.func135, Tryd.ntmps135
  go_wp2
  go_ret
  exact ⟨rfl, rfl⟩
set_option maxRecDepth 100000 in
set_option maxHeartbeats 1000000 in
theorem cmp64 (x y : Int) (w : World) : Calls Tryd.prog 129 #[.int .i64 x, .int .i64 y] w fun e w' => e = .returned (.int .i64 (cmpI x y)) ∧ w' = w := by
  by_cases h : x < y
  · have HR := Lib.hid (show cmpI x y = -1 by unfold cmpI; rw [if_pos h])
    have hd : decide (x < y) = true := by simpa using h
    rw [HR.out]
    go_enter Tryd.func129, Tryd.ntmps129
    go_wp2_with fail
    refine (nan64 x _).mono ?_
    rintro e w1 ⟨rfl, rfl⟩
    go_wp2_with fail
    refine (nan64 y _).mono ?_
    rintro e w1 ⟨rfl, rfl⟩
    go_wp2
    go_ret
    exact ⟨rfl, rfl⟩
  · have hd : decide (x < y) = false := by simpa using h
    by_cases h2 : y < x
    · have HR := Lib.hid (show cmpI x y = 1 by unfold cmpI; rw [if_neg h, if_pos h2])
      have hd2 : decide (y < x) = true := by simpa using h2
      rw [HR.out]
      go_enter Tryd.func129, Tryd.ntmps129
      go_wp2_with fail
      refine (nan64 x _).mono ?_
      rintro e w1 ⟨rfl, rfl⟩
      go_wp2_with fail
      refine (nan64 y _).mono ?_
      rintro e w1 ⟨rfl, rfl⟩
      go_wp2
      go_ret
      exact ⟨rfl, rfl⟩
    · have HR := Lib.hid (show cmpI x y = 0 by unfold cmpI; rw [if_neg h, if_neg h2])
      have hd2 : decide (y < x) = false := by simpa using h2
      rw [HR.out]
      go_enter Tryd.func129, Tryd.ntmps129
      go_wp2_with fail
      refine (nan64 x _).mono ?_
      rintro e w1 ⟨rfl, rfl⟩
      go_wp2_with fail
      refine (nan64 y _).mono ?_
      rintro e w1 ⟨rfl, rfl⟩
      go_wp2
      go_ret
      exact ⟨rfl, rfl⟩
end Go.Proofs.YtcjpplijbdfgbaaDoor
