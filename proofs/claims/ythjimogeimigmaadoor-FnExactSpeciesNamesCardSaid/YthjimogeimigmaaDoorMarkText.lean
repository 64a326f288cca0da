/- markText, markStringS, heldStringS, eqStringS of the laws, over slices that calls have made. -/
import Derived.Test.YthjimogeimigmaaDoorWords
import Derived.Test.YthjimogeimigmaaDoorMarks
import Derived.Deep.RegionHeld3
namespace Go.Proofs.YthjimogeimigmaaDoor
open Go.ChangeShapes Go.WideShapes Go.ChangeAt Go.RowKit

def mtL (k : Nat) : List UInt8 := 109 :: Lib.decDigits k
def MtInv (k m : Nat) (O : List UInt8) : Prop := revD k = O.reverse ++ revD m ∧ O.length ≤ 20
theorem mt_step {k m : Nat} {O : List UInt8} (h : MtInv k m O) (hm : m ≠ 0) (hk : k < 10 ^ 20) : MtInv k (m / 10) (UInt8.ofNat (48 + m % 10) :: O) := by
  obtain ⟨h1, _⟩ := h
  have e : revD k = (UInt8.ofNat (48 + m % 10) :: O).reverse ++ revD (m / 10) := by rw [h1, revD_pos m hm]; simp
  refine ⟨e, ?_⟩
  have := congrArg List.length e
  have h2 := revD_len 20 k hk
  rw [List.length_append, List.length_reverse] at this
  omega
theorem mt_end {k : Nat} {O : List UInt8} (h : MtInv k 0 O) (hk : k ≠ 0) : O = Lib.decDigits k := by
  have := h.1
  rw [revD_zero, List.append_nil] at this
  rw [dec_rev k hk, this, List.reverse_reverse]
theorem conv1 (c : UInt8) (w : World) (t : TypeId) (n : Int) (hn : n = (c.toNat : Int)) : (convert 60 9 (.slice (some ⟨w.heap.size, 0, none⟩) 1 1)).run Tryd.prog (w.alloc (.cells #[.int .u8 n] t)) = .ok (.string (tb [c])) (w.alloc (.cells #[.int .u8 n] t)) := by
  subst hn
  refine run_convert_bytes_back (P := Tryd.prog) (w.alloc (.cells #[.int .u8 (c.toNat : Int)] t)) 60 9 5 ⟨w.heap.size, 0, none⟩ 1 [c] Tryd.underlying60 Tryd.underlying5 Tryd.underlying9 (fun j hj => ?_)
  match j, hj with
  | 0, _ => simp [Addr.add]

set_option maxRecDepth 100000 in
set_option maxHeartbeats 1000000 in
theorem markText_any (k : Nat) (w : World) (hk : 1 ≤ k) (hk2 : k ≤ 2000000) :
    Calls Tryd.prog 51 #[.int .i64 k] w fun e w' => e = .returned (.string (tb (mtL k))) ∧ Below w.heap.size w w' := by
  go_enter Tryd.func51, Tryd.ntmps51
  go_wp2
  go_loopw [0, 3] (fun n o wr => ∃ (m : Nat) (O : List UInt8), m ≤ k ∧ n = .int .i64 m ∧ o = .string (tb O) ∧ Hid (MtInv k m O) ∧ Hid (Below w.heap.size w wr)) (fun n _ _ => (intOf n).toNat)
  case atStart => exact ⟨k, [], by omega, rfl, rfl, Lib.hid ⟨by simp, by simp⟩, Lib.hid (Below.refl _ _)⟩
  case round =>
    obtain ⟨m, O, hm, rfl, rfl, hI, hB⟩ := hrel
    have hOl := hI.out.2
    by_cases hp : 0 < m
    · have HN := Lib.hid (mt_step hI.out (by omega) (by omega))
      have hcv := conv1 (UInt8.ofNat (48 + m % 10)) wr 5 (48 + (m : Int) % 10) (by rw [UInt8.toNat_ofNat']; omega)
      generalize UInt8.ofNat (48 + m % 10) = c at *
      have had := fun w => add_tb [c] O w (by simp; omega)
      have hBs := hB.out.size
      go_wp2
      go_roundw
      case rel => exact ⟨m / 10, c :: O, by omega, by go_num, rfl, HN, Lib.hid (hB.out.alloc hBs _)⟩
      case measure => simp [intOf]; omega
    · have hm0 : m = 0 := by omega
      subst hm0
      have HE := Lib.hid (mt_end hI.out (by omega))
      have had : ∀ w, (Op.stringOp .add ⟨#[109]⟩ (tb O)).run Tryd.prog w = .ok (.string (tb (109 :: O))) w := fun w => add_tb [109] O w (by simp; omega)
      go_wp2
      go_ret
      exact ⟨ret_tb (by rw [HE.out]; rfl), hB.out⟩

theorem eqStrs_nil (a1 a2 : Option Addr) (c1 c2 : Nat) (w : World) :
    Calls Tryd.prog 16 #[.slice a1 0 c1, .slice a2 0 c2] w fun e w' => e = .returned (.bool true) ∧ ∃ n, w' = w.drewN n := by
  go_enter Tryd.func16, Tryd.ntmps16
  go_wp2
  go_loop [5] (fun i => i = .int .i64 0) (fun _ => 0)
  case atStart => rfl
  case round =>
    obtain rfl := hrel
    go_wp2
    go_ret
    exact ⟨rfl, 0, rfl⟩
def StrsAt (w : World) (g : Nat) (L : List (List UInt8)) : Prop := ∀ j, j < L.length → w.cell? ⟨g, j, none⟩ = some (.string (tb (L.getD j [])))
set_option maxHeartbeats 1000000 in
theorem eqStrs_yes (b1 b2 c1 c2 : Nat) (L : List (List UInt8)) (w : World) (hl : L.length ≤ 2000000) (h1 : StrsAt w b1 L) (h2 : StrsAt w b2 L) :
    Calls Tryd.prog 16 #[.slice (some ⟨b1, 0, none⟩) L.length c1, .slice (some ⟨b2, 0, none⟩) L.length c2] w fun e w' => e = .returned (.bool true) ∧ ∃ n, w' = w.drewN n := by
  have H1 := Lib.hid h1
  have H2 := Lib.hid h2
  clear h1 h2
  go_enter Tryd.func16, Tryd.ntmps16
  go_wp2
  go_loopw [5] (fun i wr => ∃ k n : Nat, k ≤ L.length ∧ i = .int .i64 k ∧ wr = w.drewN n) (fun i _ => L.length - (intOf i).toNat)
  case atStart => exact ⟨0, 0, by omega, rfl, rfl⟩
  case round =>
    obtain ⟨k, n, hk, rfl, rfl⟩ := hrel
    by_cases hlt : k < L.length
    · have c1' := H1.out k hlt
      have c2' := H2.out k hlt
      have hlt' : (k : Int) < (L.length : Int) := by omega
      generalize L.getD k [] = y at *
      go_wp2
      go_quiet (fail)
      go_wp2
      go_roundw
      case rel => exact ⟨k + 1, _, by omega, by go_num, rfl⟩
      case measure => simp [intOf]; omega
    · go_wp2
      go_ret
      exact ⟨rfl, n, rfl⟩
theorem eqOwnS (v1 v2 : Value) (b1 b2 : Nat) (L : List (List UInt8)) (w : World) (hl : L.length ≤ 2000000) (h1 : w.ownsRow b1 9 1 v1 L.length (L.map sV)) (h2 : w.ownsRow b2 9 1 v2 L.length (L.map sV)) :
    Calls Tryd.prog 16 #[v1, v2] w fun e w' => e = .returned (.bool true) ∧ ∃ n, w' = w.drewN n := by
  have h1' := h1
  have h2' := h2
  obtain ⟨a1, c1, rfl, s1⟩ := own_view h1
  obtain ⟨a2, c2, rfl, s2⟩ := own_view h2
  by_cases h0 : L.length = 0
  · rw [h0]; exact eqStrs_nil a1 a2 c1 c2 w
  · obtain ⟨g1, rfl, _, l1⟩ := s1 (by omega)
    obtain ⟨g2, rfl, _, l2⟩ := s2 (by omega)
    refine eqStrs_yes g1 g2 c1 c2 L w hl (fun j hj => ?_) (fun j hj => ?_)
    · rw [h1'.cellAt j (by omega)]; simp [hj, sV]
    · rw [h2'.cellAt j (by omega)]; simp [hj, sV]

/-- The slice v of n places holds the marks 1 .. n. -/
def MarkedS (w : World) (base : Nat) (v : Value) (n : Nat) : Prop := ∃ X, w.ownsRow base 9 1 v n X ∧ ∀ t, t < n → X[t]? = some (.string (tb (mtL (1 + t))))
structure MsInv (k n base g cap : Nat) (w wr : World) : Prop where
  own : ∃ X, wr.ownsRow base 9 1 (.slice (some ⟨g, 0, none⟩) n cap) n X ∧ ∀ t, t < k → X[t]? = some (.string (tb (mtL (1 + t))))
  below : Below base w wr
  lt : base ≤ g
theorem ms_call {k n base g cap : Nat} {w wr w1 : World} (h : MsInv k n base g cap w wr) (hb : Below wr.heap.size wr w1) : MsInv k n base g cap w w1 := by
  obtain ⟨⟨X, h1, h2⟩, h3, h4⟩ := h
  have := (h1.lt g rfl).2
  exact ⟨⟨X, own_below h1 hb (Nat.le_refl _), h2⟩, h3.trans (hb.mono (by omega)), h4⟩
theorem ms_step {k n base g cap : Nat} {w wr : World} (h : MsInv k n base g cap w wr) (hk : k < n) : MsInv (k + 1) n base g cap w (wr.setCell ⟨g, k, none⟩ (.string (tb (mtL (1 + k))))) := by
  obtain ⟨⟨X, h1, h2⟩, h3, h4⟩ := h
  have hX : X.length = n := by have := h1.1; simpa using this
  obtain ⟨s1, s2⟩ := h1.stored k (.string (tb (mtL (1 + k))))
  refine ⟨⟨_, s1, fun j hj => ?_⟩, h3.setCell h4 _, h4⟩
  by_cases e : j = k
  · subst e; rw [List.getElem?_set_self (by omega)]
  · rw [List.getElem?_set_ne (by omega)]; exact h2 j (by omega)
theorem ms_free {k n base g cap : Nat} {w wr : World} (h : MsInv k n base g cap w wr) (j : Nat) : wr.frozen? ⟨g, j, none⟩ = false := by
  obtain ⟨⟨X, h1, _⟩, _, _⟩ := h
  exact h1.frozenAt j
theorem ms_cell {k n base g cap : Nat} {w wr : World} (h : MsInv k n base g cap w wr) (j : Nat) (hj : j < n) : ∃ v, wr.cell? ⟨g, j, none⟩ = some v := by
  obtain ⟨⟨X, h1, _⟩, _, _⟩ := h
  have hX : X.length = n := by have := h1.1; simpa using this
  exact ⟨X[j]'(by omega), by rw [h1.cellAt j (by omega)]; simp⟩
theorem mt_int (k : Nat) (n : Int) (w : World) (hn : n = 1 + (k : Int)) (hk2 : k ≤ 1999990) :
    Calls Tryd.prog 51 #[.int .i64 n] w fun e w' => e = .returned (.string (tb (mtL (1 + k)))) ∧ Below w.heap.size w w' := by
  have e : n = ((1 + k : Nat) : Int) := by omega
  rw [e]
  exact markText_any (1 + k) w (by omega) (by omega)

set_option maxRecDepth 100000 in
set_option maxHeartbeats 1000000 in
theorem markOwnS (v : Value) (base n : Nat) (xs : List Value) (w : World) (hl : n ≤ 1900000) (h : w.ownsRow base 9 1 v n xs) :
    Calls Tryd.prog 17 #[v, .int .i64 1] w fun e w' => e = .returned (.int .i64 (1 + (n : Int))) ∧ MarkedS w' base v n ∧ Below base w w' := by
  obtain ⟨ao, cap, rfl, sh⟩ := own_view h
  by_cases h0 : n = 0
  · subst h0
    have HO : Hid (MarkedS w base (.slice ao 0 cap) 0) := Lib.hid ⟨xs, h, fun t ht => by omega⟩
    clear h sh
    go_enter Tryd.func17, Tryd.ntmps17
    go_wp2
    go_loop [1, 5] (fun k i => k = .int .i64 1 ∧ i = .int .i64 0) (fun _ _ => 0)
    case atStart => exact ⟨rfl, rfl⟩
    case round =>
      obtain ⟨rfl, rfl⟩ := hrel
      go_wp2
      go_ret
      exact ⟨rfl, HO.out, Below.refl _ _⟩
  · obtain ⟨g, rfl, hg1, hg2⟩ := sh (by omega)
    have HI : Hid (MsInv 0 n base g cap w w) := Lib.hid ⟨⟨xs, h, fun t ht => by omega⟩, Below.refl _ _, hg1⟩
    clear h sh h0
    go_enter Tryd.func17, Tryd.ntmps17
    go_wp2
    go_loopw [1, 5] (fun m i wr => ∃ k : Nat, k ≤ n ∧ m = .int .i64 (1 + (k : Int)) ∧ i = .int .i64 k ∧ Hid (MsInv k n base g cap w wr)) (fun _ i _ => n - (intOf i).toNat)
    case atStart => exact ⟨0, by omega, rfl, rfl, HI⟩
    case round =>
      obtain ⟨k, hk, rfl, rfl, hI⟩ := hrel
      by_cases hlt : k < n
      · go_wp2_with ((with_reducible refine (mt_int k _ _ rfl (by omega)).mono ?_); rintro e w2 ⟨rfl, hb1⟩; have hI1 := Lib.hid (ms_call hI.out hb1); obtain ⟨v0, hdst⟩ := ms_cell hI1.out k hlt; have hfree := ms_free hI1.out k; clear hb1)
        have HN := Lib.hid (ms_step hI1.out hlt)
        go_roundw
        case rel => exact ⟨k + 1, by omega, val_int (by omega), by go_num, HN⟩
        case measure => simp [intOf]; omega
      · have HE : Hid (MarkedS wr base (.slice (some ⟨g, 0, none⟩) n cap) n) := Lib.hid (by
          obtain ⟨⟨X, h1, h2⟩, _, _⟩ := hI.out
          exact ⟨X, h1, fun t ht => h2 t (by omega)⟩)
        have HB := Lib.hid hI.out.below
        have hkn : k = n := by omega
        subst hkn
        go_wp2
        go_ret
        exact ⟨rfl, HE.out, HB.out⟩

set_option maxRecDepth 100000 in
set_option maxHeartbeats 1000000 in
theorem heldOwnS (v : Value) (base n : Nat) (w : World) (hl : n ≤ 1900000) (h : MarkedS w base v n) :
    Calls Tryd.prog 18 #[v, .int .i64 1] w fun e w' => e = .returned (.int .i64 (1 + (n : Int))) ∧ Below w.heap.size w w' := by
  obtain ⟨X, h, hX⟩ := h
  obtain ⟨ao, cap, rfl, sh⟩ := own_view h
  by_cases h0 : n = 0
  · subst h0
    clear h sh hX
    go_enter Tryd.func18, Tryd.ntmps18
    go_wp2
    go_loop [1, 5] (fun k i => k = .int .i64 1 ∧ i = .int .i64 0) (fun _ _ => 0)
    case atStart => exact ⟨rfl, rfl⟩
    case round =>
      obtain ⟨rfl, rfl⟩ := hrel
      go_wp2
      go_ret
      exact ⟨rfl, Below.refl _ _⟩
  · obtain ⟨g, rfl, hg1, hg2⟩ := sh (by omega)
    have HC : Hid (∀ t, t < n → w.cell? ⟨g, t, none⟩ = some (.string (tb (mtL (1 + t))))) := Lib.hid (fun t ht => by rw [h.cellAt t (by omega)]; exact hX t ht)
    clear h sh h0 hX
    go_enter Tryd.func18, Tryd.ntmps18
    go_wp2
    go_loopw [1, 5] (fun m i wr => ∃ k : Nat, k ≤ n ∧ m = .int .i64 (1 + (k : Int)) ∧ i = .int .i64 k ∧ Hid (Below w.heap.size w wr)) (fun _ i _ => n - (intOf i).toNat)
    case atStart => exact ⟨0, by omega, rfl, rfl, Lib.hid (Below.refl _ _)⟩
    case round =>
      obtain ⟨k, hk, rfl, rfl, hB⟩ := hrel
      by_cases hlt : k < n
      · have hcell : wr.cell? ⟨g, k, none⟩ = some (.string (tb (mtL (1 + k)))) := (hB.out.cell (p := ⟨g, k, none⟩) hg2).trans (HC.out k hlt)
        have hlt' : (k : Int) < (n : Int) := by omega
        have hgw : g < wr.heap.size := by have := hB.out.size; omega
        go_wp2
        go_region_held3 (fun w' => w'.cell? ⟨g, k, none⟩ = some (.string (tb (mtL (1 + k)))) ∧ Below wr.heap.size wr w') (first | exact ⟨by simpa using hcell, (Below.refl _ _).drew⟩ | go_keep | (go_split_ands; have hz := Below.size (‹Below wr.heap.size wr _›); exact ⟨(hb1.cell (p := ⟨g, k, none⟩) (by simp; omega)).trans (by assumption), Below.trans (‹Below wr.heap.size wr _›) (hb1.mono hz)⟩)) (first | (go_at_call 51; refine (mt_int k _ _ rfl (by omega)).mono ?_; rintro e w2 ⟨rfl, hb1⟩))
        have hbw : Below wr.heap.size wr w2 := (‹_ ∧ Below wr.heap.size wr w2›).2
        go_wp2
        go_roundw
        case rel => exact ⟨k + 1, by omega, val_int (by omega), by go_num, Lib.hid (hB.out.trans (hbw.mono hB.out.size))⟩
        case measure => simp [intOf]; omega
      · have hkn : k = n := by omega
        subst hkn
        go_wp2
        go_ret
        exact ⟨rfl, hB.out⟩
end Go.Proofs.YthjimogeimigmaaDoor
