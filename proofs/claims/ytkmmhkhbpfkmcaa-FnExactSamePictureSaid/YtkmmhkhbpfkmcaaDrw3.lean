/- Copies of drawings that a law has made. -/
import Derived.Test.YtkmmhkhbpfkmcaaDrw2
import Derived.Test.YtkmmhkhbpfkmcaaMkText
namespace Go.Proofs.Ytkmmhkhbpfkmcaa
open Go.ChangeShapes Go.WideShapes Go.ChangeAt Go.RowKit
set_option linter.unusedVariables false
set_option linter.unusedSimpArgs false

theorem make_ints (n : Nat) (hn : n ≤ 1048576) (w : World) : (Instr.makeSlice 63 (.int .i64 (n : Int)) (.int .i64 (n : Int))).run Try.prog w = .ok (.slice (some ⟨w.heap.size, 0, none⟩) n n) (w.alloc (.cells (madeCells #[.int .i64 0] n) 2)) := by
  obtain ⟨i0, hi, hz0, hz1, hz2⟩ := info_int
  have h := run_make (P := Try.prog) w 63 2 i0 _ Try.underlying63 hi hz0 .i64 .i64 n n (by omega) (by omega) (by rw [hz2]; omega) (by omega)
  rw [hz1, show (Value.int .i64 0).cells = #[.int .i64 0] from rfl] at h
  simpa using h
/-- The cells of a row of integers, of which the first k are laid. -/
def inF (zs : List Int) (k j : Nat) : Value := if j < k then .int .i64 (zs.getD j 0) else .int .i64 0
theorem made_ints (w : World) (n : Nat) (zs : List Int) (t : TypeId) : (w.alloc (.cells (madeCells #[.int .i64 0] n) t)).rowIs w.heap.size t n (inF zs 0) := by
  have h := World.rowIs_alloc w (madeCells #[.int .i64 0] n) t (inF zs 0) (fun i hi => by
    rw [size_madeCells] at hi
    simp [madeCells, hi, inF, Nat.mod_one])
  rw [size_madeCells] at h
  exact h
theorem inF_step {zs : List Int} {k : Nat} {x : Int} (h : zs.getD k 0 = x) (j : Nat) : (if j = k then Value.int .i64 x else inF zs k j) = inF zs (k + 1) j := by
  unfold inF
  by_cases h2 : j = k
  · subst h2; rw [if_pos rfl, if_pos (by omega), h]
  · rw [if_neg h2]
    by_cases h3 : j < k
    · rw [if_pos h3, if_pos (by omega)]
    · rw [if_neg h3, if_neg (by omega)]
theorem own_copyI {w : World} {base g n : Nat} {zs : List Int} (hz : n = zs.length) (hn : n ≤ 1048576) (hb : base ≤ g) (h : w.rowIs g 2 n (inF zs n)) : w.ownsRow base 2 1 (.slice (some ⟨g, 0, none⟩) n n) n (flatI zs) := by
  obtain ⟨c, h1, h2, h3⟩ := h
  refine ⟨by rw [flatI_len, hz]; omega, Or.inr ⟨g, n, c, rfl, hb, h1, Nat.le_refl _, by unfold maxLen; omega, by omega, ?_⟩⟩
  apply List.ext_getElem?
  intro j
  by_cases hj : j < n
  · rw [List.getElem?_take_of_lt (by omega), Array.getElem?_toList, h3 j hj]
    unfold inF flatI
    rw [if_pos (by omega), List.getElem?_map, List.getElem?_eq_getElem (by omega)]
    simp [List.getD_eq_getElem?_getD, show j < zs.length by omega]
  · rw [List.getElem?_take, if_neg (by omega), List.getElem?_eq_none (by rw [flatI_len]; omega)]
set_option maxRecDepth 100000 in
set_option maxHeartbeats 1000000 in
theorem toI_own (ao : Option Addr) (n c : Nat) (zs : List Int) (w : World) (hn : n ≤ 1048576) (hv : IL w ao n zs) :
    Calls Try.prog 40 #[.slice ao n c] w fun e w' => ∃ g, e = .returned (.slice (some ⟨g, 0, none⟩) n n) ∧ w.heap.size ≤ g ∧ w'.ownsRow w.heap.size 2 1 (.slice (some ⟨g, 0, none⟩) n n) n (flatI zs) ∧ Below w.heap.size w w' := by
  have HV := Lib.hid hv
  have HZ := Lib.hid hv.1
  clear hv
  have hmk := make_ints n hn
  go_enter Try.func40, Try.ntmps40
  go_wp2
  clear hmk
  go_loopw [4] (fun iv wr => ∃ k : Nat, k ≤ n ∧ iv = .int .i64 k ∧ Hid (wr.rowIs w.heap.size 2 n (inF zs k)) ∧ Hid (Below w.heap.size w wr)) (fun i _ => n - (intOf i).toNat)
  case atStart => exact ⟨0, by omega, rfl, Lib.hid (made_ints w n zs _), Lib.hid (one_alloc _)⟩
  case round =>
    obtain ⟨k, hk, rfl, hr, hb⟩ := hrel
    by_cases hlt : k < n
    · obtain ⟨b, off, rfl, hbw, hcs⟩ := HV.out.2.resolve_left (by omega)
      have c0 := (hb.out.cell (p := ⟨b, off + k, none⟩) hbw).trans (hcs k hlt)
      obtain ⟨x, e⟩ : ∃ x, zs.getD k 0 = x := ⟨_, rfl⟩
      rw [e] at c0
      have HE := Lib.hid (inF_step e)
      have hgw := hr.out.lt
      have d0 := hr.out.cell (i := k) (by omega)
      rw [inF, if_neg (by omega)] at d0
      have f0 := hr.out.frozen k
      have hbr : b < wr.heap.size := Nat.lt_of_lt_of_le hbw hb.out.size
      clear hcs e
      go_wp2
      go_roundw
      case rel => exact ⟨k + 1, by omega, by go_num, Lib.hid ((hr.out.set k _).congr (fun j _ => HE.out j)), Lib.hid (hb.out.setCell (Nat.le_refl _) _)⟩
      case measure => simp [intOf]; omega
    · obtain rfl : k = n := by omega
      go_wp2
      go_ret
      exact ⟨_, rfl, Nat.le_refl _, own_copyI HZ.out hn (Nat.le_refl _) hr.out, hb.out⟩
def fcV (s : ByteArray) (g n : Nat) : Value := .agg #[.string s, .slice (some ⟨g, 0, none⟩) n n]
theorem cells2_at {w : World} {b : Nat} {x y : Value} {t : TypeId} {cur : Array Value} (h : w.heap[b]? = some (.cells cur t (0, 0))) (hc : cur = #[x, y]) : w.cell? ⟨b, 0, none⟩ = some x ∧ w.frozen? ⟨b, 0, none⟩ = false ∧ w.cell? ⟨b, 1, none⟩ = some y ∧ w.frozen? ⟨b, 1, none⟩ = false := by
  subst hc; simp [World.cell?, World.frozen?, h]
theorem grown_setC (w : World) (a : Addr) (u : Value) : w.grownBy (w.setCell a u) (some a.block) :=
  ⟨rfl, rfl, rfl, by simp, fun i _ hne => Below.heap_setCell _ _ _ _ (fun e => hne (by rw [e]))⟩
theorem own_lower {w : World} {b b' e size n : Nat} {v : Value} {xs : List Value} (h : w.ownsRow b e size v n xs) (hb : b' ≤ b) : w.ownsRow b' e size v n xs := by
  rcases h with ⟨h1, ⟨h2, h3⟩ | ⟨g, cap, cur, h2, h3, h4⟩⟩
  · exact ⟨h1, Or.inl ⟨h2, h3⟩⟩
  · exact ⟨h1, Or.inr ⟨g, cap, cur, h2, Nat.le_trans hb h3, h4⟩⟩
theorem keep_set {w : World} {base e size n : Nat} {v : Value} {xs : List Value} (h : w.ownsRow base e size v n xs) (a : Addr) (u : Value) (ha : a.block < base) : (w.setCell a u).ownsRow base e size v n xs :=
  h.kept (grown_setC w a u) (by
    cases hv : v.ownBlock with
    | none => exact Or.inl rfl
    | some k => exact Or.inr (by have := (h.lt k hv).1; simp; omega))
set_option maxRecDepth 100000 in
set_option maxHeartbeats 1000000 in
theorem toFc_own (s : ByteArray) (ao : Option Addr) (n c : Nat) (zs : List Int) (w : World) (hn : n ≤ 1048576) (hv : IL w ao n zs) :
    Calls Try.prog 35 #[.agg #[.string s, .slice ao n c]] w fun e w' => ∃ g, e = .returned (fcV s g n) ∧ w'.ownsRow w.heap.size 2 1 (.slice (some ⟨g, 0, none⟩) n n) n (flatI zs) ∧ Below w.heap.size w w' := by
  have HV := Lib.hid hv
  clear hv
  have HA := Lib.hid (three_allocs (w := w) (.cells #[.string s, .slice ao n c] 71) (.cells #[.string ⟨#[]⟩, .slice none 0 0] 65) (.cells #[.string s, .slice none 0 0] 65))
  go_enter Try.func35, Try.ntmps35
  go_wp2_with fail
  refine (toI_own ao n c zs _ hn (HV.out.below ?_)).mono ?_
  · exact three_allocs _ _ _
  rintro e w1 ⟨g, rfl, hg, ho, hb⟩
  have HB := Lib.hid hb
  have HO := Lib.hid ho
  have a0 : w1.cell? ⟨w.heap.size, 1, none⟩ = some (.slice ao n c) := by rw [(bcell hb).1 _ _ (by simp <;> omega)]; go_simp
  have c0 : w1.cell? ⟨w.heap.size + 1 + 1, 0, none⟩ = some (.string s) := by rw [(bcell hb).1 _ _ (by simp)]; go_simp
  have c1 : w1.cell? ⟨w.heap.size + 1 + 1, 1, none⟩ = some (.slice none 0 0) := by rw [(bcell hb).1 _ _ (by simp)]; go_simp
  have f1 : w1.frozen? ⟨w.heap.size + 1 + 1, 1, none⟩ = false := by rw [(bcell hb).2 _ _ (by simp)]; go_simp
  have d0 : w1.cell? ⟨w.heap.size + 1, 0, none⟩ = some (.string ⟨#[]⟩) := by rw [(bcell hb).1 _ _ (by simp)]; go_simp
  have d1 : w1.cell? ⟨w.heap.size + 1, 1, none⟩ = some (.slice none 0 0) := by rw [(bcell hb).1 _ _ (by simp)]; go_simp
  have f2 : w1.frozen? ⟨w.heap.size + 1, 0, none⟩ = false := by rw [(bcell hb).2 _ _ (by simp)]; go_simp
  have f3 : w1.frozen? ⟨w.heap.size + 1, 1, none⟩ = false := by rw [(bcell hb).2 _ _ (by simp)]; go_simp
  have hz : w.heap.size + 1 + 1 < w1.heap.size := by have := hb.size; simp at this; omega
  clear hb ho
  go_wp2
  have hb := HB.out
  have e1 := keep_set HO.out ⟨w.heap.size + 1 + 1, 1, none⟩ (.slice (some ⟨g, 0, none⟩) n n) (by simp)
  have e2 := keep_set e1 ⟨w.heap.size + 1, 0, none⟩ (.string s) (by simp <;> omega)
  have e3 := keep_set e2 ⟨w.heap.size + 1, 1, none⟩ (.slice (some ⟨g, 0, none⟩) n n) (by simp <;> omega)
  have b0 := HA.out.trans (hb.mono (by simp <;> omega))
  have b1 := b0.setCell (p := ⟨w.heap.size + 1 + 1, 1, none⟩) (by show w.heap.size ≤ w.heap.size + 1 + 1; omega) (.slice (some ⟨g, 0, none⟩) n n)
  have b2 := b1.setCell (p := ⟨w.heap.size + 1, 0, none⟩) (by show w.heap.size ≤ w.heap.size + 1; omega) (.string s)
  have b3 := b2.setCell (p := ⟨w.heap.size + 1, 1, none⟩) (by show w.heap.size ≤ w.heap.size + 1; omega) (.slice (some ⟨g, 0, none⟩) n n)
  exact bodyPost_ret (v := fcV s g n) (by simp [results, Try.results35, go_sem, fcV, d0, d1, c0, c1, hz]) rfl ⟨g, rfl, own_lower e3 (by simp <;> omega), b3⟩
end Go.Proofs.Ytkmmhkhbpfkmcaa
