/- Slices of integers that a call has made: are two equal, marks in them. -/
import Derived.Test.YtjhmpmaademdcaaOwnMark
import Derived.Test.YtjhmpmaademdcaaPolyG4
namespace Go.Proofs.Ytjhmpmaademdcaa
open Go.ChangeShapes Go.WideShapes Go.ChangeAt Go.RowKit
set_option linter.unusedVariables false
set_option linter.unusedSimpArgs false

def flatI (zs : List Int) : List Value := zs.map fun z => .int .i64 z
theorem flatI_len (zs : List Int) : (flatI zs).length = zs.length := by simp [flatI]
/-- A slice of integers, as it lies in memory. -/
def IV (w : World) (ao : Option Addr) (n : Nat) (zs : List Int) : Prop := n = zs.length ∧ (n = 0 ∨ ∃ b, ao = some ⟨b, 0, none⟩ ∧ b < w.heap.size ∧ ∀ j, j < n → w.cell? ⟨b, j, none⟩ = some (.int .i64 (zs.getD j 0)))
theorem IV.below {w w' : World} {ao : Option Addr} {n : Nat} {zs : List Int} (h : IV w ao n zs) (hb : Below w.heap.size w w') : IV w' ao n zs :=
  ⟨h.1, h.2.imp id fun ⟨b, e, h1, h2⟩ => ⟨b, e, Nat.lt_of_lt_of_le h1 hb.size, fun j hj => (hb.cell (p := ⟨b, j, none⟩) h1).trans (h2 j hj)⟩⟩
theorem own_sliceI {w' : World} {base : Nat} {v : Value} {zs : List Int} (h : w'.ownsRow base 2 1 v zs.length (flatI zs)) : ∃ ao cap, v = .slice ao zs.length cap ∧ IV w' ao zs.length zs := by
  rcases id h with ⟨_, ⟨rfl, h0⟩ | ⟨g, cap, cur, rfl, hb, hg, hc1, hc2, hs, ht⟩⟩
  · exact ⟨none, 0, by rw [h0], rfl, Or.inl h0⟩
  · refine ⟨_, cap, rfl, rfl, Or.inr ⟨g, rfl, (Array.getElem?_eq_some_iff.1 hg).1, fun j hj => ?_⟩⟩
    have := congrArg (fun l => l[j]?) ht
    rw [Nat.mul_one] at this
    simp only [List.getElem?_take_of_lt hj, flatI, List.getElem?_map, List.getElem?_eq_getElem hj, Option.map_some] at this
    refine (cell_of_arr hg (j := j) ?_).1
    simpa [List.getD_eq_getElem?_getD, hj] using this
theorem own_pvI {w' : World} {base n cap : Nat} {ao : Option Addr} {zs : List Int} (hn : n = zs.length) (h : w'.ownsRow base 2 1 (.slice ao n cap) n (flatI zs)) : IV w' ao n zs := by
  subst hn
  obtain ⟨a, c, h1, h2⟩ := own_sliceI h
  cases h1
  exact h2
set_option maxRecDepth 100000 in
set_option maxHeartbeats 1000000 in
theorem eqI_same (ao bo : Option Addr) (n c d : Nat) (zs : List Int) (w : World) (hn : n ≤ 1048576) (ha : IV w ao n zs) (hb : IV w bo n zs) :
    Calls Try.prog 34 #[.slice ao n c, .slice bo n d] w fun e w' => e = .returned (.bool true) ∧ Below w.heap.size w w' := by
  have HA := Lib.hid ha
  have HB := Lib.hid hb
  clear ha hb
  go_enter Try.func34, Try.ntmps34
  go_wp2
  go_loopw [5] (fun iv wr => ∃ k : Nat, k ≤ n ∧ iv = .int .i64 k ∧ Hid (Below w.heap.size w wr)) (fun i _ => n - (intOf i).toNat)
  case atStart => exact ⟨0, by omega, rfl, Lib.hid (Below.refl _ _)⟩
  case round =>
    obtain ⟨k, hk, rfl, hw⟩ := hrel
    by_cases hlt : k < n
    · obtain ⟨a, rfl, haw, hca⟩ := (HA.out.below hw.out).2.resolve_left (by omega)
      obtain ⟨b, rfl, hbw, hcb⟩ := (HB.out.below hw.out).2.resolve_left (by omega)
      have a0 := hca k hlt
      have b0 := hcb k hlt
      clear hca hcb
      generalize zs.getD k 0 = x at *
      go_wp2
      refine wp_region_below (by kernel_rfl) (by kernel_rfl) ?_
      repeat (first | (refine wq_skip ?_ ?_; (focus (go_simp; done)); (try simp only [Act.put, List.setIfInBounds_toArray, List.set_cons_zero, List.set_cons_succ])) | (refine wq_val ?_ ?_; (focus (go_simp; done)); apply Exists.intro; refine ⟨fun w1 hw1 => ?_, ?_⟩; (obtain ⟨hc, hf⟩ := bcell hw1; clear hw1; go_simp; (first | done | with_reducible rfl | (with_reducible exact eql2 _ _ _) | (with_reducible exact neq2 _ _ _))); (try simp only [Act.put, List.setIfInBounds_toArray, List.set_cons_zero, List.set_cons_succ])))
      refine wq_nil ?_
      intro w1 hb1
      have HB1 := Lib.hid hb1
      clear hb1
      go_wp2
      go_roundw
      case rel => exact ⟨k + 1, by omega, by go_num, Lib.hid (bseq hw.out HB1.out)⟩
      case measure => simp [intOf]; omega
    · go_wp2
      go_ret
      exact ⟨rfl, hw.out⟩
set_option maxRecDepth 100000 in
set_option maxHeartbeats 1000000 in
theorem markI_any (base n : Nat) (k : Int) (v : Value) (xs : List Value) (w : World) (hn : n ≤ 1048576) (h0 : 0 ≤ k) (h1 : k ≤ 1000000000) (hv : w.ownsRow base 2 1 v n xs) :
    Calls Try.prog 35 #[v, .int .i64 k] w fun e w' => e = .returned (.int .i64 (k + n)) ∧ w.grownBy w' v.ownBlock ∧ w'.ownsRow base 2 1 v n (marks k (n * 1)) := by
  rcases hv.2 with ⟨rfl, rfl⟩ | ⟨b, cap, cur, rfl, hb, hg, hc1, hc2, hsz, _⟩
  · clear hv
    have e0 : k + ((0 : Nat) : Int) = k := by omega
    go_enter Try.func35, Try.ntmps35
    go_wp2
    go_loopw [5, 1] (fun iv kv wr => iv = .int .i64 0 ∧ kv = .int .i64 k ∧ w = wr) (fun _ _ _ => 0)
    case atStart => exact ⟨rfl, rfl, rfl⟩
    case round =>
      obtain ⟨rfl, rfl, rfl⟩ := hrel
      go_wp2
      go_ret
      exact ⟨ret_int e0.symm, grown_refl _ _, rfl, Or.inl ⟨rfl, rfl⟩⟩
  · have HST : MarkAt w w b (cap * 1) 2 k 0 := ⟨grown_refl _ _, cur, hg, hsz, fun j hj => by omega⟩
    have HG := Lib.hid hg
    have HSZ := Lib.hid hsz
    clear hg hsz
    clear hv
    go_enter Try.func35, Try.ntmps35
    go_wp2
    go_loopw [5, 1] (fun iv kv wr => ∃ i : Nat, i ≤ n ∧ iv = .int .i64 i ∧ kv = .int .i64 (k + i) ∧ MarkAt w wr b (cap * 1) 2 k i) (fun i _ _ => n - (intOf i).toNat)
    case atStart => exact ⟨0, by omega, rfl, by simp, HST⟩
    case round =>
      obtain ⟨i, hi, rfl, rfl, hm⟩ := hrel
      by_cases hlt : i < n
      · obtain ⟨cu, g1, g2, g3⟩ := hm.arr
        obtain ⟨y0, a0⟩ := arr_some (cur := cu) (j := i) (by omega)
        obtain ⟨c0, f0⟩ := cell_of_arr g1 a0
        have HM := Lib.hid (hm.set (k + i) rfl (by omega))
        have q1 : IntKind.i64.wrap (k + (i : Int) + 1) = k + i + 1 := IntWalk.i64_in _ (by omega)
        clear g1 g2 g3 a0 hm
        go_wp2
        go_roundw
        case rel => exact ⟨i + 1, by omega, by go_num, by congr 1; omega, HM.out⟩
        case measure => simp [intOf]; omega
      · go_wp2
        go_ret
        obtain ⟨cu, g1, g2, g3⟩ := hm.arr
        obtain rfl : i = n := by omega
        refine ⟨rfl, hm.grown, by rw [marks_len], Or.inr ⟨b, cap, cu, rfl, hb, g1, hc1, hc2, g2, ?_⟩⟩
        exact take_marks (by omega) (fun j hj => g3 j (by omega))
set_option maxRecDepth 100000 in
set_option maxHeartbeats 1000000 in
theorem heldI_any (base n : Nat) (k : Int) (v : Value) (w : World) (hn : n ≤ 1048576) (h0 : 0 ≤ k) (h1 : k ≤ 1000000000) (hv : w.ownsRow base 2 1 v n (marks k (n * 1))) :
    Calls Try.prog 36 #[v, .int .i64 k] w fun e w' => e = .returned (.int .i64 (k + n)) ∧ w = w' := by
  rcases hv.2 with ⟨rfl, rfl⟩ | ⟨b, cap, cur, rfl, hb, hg, hc1, hc2, hsz, ht⟩
  · clear hv
    go_enter Try.func36, Try.ntmps36
    go_wp2
    go_loop [5, 1] (fun iv kv => iv = .int .i64 0 ∧ kv = .int .i64 k) (fun _ _ => 0)
    case atStart => exact ⟨rfl, rfl⟩
    case round =>
      obtain ⟨rfl, rfl⟩ := hrel
      go_wp2
      go_ret
      exact ⟨rfl, rfl⟩
  · have HG := Lib.hid hg
    have HSZ := Lib.hid hsz
    have HT := Lib.hid ht
    clear hg hsz ht
    clear hv
    go_enter Try.func36, Try.ntmps36
    go_wp2
    go_loop [5, 1] (fun iv kv => ∃ i : Nat, i ≤ n ∧ iv = .int .i64 i ∧ kv = .int .i64 (k + i)) (fun i _ => n - (intOf i).toNat)
    case atStart => exact ⟨0, by omega, rfl, by simp⟩
    case round =>
      obtain ⟨i, hi, rfl, rfl⟩ := hrel
      by_cases hlt : i < n
      · obtain ⟨c0, _⟩ := cell_of_arr HG.out (marks_at HT.out (j := i) (by omega))
        have q1 : IntKind.i64.wrap (k + (i : Int) + 1) = k + i + 1 := IntWalk.i64_in _ (by omega)
        go_wp2
        go_round
        case rel => exact ⟨i + 1, by omega, by go_num, by congr 1; omega⟩
        case measure => simp [intOf]; omega
      · go_wp2
        go_ret
        obtain rfl : i = n := by omega
        exact ⟨rfl, rfl⟩
/-- A slice of integers that the call has made, and a code. -/
def NewCI (zs : List Int) (c : Int) (w : World) (e : Ending) (w' : World) : Prop := ∃ v, e = .returned (.tuple #[v, .int .i64 c]) ∧ w'.ownsRow w.heap.size 2 1 v zs.length (flatI zs) ∧ Below w.heap.size w w'
theorem newCI_nil {w w' : World} {c : Int} (h : Below w.heap.size w w') : NewCI [] c w (.returned (.tuple #[.slice none 0 0, .int .i64 c])) w' := ⟨_, rfl, ⟨rfl, Or.inl ⟨rfl, rfl⟩⟩, h⟩
theorem infoI : (Try.prog.info? 2).map (fun i => (i.zero, i.size, i.bytes)) = some (some (.int .i64 0), 1, 8) := by kernel_rfl
theorem info_int : ∃ i, Try.prog.info? 2 = some i ∧ i.zero = some (.int .i64 0) ∧ i.size = 1 ∧ i.bytes = 8 := by
  have h := infoI
  cases hi : Try.prog.info? 2 with
  | none => rw [hi] at h; cases h
  | some i =>
    rw [hi] at h
    simp only [Option.map_some, Option.some.injEq, Prod.mk.injEq] at h
    exact ⟨i, rfl, h.1, h.2.1, h.2.2⟩
theorem own_newI (w : World) : (w.alloc (.cells #[] 2)).ownsRow w.heap.size 2 1 (.slice (some ⟨w.heap.size, 0, none⟩) 0 0) 0 [] := by
  have := World.ownsRow_made (base := w.heap.size) (e := 2) (size := 1) w #[] 0 (Nat.le_refl _) (by simp [maxLen]) (by simp)
  exact this
end Go.Proofs.Ytjhmpmaademdcaa
