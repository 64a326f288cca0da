/- Slices of points that a call has made; a list of points that begins with another one, of spec. -/
import Derived.Test.YtcbbhpabiijpoaaPolyArg
import Derived.Test.YtcbbhpabiijpoaaK3
import Derived.Laws.OwnMore
namespace Go.Proofs.Ytcbbhpabiijpoaa
open Go.ChangeShapes Go.WideShapes Go.ChangeAt Go.RowKit
set_option linter.unusedVariables false
set_option linter.unusedSimpArgs false

def flatP (zs : List P2) : List Value := zs.flatMap fun z => [.int .i64 z.1, .int .i64 z.2]
theorem flatP_len (zs : List P2) : (flatP zs).length = zs.length * 2 := by
  induction zs with
  | nil => rfl
  | cons z l ih => show (flatP l).length + 2 = _; rw [ih]; simp only [List.length_cons]; omega
theorem flatP_app (xs ys : List P2) : flatP (xs ++ ys) = flatP xs ++ flatP ys := by simp [flatP]
theorem flatP_at {zs : List P2} : ∀ {k : Nat}, k < zs.length → (flatP zs)[k * 2]? = some (.int .i64 (zs.getD k (0, 0)).1) ∧ (flatP zs)[k * 2 + 1]? = some (.int .i64 (zs.getD k (0, 0)).2) := by
  induction zs with
  | nil => intro k h; simp at h
  | cons z l ih =>
    intro k h
    match k, h with
    | 0, _ => exact ⟨rfl, rfl⟩
    | k + 1, h =>
      have h1 := ih (k := k) (by simpa using h)
      have e1 : (k + 1) * 2 = k * 2 + 2 := by omega
      have e2 : (k + 1) * 2 + 1 = k * 2 + 1 + 2 := by omega
      refine ⟨?_, ?_⟩
      · rw [e1]; simpa [flatP] using h1.1
      · rw [e2]; simpa [flatP] using h1.2
theorem flatP_one {zs : List P2} : ∀ u ∈ flatP zs, u.oneCell' = true := by
  intro u hu
  unfold flatP at hu
  obtain ⟨z, _, hz⟩ := List.mem_flatMap.1 hu
  simp at hz
  rcases hz with rfl | rfl <;> rfl
theorem add_lit (g s j : Nat) : Addr.add ⟨g, s, none⟩ j = ⟨g, s + j, none⟩ := by
  unfold Addr.add
  split
  · subst_vars; rfl
  · simp
/-- A piece of the points, as cells from its first one on. -/
theorem pts_cells {w : World} {b : Nat} {zs : List P2} (h : PtsAt w b zs) {s m : Nat} (hs : s + m ≤ zs.length) : ∀ j u, (flatP ((zs.drop s).take m))[j]? = some u → w.cell? (Addr.add ⟨b, s * 2, none⟩ j) = some u := by
  intro j u hj
  have hl : j < m * 2 := by
    have := (List.getElem?_eq_some_iff.1 hj).1
    rw [flatP_len, List.length_take, List.length_drop] at this
    omega
  have hk : j / 2 < ((zs.drop s).take m).length := by rw [List.length_take, List.length_drop]; omega
  have e : ((zs.drop s).take m).getD (j / 2) (0, 0) = zs.getD (s + j / 2) (0, 0) := by
    simp only [List.getD_eq_getElem?_getD, List.getElem?_take, List.getElem?_drop]
    rw [if_pos (by omega)]
  have h1 := flatP_at hk
  have h2 := h.2 (s + j / 2) (by omega)
  rw [e] at h1
  rw [add_lit]
  rcases Nat.mod_two_eq_zero_or_one j with hm | hm
  · have ej : j = j / 2 * 2 := by omega
    rw [show s * 2 + j = (s + j / 2) * 2 by omega, h2.1]
    rw [ej, h1.1] at hj
    exact hj
  · have ej : j = j / 2 * 2 + 1 := by omega
    rw [show s * 2 + j = (s + j / 2) * 2 + 1 by omega, h2.2]
    rw [ej, h1.2] at hj
    exact hj
/-- The call that began in w has made a slice of these points. -/
def NewP (w w' : World) (v : Value) (zs : List P2) : Prop := w'.ownsRow w.heap.size 25 2 v zs.length (flatP zs) ∧ Below w.heap.size w w'
def NewPost (zs : List P2) (w : World) (e : Ending) (w' : World) : Prop := ∃ v, e = .returned v ∧ NewP w w' v zs
theorem own_pts {w : World} {base g cap : Nat} {zs : List P2} (h : w.ownsRow base 25 2 (.slice (some ⟨g, 0, none⟩) zs.length cap) zs.length (flatP zs)) : PtsAt w g zs := by
  refine ⟨(h.lt g rfl).2, fun j hj => ?_⟩
  have h1 := flatP_at hj
  exact ⟨(h.cellAt (j * 2) (by omega)).trans h1.1, (h.cellAt (j * 2 + 1) (by omega)).trans h1.2⟩
theorem own_at {w : World} {base : Nat} {v : Value} {zs : List P2} (h1 : 1 ≤ zs.length) (h : w.ownsRow base 25 2 v zs.length (flatP zs)) :
    ∃ g cap, v = .slice (some ⟨g, 0, none⟩) zs.length cap ∧ base ≤ g ∧ zs.length ≤ cap ∧ cap ≤ maxLen ∧ PtsAt w g zs := by
  rcases id h with ⟨_, ⟨_, h0⟩ | ⟨g, cap, cur, rfl, hb, hg, hc1, hc2, _⟩⟩
  · omega
  · exact ⟨g, cap, rfl, hb, hc1, hc2, own_pts h⟩
theorem NewP.pv {w w' : World} {v : Value} {zs : List P2} (h : NewP w w' v zs) : ∃ ao cap, v = .slice ao zs.length cap ∧ PV w' ao zs.length zs := by
  by_cases h1 : 1 ≤ zs.length
  · obtain ⟨g, cap, rfl, _, _, _, hp⟩ := own_at h1 h.1
    exact ⟨_, _, rfl, pts_PV rfl hp⟩
  · rcases h.1 with ⟨_, ⟨rfl, _⟩ | ⟨g, cap, cur, rfl, _⟩⟩
    · exact ⟨none, 0, by rw [show zs.length = 0 by omega], rfl, Or.inl (by omega)⟩
    · exact ⟨_, _, rfl, rfl, Or.inl (by omega)⟩
theorem grown_below {w w' : World} {row : Option Nat} {B : Nat} (h : w.grownBy w' row) (hB : B ≤ w.heap.size) (hr : ∀ k, row = some k → B ≤ k) : Below B w w' :=
  ⟨h.os, h.tape, h.output, h.size, fun k hk => h.block k (by omega) (fun e => by have := hr k e.symm; omega)⟩
/-- The points from number k on, and then those before it. -/
def rotL (zs : List P2) (k : Nat) : List P2 := zs.drop k ++ zs.take k
theorem rotL_len (zs : List P2) (k : Nat) (hk : k ≤ zs.length) : (rotL zs k).length = zs.length := by simp [rotL]; omega
theorem rotL_flat (zs : List P2) (k : Nat) : flatP (rotL zs k) = flatP ((zs.drop k).take (zs.length - k)) ++ flatP ((zs.drop 0).take k) := by
  rw [rotL, flatP_app, List.drop_zero]
  congr 2
  rw [List.take_of_length_le (by simp)]
set_option maxRecDepth 100000 in
set_option maxHeartbeats 2000000 in
theorem from_any (b len cap k : Nat) (zs : List P2) (w : World) (hz : len = zs.length) (hl : len ≤ 1000) (hk : k < len) (hc : len ≤ cap) (hp : PtsAt w b zs) :
    Calls Try.prog 82 #[.slice (some ⟨b, 0, none⟩) len cap, .int .i64 k] w (NewPost (rotL zs k) w) := by
  have HZ := Lib.hid hz
  have HP := Lib.hid hp
  have hbw := hp.1
  obtain ⟨i0, hi, hz0, hz1, hz2⟩ := info_parts info_pt
  clear hz hp
  have hck : ¬ cap = k := by omega
  have hck' : ¬ k = cap := by omega
  have hlk : ¬ len < k := by omega
  have hcl : ¬ cap < k := by omega
  have hcl2 : ¬ cap < len := by omega
  go_enter Try.func82, Try.ntmps82
  go_wp2
  refine wp_region_seq w [(1, .slice (some ⟨b, 0, none⟩) len cap), (2, .int .i64 k), (3, .slice (some ⟨b, k * 2, none⟩) (len - k) (cap - k)), (5, .slice (some ⟨b, 0, none⟩) len cap), (6, .int .i64 k), (7, .slice (some ⟨b, 0, none⟩) k cap)] [0, 4, 8, 9] (by kernel_rfl) (by kernel_rfl) rfl (Below.refl _ _) (fun w1 hh hb1 => ?_)
  refine flo_val (by kernel_rfl) (by kernel_rfl) rfl (by go_simp) (fun w2 hw2 => ?_) ?_
  · clear hw2; go_simp; (try with_reducible rfl)
  (try simp only [Act.put, List.setIfInBounds_toArray, List.set_cons_zero, List.set_cons_succ])
  refine flo_val (by kernel_rfl) (by kernel_rfl) rfl (by go_simp) (fun w2 hw2 => ?_) ?_
  · clear hw2; go_simp; (try with_reducible rfl)
  (try simp only [Act.put, List.setIfInBounds_toArray, List.set_cons_zero, List.set_cons_succ])
  refine flo_val (by kernel_rfl) (by kernel_rfl) rfl (by go_simp) (fun w2 hw2 => ?_) ?_
  · clear hw2; go_simp; (try with_reducible rfl)
  (try simp only [Act.put, List.setIfInBounds_toArray, List.set_cons_zero, List.set_cons_succ])
  refine flo_val (by kernel_rfl) (by kernel_rfl) rfl (by go_simp) (fun w2 hw2 => ?_) ?_
  · clear hw2; go_simp; (try with_reducible rfl)
  (try simp only [Act.put, List.setIfInBounds_toArray, List.set_cons_zero, List.set_cons_succ])
  refine flo_val (by kernel_rfl) (by kernel_rfl) rfl (by go_simp) (fun w2 hw2 => ?_) ?_
  · clear hw2; go_simp; (try with_reducible rfl)
  (try simp only [Act.put, List.setIfInBounds_toArray, List.set_cons_zero, List.set_cons_succ])
  refine flo_val (by kernel_rfl) (by kernel_rfl) rfl (by go_simp) (fun w2 hw2 => ?_) ?_
  · clear hw2; go_simp; (try with_reducible rfl)
  (try simp only [Act.put, List.setIfInBounds_toArray, List.set_cons_zero, List.set_cons_succ])
  refine ch_one (by kernel_rfl) rfl ?_
  gi_wp2
  have hown0 : (w1.alloc (.cells #[] 25)).ownsRow w.heap.size 25 2 (.slice (some ⟨w.heap.size, 0, none⟩) 0 0) 0 [] := by
    have := World.ownsRow_made (base := w.heap.size) (e := 25) (size := 2) w1 #[] 0 (by rw [hh]; exact Nat.le_refl _) (by simp [maxLen]) (by simp)
    rw [hh] at this
    exact this
  have hs1 : w1.heap.size = w.heap.size := by rw [hh]
  have hba : Below w.heap.size w (w1.alloc (.cells #[] 25)) := hb1.alloc hb1.size _
  have HO := Lib.hid hown0
  have HB := Lib.hid hba
  have HPa := Lib.hid (HP.out.below hba hbw)
  have hn1 : (flatP ((zs.drop k).take (len - k))).length = (len - k) * 2 := by rw [flatP_len, List.length_take, List.length_drop, ← HZ.out]; omega
  have hn2 : (flatP ((zs.drop 0).take k)).length = k * 2 := by rw [flatP_len, List.length_take, List.length_drop, ← HZ.out]; omega
  clear hown0 hba hh hb1
  refine ⟨HB.out, ?_⟩
  refine ch_one (by kernel_rfl) rfl ?_
  refine wpListIn_append_own _ rfl _ _ 35 rfl w.heap.size 25 i0 _ 2 16 Try.underlying35 hi hz0 hz1 hz2 rfl (by omega) _ _ _ rfl HO.out ⟨b, k * 2, none⟩ _ _ (flatP ((zs.drop k).take (len - k))) rfl (hn1) (pts_cells HPa.out (by rw [← HZ.out]; omega)) flatP_one (by unfold maxLen; omega) (by omega) (by simp [hs1]) ?_
  intro v1 w2 hown1 hgr1 _
  have hb2 : Below w.heap.size w w2 := HB.out.trans (grown_below hgr1 (by simp [hs1]) (fun k h => by cases h; exact Nat.le_refl _))
  have HO1 := Lib.hid hown1
  have HB1 := Lib.hid hb2
  have HP1 := Lib.hid (HP.out.below hb2 hbw)
  have hw2 := hb2.size
  clear hown1 hgr1 hb2
  gi_wp2
  refine ⟨HB1.out, ?_⟩
  refine ch_one (by kernel_rfl) rfl ?_
  refine wpListIn_append_own _ rfl _ _ 35 rfl w.heap.size 25 i0 _ 2 16 Try.underlying35 hi hz0 hz1 hz2 rfl (by omega) _ _ _ rfl HO1.out ⟨b, 0 * 2, none⟩ _ _ (flatP ((zs.drop 0).take k)) rfl (hn2) (pts_cells HP1.out (by rw [← HZ.out]; omega)) flatP_one (by unfold maxLen; omega) (by omega) (by omega) ?_
  intro v2 w3 hown2 hgr2 _
  have hb3 : Below w.heap.size w w3 := HB1.out.trans (grown_below hgr2 (by omega) (fun k h => (World.ownsRow.lt HO1.out k h).1))
  have HO2 := Lib.hid hown2
  have HB2 := Lib.hid hb3
  clear hown2 hgr2 hb3
  gi_wp2
  refine ⟨HB2.out, ?_⟩
  refine ch_one (by kernel_rfl) rfl ?_
  gi_wp2
  refine ⟨HB2.out, ?_⟩
  refine ch_nil (by kernel_rfl) ?_
  go_wp2
  go_ret
  refine ⟨v2, rfl, ?_, HB2.out⟩
  have h := HO2.out
  have hlen : (rotL zs k).length = 0 + (len - k) + k := by rw [rotL_len zs k (by rw [← HZ.out]; omega), ← HZ.out]; omega
  rw [hlen, rotL_flat, ← HZ.out]
  exact h
end Go.Proofs.Ytcbbhpabiijpoaa
