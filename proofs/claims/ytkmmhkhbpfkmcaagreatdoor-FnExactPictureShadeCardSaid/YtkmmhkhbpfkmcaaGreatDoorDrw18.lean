/- The polygons of a drawing, and what they leave of the panel: impl. -/
import Derived.Test.YtkmmhkhbpfkmcaaGreatDoorDrw17
namespace Go.Proofs.YtkmmhkhbpfkmcaaGreatDoor
open Seq2 Go.ChangeShapes Go.WideShapes Go.ChangeAt Go.RowKit
set_option linter.unusedVariables false
set_option linter.unusedSimpArgs false

theorem info_outl : (Tryz.prog.info? 83).map (fun i => (i.zero, i.size, i.bytes)) = some (some (.slice none 0 0), 1, 24) := by kernel_rfl
theorem make_outls (n : Nat) (hn : n ≤ 1048576) (w : World) : (Instr.makeSlice 81 (.int .i64 (n : Int)) (.int .i64 (n : Int))).run Tryz.prog w = .ok (.slice (some ⟨w.heap.size, 0, none⟩) n n) (w.alloc (.cells (madeCells #[.slice none 0 0] n) 83)) := by
  obtain ⟨i0, hi, hz0, hz1, hz2⟩ := info_parts info_outl
  have h := run_make (P := Tryz.prog) w 81 83 i0 _ Tryz.underlying81 hi hz0 .i64 .i64 n n (by omega) (by omega) (by rw [hz2]; omega) (by omega)
  rw [hz1, show (Value.slice none 0 0).cells = #[.slice none 0 0] from rfl] at h
  simpa using h
def olF (ln : Nat → Nat) (gs : Nat → Nat) (k j : Nat) : Value := if j < k then .slice (some ⟨gs j, 0, none⟩) (ln j) (ln j) else .slice none 0 0
theorem made_outls (w : World) (n : Nat) (ln gs : Nat → Nat) (t : TypeId) : (w.alloc (.cells (madeCells #[.slice none 0 0] n) t)).rowIs w.heap.size t n (olF ln gs 0) := by
  have h := World.rowIs_alloc w (madeCells #[.slice none 0 0] n) t (olF ln gs 0) (fun i hi => by
    rw [size_madeCells] at hi
    simp [madeCells, hi, olF, Nat.mod_one])
  rw [size_madeCells] at h
  exact h
theorem olF_step {ln gs : Nat → Nat} {k g n : Nat} (hn : ln k = n) (j : Nat) : (if j = k then Value.slice (some ⟨g, 0, none⟩) n n else olF ln gs k j) = olF ln (fun i => if i = k then g else gs i) (k + 1) j := by
  unfold olF
  by_cases h : j = k
  · subst h; simp [hn]
  · rw [if_neg h]
    by_cases h2 : j < k
    · rw [if_pos h2, if_pos (show j < k + 1 by omega)]; simp [h]
    · rw [if_neg h2, if_neg (show ¬ j < k + 1 by omega)]
theorem pts_set {w : World} {b : Nat} {zs : List P2} (h : PtsAt w b zs) {a : Addr} (u : Value) (ha : b ≠ a.block) : PtsAt (w.setCell a u) b zs := by
  have hb : ∀ o, (w.setCell a u).cell? ⟨b, o, none⟩ = w.cell? ⟨b, o, none⟩ := fun o => World.cell?_of_block (a := ⟨b, o, none⟩) (Below.heap_setCell w a u b ha)
  refine ⟨by simp [World.setCell]; exact h.1, fun j hj => ?_⟩
  obtain ⟨h1, h2⟩ := h.2 j hj
  exact ⟨(hb _).trans h1, (hb _).trans h2⟩
def plL (D : Drw) (j : Nat) : Nat := (polyAt D j).length
/-- The polygons, one after the other, from block B. -/
def PlAt (w : World) (B : Nat) (D : Drw) : Prop := B < w.heap.size ∧ ∀ j, j < D.fs.length → ∃ g, w.cell? ⟨B, j, none⟩ = some (.slice (some ⟨g, 0, none⟩) (plL D j) (plL D j)) ∧ PtsAt w g (polyAt D j)
theorem PlAt.below {w w' : World} {B : Nat} {D : Drw} (h : PlAt w B D) (hb : Below w.heap.size w w') : PlAt w' B D :=
  ⟨Nat.lt_of_lt_of_le h.1 hb.size, fun j hj => by
    obtain ⟨g, h1, h2⟩ := h.2 j hj
    exact ⟨g, (hb.cell (p := ⟨B, j, none⟩) h.1).trans h1, h2.below hb h2.1⟩⟩
set_option maxRecDepth 100000 in
set_option maxHeartbeats 4000000 in
theorem polys_any (v : Value) (D : Drw) (w : World) (hd : DV w v D) (hv : drB D = true) : Calls Tryz.prog 45 #[v] w fun e w' => ∃ B, e = .returned (.slice (some ⟨B, 0, none⟩) D.fs.length D.fs.length) ∧ PlAt w' B D ∧ Below w.heap.size w w' := by
  have HV := Lib.hid hv
  have HD := Lib.hid hd
  obtain ⟨ao, n, c, bo, m, d, rfl, _, _, hs, _, hf⟩ := hd.out
  have HM := Lib.hid hf.1
  have hm1 : m ≤ 24 := by have := (dr_few hv).1; have := hf.1; omega
  have HS := Lib.hid (show fsSz D.fs ≤ 1048576 by unfold dSz at hs; omega)
  have HF := Lib.hid (hf.below (one_alloc (w := w) (.cells #[.int .i64 D.wd, .int .i64 D.hg, .slice ao n c, .slice bo m d] 34)))
  have HBX := Lib.hid (World.alloc_heap_new w (.cells #[.int .i64 D.wd, .int .i64 D.hg, .slice ao n c, .slice bo m d] 34))
  have HA := Lib.hid (one_alloc (w := w) (.cells #[.int .i64 D.wd, .int .i64 D.hg, .slice ao n c, .slice bo m d] 34))
  have hmk := make_outls m (by omega)
  rw [← HM.out]
  clear hd hf hs hv
  go_enter Tryz.func45, Tryz.ntmps45
  go_wp2
  clear hmk
  go_loopw [13] (fun iv wr => ∃ k : Nat, k ≤ m ∧ iv = .int .i64 k ∧ Hid (∃ gs : Nat → Nat, wr.rowIs (w.heap.size + 1) 83 m (olF (plL D) gs k) ∧ ∀ j, j < k → w.heap.size + 1 < gs j ∧ PtsAt wr (gs j) (polyAt D j)) ∧ Hid (Below (w.heap.size + 1) (w.alloc (.cells #[.int .i64 D.wd, .int .i64 D.hg, .slice ao n c, .slice bo m d] 34)) wr)) (fun i _ => m - (intOf i).toNat)
  case atStart =>
    refine ⟨0, by omega, rfl, Lib.hid ⟨fun _ => 0, ?_, fun j hj => by omega⟩, Lib.hid ?_⟩
    · have := made_outls (w.alloc (.cells #[.int .i64 D.wd, .int .i64 D.hg, .slice ao n c, .slice bo m d] 34)) m (plL D) (fun _ => 0) 83
      rwa [World.size_alloc] at this
    · exact (Below.refl _ _).alloc (by simp) _
  case round =>
    obtain ⟨k, hk, rfl, hr, hb⟩ := hrel
    have hbx := (hb.out.block w.heap.size (by omega)).trans HBX.out
    have hbl := blk_lt hbx
    have hsz : w.heap.size + 1 ≤ wr.heap.size := by have := hb.out.size; simp at this; omega
    by_cases hlt : k < m
    · have hkz : k < D.fs.length := by have := HM.out; omega
      have hHB : Below (w.alloc (.cells #[.int .i64 D.wd, .int .i64 D.hg, .slice ao n c, .slice bo m d] 34)).heap.size (w.alloc (.cells #[.int .i64 D.wd, .int .i64 D.hg, .slice ao n c, .slice bo m d] 34)) wr := by rw [World.size_alloc]; exact hb.out
      obtain ⟨fb, s, r, a1, n1, c1', rfl, hfb, e1, _, x0, x1, en1, hi1⟩ := (HF.out.below hHB).at hlt
      have hln := fcs_le HS.out hkz
      rw [e1] at hln
      have hn1 : n1 ≤ 1048576 := by have := en1; unfold ringL at this; rw [e1] at this; omega
      have hrr := (dr_face HV.out hkz).2.1
      have HPR := Lib.hid (show polyAt D k = ringZ D.ps r by unfold polyAt; rw [e1])
      rw [e1] at hrr
      have HRR := Lib.hid hrr
      have HI := Lib.hid (hi1.below (one_alloc (w := wr) (.cells #[.string s, .slice a1 n1 c1'] 100)))
      have HDD := Lib.hid ((HD.out.below (HA.out.trans (hb.out.mono (by omega)))).below (one_alloc (w := wr) (.cells #[.string s, .slice a1 n1 c1'] 100)))
      obtain ⟨gs, hrow, hgs⟩ := hr.out
      have HGS := Lib.hid hgs
      have HROW := Lib.hid (rowIs_below hrow (one_alloc (w := wr) (.cells #[.string s, .slice a1 n1 c1'] 100)))
      have hgw := hrow.lt
      obtain ⟨y0, _, y1, _, y2, _, y3, _⟩ := cells4_of hbx
      have HB0 := Lib.hid (hb.out.alloc hsz (.cells #[.string s, .slice a1 n1 c1'] 100))
      clear hi1 e1 en1 hln hrr hrow hgs hHB hr
      go_wp2_with fail
      refine (around_any _ D a1 n1 c1' r _ hn1 HDD.out HI.out HRR.out).mono ?_
      rintro e w1 ⟨g, rfl, ho, g1⟩
      have hg0 := (ho.lt g rfl).1
      have hg1 := (ho.lt g rfl).2
      obtain ⟨ao', cp', he, _, hpv⟩ := own_PV (zs := ringZ D.ps r) ho
      cases he
      have hr3 : 1 ≤ r.length := by
        have := (poly_ok (dr_poly HV.out hkz)).1
        rw [HPR.out, ringZ_len] at this; omega
      obtain ⟨g', he, hpt⟩ := hpv.at hr3
      cases he
      have HPT := Lib.hid hpt
      have HG1 := Lib.hid g1
      have hr1 := rowIs_below HROW.out g1
      have d0 := hr1.cell (i := k) (by omega)
      rw [olF, if_neg (by omega)] at d0
      have f0 := hr1.frozen k
      have HR1 := Lib.hid hr1
      have HE := Lib.hid (olF_step (ln := plL D) (gs := gs) (k := k) (g := g) (n := r.length) (by unfold plL; rw [HPR.out, ringZ_len]))
      have hw1 := g1.size
      simp only [World.size_alloc] at hw1 hg0
      clear ho hpv hpt hr1 g1 x0 x1 y0 y1 y2 y3
      go_wp2
      go_roundw
      case rel =>
        refine ⟨k + 1, by omega, by go_num, Lib.hid ⟨fun i => if i = k then g else gs i, (HR1.out.set k _).congr (fun j _ => HE.out j), fun j hj => ?_⟩, Lib.hid ((HB0.out.trans (HG1.out.mono (by simp; omega))).setCell (Nat.le_refl _) _)⟩
        by_cases hjk : j = k
        · subst hjk
          simp only [if_pos]
          exact ⟨by omega, by rw [HPR.out]; exact pts_set HPT.out _ (by show g ≠ w.heap.size + 1; omega)⟩
        · obtain ⟨q1, q2⟩ := HGS.out j (by omega)
          simp only [if_neg hjk]
          have q3 := q2.below (one_alloc (.cells #[.string s, .slice a1 n1 c1'] 100)) q2.1
          exact ⟨q1, pts_set (q3.below HG1.out q3.1) _ (by show gs j ≠ w.heap.size + 1; omega)⟩
      case measure => simp [intOf]; omega
    · obtain rfl : k = m := by omega
      go_wp2
      go_ret
      obtain ⟨gs, hrow, hgs⟩ := hr.out
      refine ⟨_, rfl, ⟨hrow.lt, fun j hj => ?_⟩, HA.out.trans (hb.out.mono (by omega))⟩
      have hjk : j < k := by have := HM.out; omega
      have hc := hrow.cell (i := j) hjk
      rw [olF, if_pos hjk] at hc
      exact ⟨gs j, hc, (hgs j hjk).2⟩
end Go.Proofs.YtkmmhkhbpfkmcaaGreatDoor
