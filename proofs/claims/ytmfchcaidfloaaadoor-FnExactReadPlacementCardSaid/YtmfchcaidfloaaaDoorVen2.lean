/- A species by its name: spec's table of numbers, impl's search. -/
import Derived.Test.YtmfchcaidfloaaaDoorVen1
namespace Go.Proofs.YtmfchcaidfloaaaDoor
open Seq2 Go.ChangeShapes Go.WideShapes Go.ChangeAt Go.RowKit
set_option linter.unusedVariables false
set_option linter.unusedSimpArgs false

theorem blk_lt3 {w : World} {b : Nat} {o : Obj} (h : w.heap[b]? = some o) : b < w.heap.size := (Array.getElem?_eq_some_iff.1 h).1
theorem new_at (w : World) (o : Obj) (i : Nat) (h : i = w.heap.size) : (w.alloc o).heap[i]? = some o := h ▸ World.alloc_heap_new w o
theorem old_at {w : World} {o : Obj} {i : Nat} {x : Option Obj} (h : i < w.heap.size) (k : w.heap[i]? = x) : (w.alloc o).heap[i]? = x := (Below.heap_alloc w o i h).trans k
set_option maxRecDepth 100000 in
set_option maxHeartbeats 4000000 in
theorem table_spec (w : World) : Calls Tryd.prog 65 #[] w fun e w' => ∃ b, e = .returned (.slice (some ⟨b, 0, none⟩) 10 10) ∧ TblAt w' b ∧ Below w.heap.size w w' := by
  go_enter Tryd.func65, Tryd.ntmps65
  go_wp2
  go_ret
  refine ⟨_, rfl, ⟨by simp, fun k hk => ?_⟩, ?_⟩
  · match k, hk with
    | 0, _ =>
      refine ⟨w.heap.size, by simp; try omega, ?_, ?_, ?_, ?_⟩
      · refine Eq.trans (cell_of_row _ _ 0 ?cs1 ?t1 ?fr1 ?h1) ?g1
        case h1 => (refine new_at _ _ _ ?_; first | rfl | (simp; done))
        case g1 => rfl
      · refine Eq.trans (cell_of_row _ _ 0 ?cs2 ?t2 ?fr2 ?h2) ?g2
        case h2 => (repeat (first | (refine new_at _ _ _ ?_; first | rfl | (simp; done)) | (refine old_at ?_ ?_; (focus (first | (simp; done) | (simp; omega))))))
        case g2 => rfl
      · refine Eq.trans (cell_of_row _ _ 1 ?cs3 ?t3 ?fr3 ?h3) ?g3
        case h3 => (repeat (first | (refine new_at _ _ _ ?_; first | rfl | (simp; done)) | (refine old_at ?_ ?_; (focus (first | (simp; done) | (simp; omega))))))
        case g3 => rfl
      · refine Eq.trans (cell_of_row _ _ 2 ?cs4 ?t4 ?fr4 ?h4) ?g4
        case h4 => (repeat (first | (refine new_at _ _ _ ?_; first | rfl | (simp; done)) | (refine old_at ?_ ?_; (focus (first | (simp; done) | (simp; omega))))))
        case g4 => rfl
    | 1, _ =>
      refine ⟨w.heap.size + 1, by simp; try omega, ?_, ?_, ?_, ?_⟩
      · refine Eq.trans (cell_of_row _ _ 1 ?cs5 ?t5 ?fr5 ?h5) ?g5
        case h5 => (refine new_at _ _ _ ?_; first | rfl | (simp; done))
        case g5 => rfl
      · refine Eq.trans (cell_of_row _ _ 0 ?cs6 ?t6 ?fr6 ?h6) ?g6
        case h6 => (repeat (first | (refine new_at _ _ _ ?_; first | rfl | (simp; done)) | (refine old_at ?_ ?_; (focus (first | (simp; done) | (simp; omega))))))
        case g6 => rfl
      · refine Eq.trans (cell_of_row _ _ 1 ?cs7 ?t7 ?fr7 ?h7) ?g7
        case h7 => (repeat (first | (refine new_at _ _ _ ?_; first | rfl | (simp; done)) | (refine old_at ?_ ?_; (focus (first | (simp; done) | (simp; omega))))))
        case g7 => rfl
      · refine Eq.trans (cell_of_row _ _ 2 ?cs8 ?t8 ?fr8 ?h8) ?g8
        case h8 => (repeat (first | (refine new_at _ _ _ ?_; first | rfl | (simp; done)) | (refine old_at ?_ ?_; (focus (first | (simp; done) | (simp; omega))))))
        case g8 => rfl
    | 2, _ =>
      refine ⟨w.heap.size + 1 + 1, by simp; try omega, ?_, ?_, ?_, ?_⟩
      · refine Eq.trans (cell_of_row _ _ 2 ?cs9 ?t9 ?fr9 ?h9) ?g9
        case h9 => (refine new_at _ _ _ ?_; first | rfl | (simp; done))
        case g9 => rfl
      · refine Eq.trans (cell_of_row _ _ 0 ?cs10 ?t10 ?fr10 ?h10) ?g10
        case h10 => (repeat (first | (refine new_at _ _ _ ?_; first | rfl | (simp; done)) | (refine old_at ?_ ?_; (focus (first | (simp; done) | (simp; omega))))))
        case g10 => rfl
      · refine Eq.trans (cell_of_row _ _ 1 ?cs11 ?t11 ?fr11 ?h11) ?g11
        case h11 => (repeat (first | (refine new_at _ _ _ ?_; first | rfl | (simp; done)) | (refine old_at ?_ ?_; (focus (first | (simp; done) | (simp; omega))))))
        case g11 => rfl
      · refine Eq.trans (cell_of_row _ _ 2 ?cs12 ?t12 ?fr12 ?h12) ?g12
        case h12 => (repeat (first | (refine new_at _ _ _ ?_; first | rfl | (simp; done)) | (refine old_at ?_ ?_; (focus (first | (simp; done) | (simp; omega))))))
        case g12 => rfl
    | 3, _ =>
      refine ⟨w.heap.size + 1 + 1 + 1, by simp; try omega, ?_, ?_, ?_, ?_⟩
      · refine Eq.trans (cell_of_row _ _ 3 ?cs13 ?t13 ?fr13 ?h13) ?g13
        case h13 => (refine new_at _ _ _ ?_; first | rfl | (simp; done))
        case g13 => rfl
      · refine Eq.trans (cell_of_row _ _ 0 ?cs14 ?t14 ?fr14 ?h14) ?g14
        case h14 => (repeat (first | (refine new_at _ _ _ ?_; first | rfl | (simp; done)) | (refine old_at ?_ ?_; (focus (first | (simp; done) | (simp; omega))))))
        case g14 => rfl
      · refine Eq.trans (cell_of_row _ _ 1 ?cs15 ?t15 ?fr15 ?h15) ?g15
        case h15 => (repeat (first | (refine new_at _ _ _ ?_; first | rfl | (simp; done)) | (refine old_at ?_ ?_; (focus (first | (simp; done) | (simp; omega))))))
        case g15 => rfl
      · refine Eq.trans (cell_of_row _ _ 2 ?cs16 ?t16 ?fr16 ?h16) ?g16
        case h16 => (repeat (first | (refine new_at _ _ _ ?_; first | rfl | (simp; done)) | (refine old_at ?_ ?_; (focus (first | (simp; done) | (simp; omega))))))
        case g16 => rfl
    | 4, _ =>
      refine ⟨w.heap.size + 1 + 1 + 1 + 1, by simp; try omega, ?_, ?_, ?_, ?_⟩
      · refine Eq.trans (cell_of_row _ _ 4 ?cs17 ?t17 ?fr17 ?h17) ?g17
        case h17 => (refine new_at _ _ _ ?_; first | rfl | (simp; done))
        case g17 => rfl
      · refine Eq.trans (cell_of_row _ _ 0 ?cs18 ?t18 ?fr18 ?h18) ?g18
        case h18 => (repeat (first | (refine new_at _ _ _ ?_; first | rfl | (simp; done)) | (refine old_at ?_ ?_; (focus (first | (simp; done) | (simp; omega))))))
        case g18 => rfl
      · refine Eq.trans (cell_of_row _ _ 1 ?cs19 ?t19 ?fr19 ?h19) ?g19
        case h19 => (repeat (first | (refine new_at _ _ _ ?_; first | rfl | (simp; done)) | (refine old_at ?_ ?_; (focus (first | (simp; done) | (simp; omega))))))
        case g19 => rfl
      · refine Eq.trans (cell_of_row _ _ 2 ?cs20 ?t20 ?fr20 ?h20) ?g20
        case h20 => (repeat (first | (refine new_at _ _ _ ?_; first | rfl | (simp; done)) | (refine old_at ?_ ?_; (focus (first | (simp; done) | (simp; omega))))))
        case g20 => rfl
    | 5, _ =>
      refine ⟨w.heap.size + 1 + 1 + 1 + 1 + 1, by simp; try omega, ?_, ?_, ?_, ?_⟩
      · refine Eq.trans (cell_of_row _ _ 5 ?cs21 ?t21 ?fr21 ?h21) ?g21
        case h21 => (refine new_at _ _ _ ?_; first | rfl | (simp; done))
        case g21 => rfl
      · refine Eq.trans (cell_of_row _ _ 0 ?cs22 ?t22 ?fr22 ?h22) ?g22
        case h22 => (repeat (first | (refine new_at _ _ _ ?_; first | rfl | (simp; done)) | (refine old_at ?_ ?_; (focus (first | (simp; done) | (simp; omega))))))
        case g22 => rfl
      · refine Eq.trans (cell_of_row _ _ 1 ?cs23 ?t23 ?fr23 ?h23) ?g23
        case h23 => (repeat (first | (refine new_at _ _ _ ?_; first | rfl | (simp; done)) | (refine old_at ?_ ?_; (focus (first | (simp; done) | (simp; omega))))))
        case g23 => rfl
      · refine Eq.trans (cell_of_row _ _ 2 ?cs24 ?t24 ?fr24 ?h24) ?g24
        case h24 => (repeat (first | (refine new_at _ _ _ ?_; first | rfl | (simp; done)) | (refine old_at ?_ ?_; (focus (first | (simp; done) | (simp; omega))))))
        case g24 => rfl
    | 6, _ =>
      refine ⟨w.heap.size + 1 + 1 + 1 + 1 + 1 + 1, by simp; try omega, ?_, ?_, ?_, ?_⟩
      · refine Eq.trans (cell_of_row _ _ 6 ?cs25 ?t25 ?fr25 ?h25) ?g25
        case h25 => (refine new_at _ _ _ ?_; first | rfl | (simp; done))
        case g25 => rfl
      · refine Eq.trans (cell_of_row _ _ 0 ?cs26 ?t26 ?fr26 ?h26) ?g26
        case h26 => (repeat (first | (refine new_at _ _ _ ?_; first | rfl | (simp; done)) | (refine old_at ?_ ?_; (focus (first | (simp; done) | (simp; omega))))))
        case g26 => rfl
      · refine Eq.trans (cell_of_row _ _ 1 ?cs27 ?t27 ?fr27 ?h27) ?g27
        case h27 => (repeat (first | (refine new_at _ _ _ ?_; first | rfl | (simp; done)) | (refine old_at ?_ ?_; (focus (first | (simp; done) | (simp; omega))))))
        case g27 => rfl
      · refine Eq.trans (cell_of_row _ _ 2 ?cs28 ?t28 ?fr28 ?h28) ?g28
        case h28 => (repeat (first | (refine new_at _ _ _ ?_; first | rfl | (simp; done)) | (refine old_at ?_ ?_; (focus (first | (simp; done) | (simp; omega))))))
        case g28 => rfl
    | 7, _ =>
      refine ⟨w.heap.size + 1 + 1 + 1 + 1 + 1 + 1 + 1, by simp; try omega, ?_, ?_, ?_, ?_⟩
      · refine Eq.trans (cell_of_row _ _ 7 ?cs29 ?t29 ?fr29 ?h29) ?g29
        case h29 => (refine new_at _ _ _ ?_; first | rfl | (simp; done))
        case g29 => rfl
      · refine Eq.trans (cell_of_row _ _ 0 ?cs30 ?t30 ?fr30 ?h30) ?g30
        case h30 => (repeat (first | (refine new_at _ _ _ ?_; first | rfl | (simp; done)) | (refine old_at ?_ ?_; (focus (first | (simp; done) | (simp; omega))))))
        case g30 => rfl
      · refine Eq.trans (cell_of_row _ _ 1 ?cs31 ?t31 ?fr31 ?h31) ?g31
        case h31 => (repeat (first | (refine new_at _ _ _ ?_; first | rfl | (simp; done)) | (refine old_at ?_ ?_; (focus (first | (simp; done) | (simp; omega))))))
        case g31 => rfl
      · refine Eq.trans (cell_of_row _ _ 2 ?cs32 ?t32 ?fr32 ?h32) ?g32
        case h32 => (repeat (first | (refine new_at _ _ _ ?_; first | rfl | (simp; done)) | (refine old_at ?_ ?_; (focus (first | (simp; done) | (simp; omega))))))
        case g32 => rfl
    | 8, _ =>
      refine ⟨w.heap.size + 1 + 1 + 1 + 1 + 1 + 1 + 1 + 1, by simp; try omega, ?_, ?_, ?_, ?_⟩
      · refine Eq.trans (cell_of_row _ _ 8 ?cs33 ?t33 ?fr33 ?h33) ?g33
        case h33 => (refine new_at _ _ _ ?_; first | rfl | (simp; done))
        case g33 => rfl
      · refine Eq.trans (cell_of_row _ _ 0 ?cs34 ?t34 ?fr34 ?h34) ?g34
        case h34 => (repeat (first | (refine new_at _ _ _ ?_; first | rfl | (simp; done)) | (refine old_at ?_ ?_; (focus (first | (simp; done) | (simp; omega))))))
        case g34 => rfl
      · refine Eq.trans (cell_of_row _ _ 1 ?cs35 ?t35 ?fr35 ?h35) ?g35
        case h35 => (repeat (first | (refine new_at _ _ _ ?_; first | rfl | (simp; done)) | (refine old_at ?_ ?_; (focus (first | (simp; done) | (simp; omega))))))
        case g35 => rfl
      · refine Eq.trans (cell_of_row _ _ 2 ?cs36 ?t36 ?fr36 ?h36) ?g36
        case h36 => (repeat (first | (refine new_at _ _ _ ?_; first | rfl | (simp; done)) | (refine old_at ?_ ?_; (focus (first | (simp; done) | (simp; omega))))))
        case g36 => rfl
    | 9, _ =>
      refine ⟨w.heap.size + 1 + 1 + 1 + 1 + 1 + 1 + 1 + 1 + 1, by simp; try omega, ?_, ?_, ?_, ?_⟩
      · refine Eq.trans (cell_of_row _ _ 9 ?cs37 ?t37 ?fr37 ?h37) ?g37
        case h37 => (refine new_at _ _ _ ?_; first | rfl | (simp; done))
        case g37 => rfl
      · refine Eq.trans (cell_of_row _ _ 0 ?cs38 ?t38 ?fr38 ?h38) ?g38
        case h38 => (repeat (first | (refine new_at _ _ _ ?_; first | rfl | (simp; done)) | (refine old_at ?_ ?_; (focus (first | (simp; done) | (simp; omega))))))
        case g38 => rfl
      · refine Eq.trans (cell_of_row _ _ 1 ?cs39 ?t39 ?fr39 ?h39) ?g39
        case h39 => (repeat (first | (refine new_at _ _ _ ?_; first | rfl | (simp; done)) | (refine old_at ?_ ?_; (focus (first | (simp; done) | (simp; omega))))))
        case g39 => rfl
      · refine Eq.trans (cell_of_row _ _ 2 ?cs40 ?t40 ?fr40 ?h40) ?g40
        case h40 => (repeat (first | (refine new_at _ _ _ ?_; first | rfl | (simp; done)) | (refine old_at ?_ ?_; (focus (first | (simp; done) | (simp; omega))))))
        case g40 => rfl
  · have HB0 := Below.refl w.heap.size w
    (repeat (first | exact HB0 | refine Below.setCell ?_ (by first | exact Nat.le_refl _ | (show _ ≤ _; omega) | (simp; omega)) _ | refine Below.alloc ?_ (by first | exact Nat.le_refl _ | omega | (simp; done) | (simp; omega)) _))
/-- What impl answers for a name: the row, zeros where there is none. -/
def spV (k : Nat) : Array Value := #[.string (spN k), .int .i64 (spS k), .int .i64 (spH k), .int .i64 (spW k)]
def spB (nm : ByteArray) : Bool := decide (ixN nm < 10)
set_option maxRecDepth 100000 in
set_option maxHeartbeats 4000000 in
theorem named_ven (nm : ByteArray) (w : World) (ht : TabAt w) : Calls Tryd.prog 74 #[.string nm] w fun e w' => e = .returned (.tuple #[.agg (spV (ixN nm)), .bool (spB nm)]) ∧ Below w.heap.size w w' := by
  have HT := Lib.hid ht
  clear ht
  go_enter Tryd.func74, Tryd.ntmps74
  obtain ⟨T, FR, hT⟩ := HT.out.below (one_alloc (.cells #[.string ⟨#[]⟩, .int .i64 0, .int .i64 0, .int .i64 0] 118))
  go_wp2_with (refine wpList_load_row rfl 144 _ rfl 5 rfl T tabC FR _ hT Tryd.underlying144 rfl tab_info ?_)
  have HO := Lib.hid (World.alloc_heap_new w (.cells #[.string ⟨#[]⟩, .int .i64 0, .int .i64 0, .int .i64 0] 118))
  have HN := Lib.hid (one_alloc (w := w) (.cells #[.string ⟨#[]⟩, .int .i64 0, .int .i64 0, .int .i64 0] 118))
  clear hT
  go_loopw [7] (fun iv wr => ∃ k : Nat, k ≤ 10 ∧ iv = .int .i64 k ∧ Hid (∀ j, j < k → eqN nm j = false) ∧ Hid (Below (w.heap.size + 1) (w.alloc (.cells #[.string ⟨#[]⟩, .int .i64 0, .int .i64 0, .int .i64 0] 118)) wr)) (fun i _ => 10 - (intOf i).toNat)
  case atStart => exact ⟨0, by omega, rfl, Lib.hid (fun j hj => absurd hj (by omega)), Lib.hid (Below.refl _ _)⟩
  case round =>
    obtain ⟨k, hk, rfl, hi, hb⟩ := hrel
    have HS := Lib.hid (show w.heap.size < wr.heap.size by have := hb.out.size; simp at this; omega)
    have hob := (hb.out.block w.heap.size (by omega)).trans HO.out
    obtain ⟨c0, f0, c1, f1, c2, f2, c3, f3⟩ := cells4_of hob
    have hlw := HS.out
    by_cases hlt : k < 10
    · have ix := tab_index k hlt
      have HE := Lib.hid (show eqN nm k = ((spN k).toList == nm.toList) from rfl)
      cases hs : ((spN k).toList == nm.toList) with
      | true =>
        go_wp2
        have e := ixN_at hlt hi.out (HE.out.trans hs)
        rw [e, show spB nm = true by simp [spB, e, hlt]]
        have q := (Below.heap_alloc _ (.cells #[.string (spN k), .int .i64 (spS k), .int .i64 (spH k), .int .i64 (spW k)] 118) w.heap.size (by simp; omega)).trans (stored4 (x0 := .string (spN k)) (x1 := .int .i64 (spS k)) (x2 := .int .i64 (spH k)) (x3 := .int .i64 (spW k)) hob).here
        obtain ⟨q0, _, q1, _, q2, _, q3, _⟩ := cells4_of q
        refine bodyPost_ret (v := .tuple #[.agg (spV k), .bool true]) ?_ rfl ⟨rfl, ?_⟩
        · clear c0 c1 c2 c3 f0 f1 f2 f3 hob q HE HO HN HT hb hi
          generalize World.alloc _ _ = W at *
          simp [results, Tryd.results74, go_sem, q0, q1, q2, q3, spV]
        have HB0 := HN.out.trans (hb.out.mono (by omega))
        (repeat (first | exact HB0 | refine Below.setCell ?_ (by first | exact Nat.le_refl _ | (show _ ≤ _; omega) | (simp; omega)) _ | refine Below.alloc ?_ (by first | exact Nat.le_refl _ | omega | (simp; done) | (simp; omega)) _))
      | false =>
        go_wp2
        go_roundw
        case rel => exact ⟨k + 1, by omega, by go_num, Lib.hid (fun j hj => (Nat.lt_succ_iff_lt_or_eq.1 hj).elim (hi.out j) (fun e => e ▸ HE.out.trans hs)), Lib.hid (hb.out.alloc (by omega) _)⟩
        case measure => simp [intOf]; omega
    · obtain rfl : k = 10 := by omega
      go_wp2
      have e := ixN_none hi.out
      rw [e, show spB nm = false by simp [spB, e]]
      have q := (stored4 (x0 := .string ⟨#[]⟩) (x1 := .int .i64 0) (x2 := .int .i64 0) (x3 := .int .i64 0) hob).here
      obtain ⟨q0, _, q1, _, q2, _, q3, _⟩ := cells4_of q
      refine bodyPost_ret (v := .tuple #[.agg (spV 10), .bool false]) ?_ rfl ⟨rfl, ?_⟩
      · clear c0 c1 c2 c3 f0 f1 f2 f3 hob q HO HN HT hb hi
        generalize World.setCell _ _ _ = W at *
        simp [results, Tryd.results74, go_sem, q0, q1, q2, q3, show spV 10 = #[.string ⟨#[]⟩, .int .i64 0, .int .i64 0, .int .i64 0] from rfl]
      have HB0 := HN.out.trans (hb.out.mono (by omega))
      (repeat (first | exact HB0 | refine Below.setCell ?_ (by first | exact Nat.le_refl _ | (show _ ≤ _; omega) | (simp; omega)) _ | refine Below.alloc ?_ (by first | exact Nat.le_refl _ | omega | (simp; done) | (simp; omega)) _))
end Go.Proofs.YtmfchcaidfloaaaDoor
