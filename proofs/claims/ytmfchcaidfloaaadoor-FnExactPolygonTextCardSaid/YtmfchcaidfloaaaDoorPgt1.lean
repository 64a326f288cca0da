/- The text of a polygon: mathematics, spec. -/
import Derived.Test.YtmfchcaidfloaaaDoorK5
import Derived.Test.YtmfchcaidfloaaaDoorPtText
import Derived.Test.YtmfchcaidfloaaaDoorSeq3
namespace Go.Proofs.YtmfchcaidfloaaaDoor
open Seq2 Go.ChangeShapes Go.WideShapes Go.ChangeAt Go.RowKit
set_option linter.unusedVariables false
set_option linter.unusedSimpArgs false

def ptP (z : P2) : List UInt8 := ptT z.1 z.2
def pgJ (zs : List P2) : List UInt8 := Lib.join (zs.map ptP) [32]
theorem take_map_snocP (zs : List P2) (k : Nat) (h : k < zs.length) : zs.take (k + 1) = zs.take k ++ [zs.getD k (0, 0)] := by
  rw [List.take_succ_eq_append_getElem h]; simp [h]
theorem pg_first (zs : List P2) (h : 0 < zs.length) : pgJ (zs.take 1) = ptP (zs.getD 0 (0, 0)) := by
  rw [take_map_snocP zs 0 h]; simp [pgJ, Lib.join_one]
theorem pg_next (zs : List P2) (k : Nat) (hk : 0 < k) (h : k < zs.length) : pgJ (zs.take (k + 1)) = pgJ (zs.take k) ++ [32] ++ ptP (zs.getD k (0, 0)) := by
  rw [take_map_snocP zs k h]
  unfold pgJ
  rw [List.map_append, List.map_cons, List.map_nil]
  cases hz : (zs.take k).map ptP with
  | nil =>
    have := congrArg List.length hz
    rw [List.length_map, List.length_take, List.length_nil] at this
    omega
  | cons x r => rw [List.cons_append, join_snoc, List.append_assoc]
theorem ptP_len {z : P2} (h : okI z.1 z.2 = true) : (ptP z).length ≤ 41 := by
  have b := ok_bd h
  have hx := itoa_len z.1 (by omega) (by omega)
  have hy := itoa_len z.2 (by omega) (by omega)
  unfold ptP ptT
  simp only [List.length_append, List.length_cons]
  omega
theorem pg_len (zs : List P2) (hw : ∀ j, j < zs.length → okI (zs.getD j (0, 0)).1 (zs.getD j (0, 0)).2 = true) : ∀ k, k ≤ zs.length → (pgJ (zs.take k)).length ≤ 42 * k
  | 0, _ => by simp [pgJ, Lib.join_nil]
  | k + 1, h => by
    have hb := ptP_len (hw k (by omega))
    by_cases hk : k = 0
    · subst hk; rw [pg_first zs (by omega)]; omega
    · rw [pg_next zs k (by omega) (by omega)]
      have := pg_len zs hw k (by omega)
      simp only [List.length_append, List.length_cons, List.length_nil]; omega
theorem poly_pts {zs : List P2} (h : polyB zs = true) : (3 ≤ zs.length ∧ zs.length ≤ 24) ∧ ∀ j, j < zs.length → okI (zs.getD j (0, 0)).1 (zs.getD j (0, 0)).2 = true := by
  simp only [polyB, Bool.and_eq_true, decide_eq_true_eq] at h
  refine ⟨⟨h.1.1.1.1.1, h.1.1.1.1.2⟩, fun j hj => ?_⟩
  have := List.all_eq_true.1 h.1.1.1.2 (zs.getD j (0, 0)) (by simp [hj])
  exact this
def pgT (zs : List P2) : List UInt8 := if polyB zs then pgJ zs else []
theorem add_blank (l : List UInt8) (w : World) (h : l.length ≤ 100000) : (Op.stringOp .add (tb l) ⟨#[32]⟩).run Tryd.prog w = .ok (.string (tb (l ++ [32]))) w := add_tb l [32] w (by simp; omega)
set_option maxRecDepth 100000 in
set_option maxHeartbeats 4000000 in
theorem pgt_at (b cap : Nat) (zs : List P2) (w : World) (hl : zs.length ≤ 24) (hok : ∀ j, j < zs.length → okI (zs.getD j (0, 0)).1 (zs.getD j (0, 0)).2 = true) (h1 : PtsAt w b zs) :
    Calls Tryd.prog 49 #[.slice (some ⟨b, 0, none⟩) zs.length cap] w fun e w' => e = .returned (.string (tb (pgJ zs))) ∧ Below w.heap.size w w' := by
  have H1 := Lib.hid h1
  have HOK := Lib.hid hok
  have HPL := Lib.hid (pg_len zs hok)
  clear h1 hok
  go_enter Tryd.func49, Tryd.ntmps49
  go_wp2
  go_loopw [3, 4] (fun o i wr => ∃ k : Nat, k ≤ zs.length ∧ i = .int .i64 k ∧ o = .string (tb (pgJ (zs.take k))) ∧ Hid (Below w.heap.size w wr)) (fun _ i _ => zs.length - (intOf i).toNat)
  case atStart => exact ⟨0, by omega, rfl, rfl, Lib.hid (Below.refl _ _)⟩
  case round =>
    obtain ⟨k, hk, rfl, rfl, hb⟩ := hrel
    by_cases hlt : k < zs.length
    · have hp := H1.out.below hb.out H1.out.1
      have hbw := hp.1
      obtain ⟨c0, c1⟩ := hp.2 k hlt
      have HO := Lib.hid (HOK.out k hlt)
      have hjl := HPL.out k (by omega)
      have hpl := ptP_len (HOK.out k hlt)
      by_cases hk0 : k = 0
      · have HJ : Hid (pgJ (zs.take (k + 1)) = ptP (zs.getD k (0, 0))) := Lib.hid (by subst hk0; exact pg_first zs hlt)
        have hz : pgJ (zs.take k) = [] := by subst hk0; simp [pgJ, Lib.join_nil]
        have hk0' : k ≤ 0 := by omega
        generalize zs.getD k (0, 0) = z at *
        obtain ⟨x, y⟩ := z
        simp only at c0 c1 HO hpl
        have ha2 : ∀ w, (Op.stringOp .add (tb (pgJ (zs.take k))) (tb (ptT x y))).run Tryd.prog w = .ok (.string (tb (ptT x y))) w := fun w => by
          have := add_tb (pgJ (zs.take k)) (ptT x y) w (by rw [hz]; simp; unfold ptP at hpl; simp only at hpl; omega)
          rw [hz] at this ⊢
          exact this
        generalize pgJ (zs.take k) = J at *
        have hgt : decide ((0 : Int) < (k : Int)) = false := by simp; omega
        clear hz hk0 hp
        go_wp2_with ((with_reducible refine (textS _ _ _ HO.out).mono ?_); rintro e w' ⟨rfl, hb1⟩)
        go_roundw
        case rel => exact ⟨k + 1, by omega, by go_num, by rw [HJ.out]; rfl, Lib.hid (hb.out.trans (hb1.mono hb.out.size))⟩
        case measure => simp [intOf]; omega
      · have HJ := Lib.hid (pg_next zs k (by omega) hlt)
        have hkp : 0 < k := by omega
        generalize zs.getD k (0, 0) = z at *
        obtain ⟨x, y⟩ := z
        simp only at c0 c1 HO hpl
        have hp2 : (ptT x y).length ≤ 41 := hpl
        generalize pgJ (zs.take k) = J at *
        have ha1 := fun w => add_blank J w (by omega)
        have ha2 := fun w => add_tb (J ++ [32]) (ptT x y) w (by simp; omega)
        have hgt : decide ((0 : Int) < (k : Int)) = true := by simp; omega
        clear hp hpl
        go_wp2_with ((with_reducible refine (textS _ _ _ HO.out).mono ?_); rintro e w' ⟨rfl, hb1⟩)
        go_roundw
        case rel => exact ⟨k + 1, by omega, by go_num, by rw [HJ.out]; simp [ptP], Lib.hid (hb.out.trans (hb1.mono hb.out.size))⟩
        case measure => simp [intOf]; omega
    · go_wp2
      go_ret
      exact ⟨ret_tb (by rw [List.take_of_length_le (by omega)]), hb.out⟩
theorem pgt_spec (ao : Option Addr) (n cap : Nat) (zs : List P2) (w : World) (hl : n ≤ 1048576) (hp : PV w ao n zs) : Calls Tryd.prog 22 #[.slice ao n cap] w fun e w' => e = .returned (.string (tb (pgT zs))) ∧ Below w.heap.size w w' := by
  have HP := Lib.hid hp
  have HN := Lib.hid hp.1
  clear hp
  cases h : polyB zs with
  | false =>
    rw [show pgT zs = [] by unfold pgT; rw [h]; rfl]
    go_enter Tryd.func22, Tryd.ntmps22
    go_wp2_with fail
    refine (ok3_any ao n cap zs _ hl HP.out).mono ?_
    rintro e w1 ⟨rfl, g1⟩
    have HG := Lib.hid g1
    clear g1
    rw [h]
    go_wp2
    go_ret
    exact ⟨rfl, HG.out⟩
  | true =>
    rw [show pgT zs = pgJ zs by unfold pgT; rw [h]; rfl]
    obtain ⟨⟨h3, h24⟩, hok⟩ := poly_pts h
    have HOK := Lib.hid hok
    have hn3 : 1 ≤ n := by rw [HN.out]; omega
    obtain ⟨b, rfl, hpt⟩ := HP.out.at hn3
    have HPT := Lib.hid hpt
    clear hpt hok
    go_enter Tryd.func22, Tryd.ntmps22
    go_wp2_with fail
    refine (ok3_any _ n cap zs _ hl HP.out).mono ?_
    rintro e w1 ⟨rfl, g1⟩
    have HG := Lib.hid g1
    have HP1 := Lib.hid (HPT.out.below g1 HPT.out.1)
    clear g1
    rw [h]
    have HC := Lib.hid (pgt_at b cap zs w1 h24 HOK.out HP1.out)
    rw [← HN.out] at HC
    go_wp2_with fail
    refine (HC.out).mono ?_
    rintro e w2 ⟨rfl, g2⟩
    have HG2 := Lib.hid (bseq HG.out g2)
    clear g2
    go_wp2
    go_ret
    exact ⟨rfl, HG2.out⟩
end Go.Proofs.YtmfchcaidfloaaaDoor
