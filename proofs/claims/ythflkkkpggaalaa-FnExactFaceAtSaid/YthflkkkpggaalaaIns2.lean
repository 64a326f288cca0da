/- Is a point inside of a polygon, in spec. -/
import Derived.Test.YthflkkkpggaalaaIns1
namespace Go.Proofs.Ythflkkkpggaalaa
open Go.ChangeShapes Go.WideShapes Go.ChangeAt Go.RowKit
set_option linter.unusedVariables false
set_option linter.unusedSimpArgs false

theorem off_val (zs : List P2) (q : P2) (k : Nat) (hk : k < zs.length) (x y u v : Int) (h1 : zs.getD k (0, 0) = (x, y)) (h2 : zs.getD ((k + 1) % zs.length) (0, 0) = (u, v)) : offF zs q k = !onB x y u v q.1 q.2 ∧ pasF zs q k = pasI x y u v q.1 q.2 := by
  unfold offF pasF onP
  rw [pt_lt hk, h1, pt, h2]
  exact ⟨rfl, rfl⟩
theorem ins_flip {zs : List P2} {q : P2} {k : Nat} {d : Int} (h : pasF zs q k ≠ 0) (hd : insT zs q k = d) : insT zs q (k + 1) = -d := by simp only [insT]; rw [if_pos h, hd]
theorem ins_keep {zs : List P2} {q : P2} {k : Nat} {d : Int} (h : pasF zs q k = 0) (hd : insT zs q k = d) : insT zs q (k + 1) = d := by simp only [insT]; rw [if_neg (by omega), hd]
set_option maxRecDepth 100000 in
set_option maxHeartbeats 4000000 in
theorem ins_spec (b len cap : Nat) (zs : List P2) (xq yq : Int) (w : World) (hz : len = zs.length) (h1 : 1 ≤ len) (hl : len ≤ 24) (hv : allOk zs = true) (hp : PtsAt w b zs) (hq : okI xq yq = true) :
    Calls Try.prog 44 #[.slice (some ⟨b, 0, none⟩) len cap, .agg #[.int .i64 xq, .int .i64 yq]] w fun e w' => e = .returned (.int .i64 (insS zs (xq, yq))) ∧ Below w.heap.size w w' := by
  have HZ := Lib.hid hz
  have HP := Lib.hid hp
  have HV := Lib.hid hv
  have HQ := Lib.hid hq
  clear hz hp hv hq
  go_enter Try.func44, Try.ntmps44
  go_wp2
  go_loopw [5, 6] (fun d i wr => ∃ k : Nat, k ≤ len ∧ i = .int .i64 k ∧ (∃ t : Int, d = .int .i64 t ∧ Hid (insT zs (xq, yq) k = t)) ∧ Hid (allTo (offF zs (xq, yq)) k = true) ∧ Hid (Below (w.alloc (.cells #[.int .i64 xq, .int .i64 yq] 39)).heap.size (w.alloc (.cells #[.int .i64 xq, .int .i64 yq] 39)) wr)) (fun _ i _ => len - (intOf i).toNat)
  case atStart => exact ⟨0, by omega, rfl, ⟨-1, rfl, Lib.hid rfl⟩, Lib.hid rfl, Lib.hid (Below.refl _ _)⟩
  case round =>
    obtain ⟨k, hk, rfl, ⟨d, rfl, hd⟩, ho, hb⟩ := hrel
    have c0 : wr.cell? ⟨w.heap.size, 0, none⟩ = some (.int .i64 xq) := by rw [(bcell hb.out).1 _ _ (by simp)]; go_simp
    have c1 : wr.cell? ⟨w.heap.size, 1, none⟩ = some (.int .i64 yq) := by rw [(bcell hb.out).1 _ _ (by simp)]; go_simp
    have hs : w.heap.size < wr.heap.size := by have := hb.out.size; simp at this; omega
    have HW0 := Lib.hid ((one_alloc (w := w) (.cells #[.int .i64 xq, .int .i64 yq] 39)).trans (hb.out.mono (by simp)))
    by_cases hlt : k < len
    · have hkz : k < zs.length := by have := HZ.out; omega
      have hj : (k + 1) % zs.length < zs.length := Nat.mod_lt _ (by omega)
      have hP := HP.out.below HW0.out HP.out.1
      have hbw := hP.1
      obtain ⟨x, y, e1, o1, p0, p1⟩ := hP.ok HV.out hkz
      obtain ⟨u, v, e2, o2, r0, r1⟩ := hP.ok HV.out hj
      have ov := off_val zs (xq, yq) k hkz x y u v e1 e2
      have HO := Lib.hid ov.1
      have HS := Lib.hid ov.2
      have hdr := insT_rng zs (xq, yq) k
      rw [hd.out] at hdr
      have hn : IntKind.i64.wrap (-d) = -d := IntWalk.i64_in _ (by omega)
      clear ov hdr hP e1 e2
      rw [← HZ.out] at hj r0 r1
      have gm : ((k : Int) + 1).tmod (len : Int) = (((k + 1) % len : Nat) : Int) := mod_tm k 1 len (by omega)
      generalize (k + 1) % len = j at *
      have HX := Lib.hid fun w => on_spec x y u v xq yq w o1 o2 HQ.out
      have HY := Lib.hid fun w => side_spec x y u v xq yq w o1 o2 HQ.out
      have HPS := Lib.hid (show pasI x y u v xq yq = if y ≤ yq ∧ yq < v ∧ 0 < sdI x y u v xq yq then 1 else if v ≤ yq ∧ yq < y ∧ sdI x y u v xq yq < 0 then -1 else 0 from rfl)
      clear o1 o2
      generalize sdI x y u v xq yq = s at *
      generalize pasI x y u v xq yq = pp at *
      generalize hob : onB x y u v xq yq = ob at *
      go_wp2_with fail
      refine (HX.out _).mono ?_
      rintro e w1 ⟨rfl, g1⟩
      have HG1 := Lib.hid ((hb.out.trans ((two_allocs (.cells #[.int .i64 x, .int .i64 y] 39) (.cells #[.int .i64 u, .int .i64 v] 39)).mono hb.out.size)).trans (g1.mono (Nat.le_trans hb.out.size (two_allocs _ _).size)))
      have hs1 := g1.size
      obtain ⟨k1, q1⟩ := bcell g1
      have HGA := Lib.hid g1
      clear g1
      have e0 : w1.cell? ⟨w.heap.size, 0, none⟩ = some (.int .i64 xq) := by rw [(bcell HG1.out).1 _ _ (by simp)]; go_simp
      have e1 : w1.cell? ⟨w.heap.size, 1, none⟩ = some (.int .i64 yq) := by rw [(bcell HG1.out).1 _ _ (by simp)]; go_simp
      cases ob with
      | true =>
        go_wp2
        go_ret
        exact ⟨ret_int (by unfold insS; rw [allTo_bad (k := k) (by have := HZ.out; omega) (by rw [HO.out]; rfl)]; rfl), (one_alloc _).trans (HG1.out.mono (by simp))⟩
      | false =>
        have HA := Lib.hid (Lib.hid (allTo_succ ho.out (by rw [HO.out]; rfl)))
        simp at hs1
        by_cases a1 : y ≤ yq
        · by_cases a2 : yq < v
          · go_wp2_with fail
            refine (HY.out _).mono ?_
            rintro e w2 ⟨rfl, g2⟩
            have HG2 := Lib.hid (HG1.out.trans (g2.mono (HG1.out.size)))
            obtain ⟨k2, q2⟩ := bcell (bseq HGA.out g2)
            have hs2 := (bseq HGA.out g2).size
            simp at hs2
            clear g2 k1 q1 e0 e1
            have e0 : w2.cell? ⟨w.heap.size, 0, none⟩ = some (.int .i64 xq) := by rw [(bcell HG2.out).1 _ _ (by simp)]; go_simp
            have e1 : w2.cell? ⟨w.heap.size, 1, none⟩ = some (.int .i64 yq) := by rw [(bcell HG2.out).1 _ _ (by simp)]; go_simp
            by_cases a3 : 0 < s
            · have HC := Lib.hid (And.intro a1 (And.intro a2 a3))
              have HPN := Lib.hid (show pasF zs (xq, yq) k ≠ 0 by rw [HS.out, HPS.out]; rw [if_pos (by have := HC.out; omega)]; decide)
              go_wp2
              go_roundw
              case rel => exact ⟨k + 1, by omega, by go_num, ⟨-d, rfl, Lib.hid (ins_flip HPN.out hd.out)⟩, HA.out, Lib.hid HG2.out⟩
              case measure => simp [intOf]; omega
            · have HC := Lib.hid (And.intro a1 (And.intro a2 a3))
              have HPN := Lib.hid (show pasF zs (xq, yq) k = 0 by rw [HS.out, HPS.out]; rw [if_neg (fun h => by have := HC.out; omega), if_neg (fun h => by have := HC.out; omega)])
              go_wp2
              go_roundw
              case rel => exact ⟨k + 1, by omega, by go_num, ⟨d, rfl, Lib.hid (ins_keep HPN.out hd.out)⟩, HA.out, Lib.hid HG2.out⟩
              case measure => simp [intOf]; omega
          · have HC := Lib.hid (And.intro a1 a2)
            have HPN := Lib.hid (show pasF zs (xq, yq) k = 0 by rw [HS.out, HPS.out]; rw [if_neg (fun h => by have := HC.out; omega), if_neg (fun h => by have := HC.out; omega)])
            go_wp2
            go_roundw
            case rel => exact ⟨k + 1, by omega, by go_num, ⟨d, rfl, Lib.hid (ins_keep HPN.out hd.out)⟩, HA.out, Lib.hid HG1.out⟩
            case measure => simp [intOf]; omega
        · by_cases a2 : v ≤ yq
          · go_wp2_with fail
            refine (HY.out _).mono ?_
            rintro e w2 ⟨rfl, g2⟩
            have HG2 := Lib.hid (HG1.out.trans (g2.mono (HG1.out.size)))
            obtain ⟨k2, q2⟩ := bcell (bseq HGA.out g2)
            have hs2 := (bseq HGA.out g2).size
            simp at hs2
            clear g2 k1 q1 e0 e1
            have e0 : w2.cell? ⟨w.heap.size, 0, none⟩ = some (.int .i64 xq) := by rw [(bcell HG2.out).1 _ _ (by simp)]; go_simp
            have e1 : w2.cell? ⟨w.heap.size, 1, none⟩ = some (.int .i64 yq) := by rw [(bcell HG2.out).1 _ _ (by simp)]; go_simp
            by_cases a3 : s < 0
            · have HC := Lib.hid (And.intro a1 (And.intro a2 a3))
              have HPN := Lib.hid (show pasF zs (xq, yq) k ≠ 0 by rw [HS.out, HPS.out]; rw [if_neg (fun h => by have := HC.out; omega), if_pos (by have := HC.out; omega)]; decide)
              go_wp2
              go_roundw
              case rel => exact ⟨k + 1, by omega, by go_num, ⟨-d, rfl, Lib.hid (ins_flip HPN.out hd.out)⟩, HA.out, Lib.hid HG2.out⟩
              case measure => simp [intOf]; omega
            · have HC := Lib.hid (And.intro a1 (And.intro a2 a3))
              have HPN := Lib.hid (show pasF zs (xq, yq) k = 0 by rw [HS.out, HPS.out]; rw [if_neg (fun h => by have := HC.out; omega), if_neg (fun h => by have := HC.out; omega)])
              go_wp2
              go_roundw
              case rel => exact ⟨k + 1, by omega, by go_num, ⟨d, rfl, Lib.hid (ins_keep HPN.out hd.out)⟩, HA.out, Lib.hid HG2.out⟩
              case measure => simp [intOf]; omega
          · have HC := Lib.hid (And.intro a1 a2)
            have HPN := Lib.hid (show pasF zs (xq, yq) k = 0 by rw [HS.out, HPS.out]; rw [if_neg (fun h => by have := HC.out; omega), if_neg (fun h => by have := HC.out; omega)])
            go_wp2
            go_roundw
            case rel => exact ⟨k + 1, by omega, by go_num, ⟨d, rfl, Lib.hid (ins_keep HPN.out hd.out)⟩, HA.out, Lib.hid HG1.out⟩
            case measure => simp [intOf]; omega
    · go_wp2
      go_ret
      exact ⟨ret_int (by unfold insS; rw [← HZ.out, ← show k = len by omega, ho.out, if_pos rfl, hd.out]), HW0.out⟩
end Go.Proofs.Ythflkkkpggaalaa
