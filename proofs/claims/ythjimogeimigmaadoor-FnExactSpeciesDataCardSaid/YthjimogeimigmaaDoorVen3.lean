/- The data of a species: spec and impl. -/
import Derived.Test.YthjimogeimigmaaDoorVen2
namespace Go.Proofs.YthjimogeimigmaaDoor
open Seq2 Go.ChangeShapes Go.WideShapes Go.ChangeAt Go.RowKit
set_option linter.unusedVariables false
set_option linter.unusedSimpArgs false

theorem ix_le (nm : ByteArray) : ixN nm ≤ 10 := by
  unfold ixN
  cases h : (List.range 10).find? (eqN nm) with
  | none => simp
  | some k =>
    have := List.mem_of_find?_eq_some h
    simp at this ⊢; omega
/-- Shade, hardness, swelling, code. -/
def datR (nm : ByteArray) : Int × Int × Int × Int := if ixN nm < 10 then (spS (ixN nm), spH (ixN nm), spW (ixN nm), 0) else (0, 0, 0, 3)
set_option maxRecDepth 100000 in
set_option maxHeartbeats 4000000 in
theorem data_spec (nm : ByteArray) (w : World) : Calls Tryd.prog 19 #[.string nm] w fun e w' => e = .returned (.tuple #[.int .i64 (datR nm).1, .int .i64 (datR nm).2.1, .int .i64 (datR nm).2.2.1, .int .i64 (datR nm).2.2.2]) ∧ Below w.heap.size w w' := by
  by_cases h : ixN nm < 10
  · have HI := Lib.hid (show ixI nm = (ixN nm : Int) by simp [ixI, h])
    have HR := Lib.hid (show datR nm = (spS (ixN nm), spH (ixN nm), spW (ixN nm), 0) by simp [datR, h])
    generalize ixN nm = k at *
    rw [HR.out]
    have hd : decide ((k : Int) < 0) = false := by simp
    go_enter Tryd.func19, Tryd.ntmps19
    go_wp2_with fail
    refine (find_ven nm _).mono ?_
    rintro e w1 ⟨rfl, g1⟩
    have HG := Lib.hid g1
    clear g1
    rw [HI.out]
    go_wp2_with fail
    refine (table_spec _).mono ?_
    rintro e w2 ⟨b, rfl, tb, g2⟩
    have HG2 := Lib.hid (bseq HG.out g2)
    obtain ⟨hbs, ht⟩ := tb
    obtain ⟨c, hc, t0, t1, t2, t3⟩ := ht k h
    clear g2 ht
    go_wp2
    refine wp_region_below (by kernel_rfl) (by kernel_rfl) ?_
    repeat (first | (refine wq_skip ?_ ?_; (focus (go_simp; (first | done | (simp [undef]; done)))); (try simp only [Act.put, List.setIfInBounds_toArray, List.set_cons_zero, List.set_cons_succ])) | (refine wq_val ?_ ?_; (focus (go_simp; done)); apply Exists.intro; refine ⟨fun w1 hw1 => ?_, ?_⟩; (obtain ⟨hc, hf⟩ := bcell hw1; clear hw1; go_simp; (first | done | with_reducible rfl | (with_reducible exact eql2 _ _ _) | (with_reducible exact neq2 _ _ _))); (try simp only [Act.put, List.setIfInBounds_toArray, List.set_cons_zero, List.set_cons_succ])))
    refine wq_nil ?_
    intro w3 hb3
    have HB3 := Lib.hid (bseq HG2.out hb3)
    clear hb3
    go_wp2
    exact bodyPost_ret (v := .tuple #[.int .i64 (spS k), .int .i64 (spH k), .int .i64 (spW k), .int .i64 0]) (by simp [results, Tryd.results19, go_sem]) rfl ⟨rfl, HB3.out⟩
  · have HI := Lib.hid (show ixI nm = -1 by simp [ixI, h])
    have HR := Lib.hid (show datR nm = (0, 0, 0, 3) by simp [datR, h])
    rw [HR.out]
    go_enter Tryd.func19, Tryd.ntmps19
    go_wp2_with fail
    refine (find_ven nm _).mono ?_
    rintro e w1 ⟨rfl, g1⟩
    have HG := Lib.hid g1
    clear g1
    rw [HI.out]
    go_wp2
    exact bodyPost_ret (v := .tuple #[.int .i64 0, .int .i64 0, .int .i64 0, .int .i64 3]) (by simp [results, Tryd.results19, go_sem]) rfl ⟨rfl, HG.out⟩
set_option maxRecDepth 100000 in
set_option maxHeartbeats 4000000 in
theorem data_impl (nm : ByteArray) (w : World) (ht : TabAt w) : Calls Tryd.prog 20 #[.string nm] w fun e w' => e = .returned (.tuple #[.int .i64 (datR nm).1, .int .i64 (datR nm).2.1, .int .i64 (datR nm).2.2.1, .int .i64 (datR nm).2.2.2]) ∧ Below w.heap.size w w' := by
  have HT := Lib.hid ht
  clear ht
  cases h : spB nm with
  | true =>
    have h' : ixN nm < 10 := by simpa [spB] using h
    have HR := Lib.hid (show datR nm = (spS (ixN nm), spH (ixN nm), spW (ixN nm), 0) by simp [datR, h'])
    obtain ⟨k, hk⟩ : ∃ k, ixN nm = k := ⟨_, rfl⟩
    rw [hk] at HR h'
    have HK := Lib.hid hk
    rw [HR.out]
    clear hk
    go_enter Tryd.func20, Tryd.ntmps20
    go_wp2_with fail
    refine (named_ven nm _ HT.out).mono ?_
    rintro e w1 ⟨rfl, g1⟩
    have HG := Lib.hid g1
    clear g1
    rw [h, HK.out]
    unfold spV
    go_wp2
    refine wp_region_below (by kernel_rfl) (by kernel_rfl) ?_
    repeat (first | (refine wq_skip ?_ ?_; (focus (go_simp; (first | done | (simp [undef]; done)))); (try simp only [Act.put, List.setIfInBounds_toArray, List.set_cons_zero, List.set_cons_succ])) | (refine wq_val ?_ ?_; (focus (go_simp; done)); apply Exists.intro; refine ⟨fun w1 hw1 => ?_, ?_⟩; (obtain ⟨hc, hf⟩ := bcell hw1; clear hw1; go_simp; (first | done | with_reducible rfl | (with_reducible exact eql2 _ _ _) | (with_reducible exact neq2 _ _ _))); (try simp only [Act.put, List.setIfInBounds_toArray, List.set_cons_zero, List.set_cons_succ])))
    refine wq_nil ?_
    intro w3 hb3
    have HB3 := Lib.hid (bseq HG.out (bseq (one_alloc _) hb3))
    clear hb3
    go_wp2
    exact bodyPost_ret (v := .tuple #[.int .i64 (spS k), .int .i64 (spH k), .int .i64 (spW k), .int .i64 0]) (by simp [results, Tryd.results20, go_sem]) rfl ⟨rfl, HB3.out⟩
  | false =>
    have h' : ¬ ixN nm < 10 := by simpa [spB] using h
    have HR := Lib.hid (show datR nm = (0, 0, 0, 3) by simp [datR, h'])
    obtain ⟨k, hk⟩ : ∃ k, ixN nm = k := ⟨_, rfl⟩
    rw [hk] at h'
    have HK := Lib.hid hk
    rw [HR.out]
    clear hk
    go_enter Tryd.func20, Tryd.ntmps20
    go_wp2_with fail
    refine (named_ven nm _ HT.out).mono ?_
    rintro e w1 ⟨rfl, g1⟩
    have HG := Lib.hid g1
    clear g1
    rw [h, HK.out]
    unfold spV
    go_wp2
    exact bodyPost_ret (v := .tuple #[.int .i64 0, .int .i64 0, .int .i64 0, .int .i64 3]) (by simp [results, Tryd.results20, go_sem]) rfl ⟨rfl, HG.out.alloc (HG.out.size) _⟩
end Go.Proofs.YthjimogeimigmaaDoor
