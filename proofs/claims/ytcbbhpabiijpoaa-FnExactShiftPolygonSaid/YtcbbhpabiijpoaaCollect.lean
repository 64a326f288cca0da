/- slices.Collect of the edges of a polygon. -/
import Derived.Test.YtcbbhpabiijpoaaPolyArea
import Derived.Test.YtcbbhpabiijpoaaAppN
namespace Go.Proofs.Ytcbbhpabiijpoaa
attribute [local go_sem] Oper.semAt_some
open Go.Shelf Go.ChangeShapes Go.WideShapes Go.ChangeAt Go.RowKit
set_option linter.unusedVariables false

def segC (zs : List P2) (k : Nat) : List Value := [.int .i64 (pt zs k).1, .int .i64 (pt zs k).2, .int .i64 (pt zs (k + 1)).1, .int .i64 (pt zs (k + 1)).2]
def segCs (zs : List P2) (pre : List Nat) : List Value := pre.flatMap (segC zs)
theorem segCs_snoc (zs : List P2) (pre : List Nat) (x : Nat) : segCs zs (pre ++ [x]) = segCs zs pre ++ segC zs x := by simp [segCs]
theorem info_seg : (Try.prog.info? 68).map (fun i => (i.zero, i.size, i.bytes)) = some (some (.agg #[.int .i64 0, .int .i64 0, .int .i64 0, .int .i64 0]), 4, 32) := by kernel_rfl
/-- Between two rounds: the variable holds a slice of the call's own with what has come. -/
def Coll (zs : List P2) (w : World) (pre : List Nat) (W : World) : Prop := Below w.heap.size w W ∧ ∃ v, Boxed W w.heap.size 124 v ∧ W.ownsRow w.heap.size 68 4 v pre.length (segCs zs pre) ∧ True
theorem coll_own (zs : List P2) {w : World} {B : Nat} (hB : w.heap.size ≤ B) : OwnFrom B (Coll zs w) := fun s X Y row hs hg hr =>
  ⟨ownFrom_below (β := Unit) (Nat.le_refl _) hB () X Y row hs.1 hg hr, (holdsRow_own w.heap.size w.heap.size 124 68 4 (fun (p : List Nat) => p.length) (segCs zs) (fun _ _ => True)).from B s X Y row hs.2 hg hr⟩
def CollPost (zs : List P2) (len : Nat) (w : World) (e : Ending) (w' : World) : Prop := ∃ v, e = .returned v ∧ w'.ownsRow w.heap.size 68 4 v len (segCs zs (List.range len)) ∧ Below w.heap.size w w'
set_option maxRecDepth 100000 in
set_option maxHeartbeats 4000000 in
theorem appendSeq_any (B b len cap : Nat) (zs : List P2) (w : World) (hz : len = zs.length) (h1 : 1 ≤ len) (hl : len ≤ 24) (hB : B < w.heap.size) (hBc : w.cell? ⟨B, 0, none⟩ = some (.slice (some ⟨b, 0, none⟩) len cap)) (hp : PtsAt w b zs) :
    Calls Try.prog 131 #[.slice none 0 0, .func (.func 106) #[] #[.pointer (some ⟨B, 0, none⟩)]] w (CollPost zs len w) := by
  have HZ := Lib.hid hz
  have HP := Lib.hid hp
  have hbw := hp.1
  have HBC := Lib.hid hBc
  clear hz hp hBc
  obtain ⟨i0, hi, hz0, hz1, hz2⟩ := info_parts info_seg
  refine callsIn_wide (n := 2) |>.1 ?_
  refine callsIn_of_wp_marks Try.func131 rfl trivial ?_ rfl
  simp only [Try.ntmps131, List.size_toArray, List.length_cons, List.length_nil, Nat.reduceAdd, Nat.reduceSub, Array.replicate_succ, Array.replicate_zero, List.push_toArray, List.append_toArray, List.nil_append, List.cons_append]
  gi_wp2
  refine wp_edges B b len cap zs HZ.out h1 (by omega) rfl (by simp; omega) ((World.cell?_of_block (Below.heap_alloc _ _ _ hB)).trans HBC.out) (HP.out.below (one_alloc _) hbw) (Coll zs w) (fun _ _ _ => False) (coll_own zs (by simp)) (fun _ _ _ _ _ h _ _ => h)
    ⟨one_alloc _, _, Boxed.new w 124 (.slice none 0 0), ⟨rfl, .inl ⟨rfl, rfl⟩⟩, trivial⟩
    (fun x a' W => ∃ E, w.heap.size + 1 ≤ E ∧ W.heap[E]? = some (seg4 zs x) ∧ a' = { tmps := #[.slice none 0 0, .func (.func 106) #[] #[.pointer (some ⟨B, 0, none⟩)], .pointer (some ⟨w.heap.size, 0, none⟩), undef, .slice none 0 0, .pointer (some ⟨E, 0, none⟩), .func (.func 106) #[] #[.pointer (some ⟨B, 0, none⟩)], segV zs x, undef, undef, undef, undef, undef], defers := [] }) ?_ ?_ ?_ ?_ ?_
  · rintro x a' _ X Y row ⟨E, h1, h2, h3⟩ hg hr
    exact ⟨E, h1, own_cells rfl () X Y row h2 hg hr, h3⟩
  · intro l pre x W K hW hI hK
    simp at hW
    unfold segV
    gi_wp2
    refine hK _ _ ((KeepsOthers.alloc _ _).from _) (Keep2.of_below (one_alloc _) (by omega) (by omega)) ((coll_own zs (B := w.heap.size) (by simp)).alloc _ hI) ⟨W.heap.size, by omega, World.alloc_heap_new _ _, rfl⟩
  · rintro l pre x a' W hW ⟨hb, v, hv, hr, _⟩ ⟨E, hE1, hE2, rfl⟩ hlen
    simp at hW
    obtain ⟨c0, f0, c1, f1, c2, f2, c3, f3⟩ := cells4_of hE2
    have hsc := hv.cell
    have hsf := hv.frozen
    have hEW : E < W.heap.size := (Array.getElem?_eq_some_iff.1 hE2).1
    have HS := Lib.hid (segCs_snoc zs pre x)
    have HF := Lib.hid (show segC zs x = [.int .i64 (pt zs x).1, .int .i64 (pt zs x).2, .int .i64 (pt zs (x + 1)).1, .int .i64 (pt zs (x + 1)).2] from rfl)
    have HV := Lib.hid hv
    have HR := Lib.hid hr
    have HB := Lib.hid hb
    clear hE2 f0 f1 f2 f3 hv hr hb
    generalize (pt zs x).1 = xa at *
    generalize (pt zs x).2 = ya at *
    generalize (pt zs (x + 1)).1 = xb at *
    generalize (pt zs (x + 1)).2 = yb at *
    gi_wp2_with (gi_at_builtin; refine wpListIn_appN (us := [.int .i64 xa, .int .i64 ya, .int .i64 xb, .int .i64 yb]) rfl _ _ 124 rfl w.heap.size 68 i0 _ 4 32 Try.underlying124 hi hz0 hz1 hz2 rfl (by omega) v _ _ rfl HR.out W.heap.size rfl rfl rfl rfl (by omega) (by omega) (by omega) ?_)
    intro v' w2 hown hgrow
    obtain ⟨hvb, hvb2, hro2, hko, hbl⟩ := HV.out.appended (by decide) HR.out (by omega) (Nat.le_refl _) hown hgrow
    have hsc2 := hvb.cell
    have hsf2 := hvb.frozen
    obtain ⟨g, cp, rfl⟩ := ownsRow_succ hown
    have H1 := Lib.hid hvb2
    have H2 := Lib.hid hro2
    have H3 := Lib.hid hko
    have H4 := Lib.hid hbl
    clear hvb hvb2 hro2 hko hbl hown hgrow hsc hsf
    gi_wp2
    refine ⟨H3.out.from _, Keep2.of_below H4.out (by omega) hB, (HB.out.trans H4.out), _, H1.out, ?_, trivial⟩
    rw [HS.out, HF.out, List.length_append]
    exact H2.out
  · rintro D W hD ⟨hb, v, hv, hr, _⟩ hd
    have hsc := hv.cell
    have HB := Lib.hid hb
    have HR := Lib.hid hr
    clear hb hv hr
    gi_wp2
    refine ⟨by simp, .inl ⟨_, _, rfl, run_takeDeferred hd, ?_⟩⟩
    refine ⟨_, results_tmp rfl _ _ _, ?_⟩
    refine ⟨v, rfl, ?_, belowK_put HB.out (by simp at hD; omega) hd⟩
    have := HR.out
    rw [List.length_range] at this
    exact ownsRow_putObj this _ hd rfl
  · intro D c k W _ _ h _
    exact h.elim
end Go.Proofs.Ytcbbhpabiijpoaa
