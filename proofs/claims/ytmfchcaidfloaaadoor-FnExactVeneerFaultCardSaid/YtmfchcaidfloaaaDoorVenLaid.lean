/- The table of species as a row lists it; what a row says of the variable behind the call. -/
import Derived.Test.YtmfchcaidfloaaaDoorVen1
import Derived.Test.YtmfchcaidfloaaaDoorRows
import Derived.ProofKit
import Derived.OpenShut
import Derived.ChangeVars
import Derived.Deep.DeepHandedRow
import Derived.Lib.LaidTab
import Derived.Lib.LaidU8
import Derived.Lib.SmallJoins
import Derived.Lay
import Derived.LaidMore
import Derived.LaidSub
import Derived.MakeChecks
namespace Go.Proofs.YtmfchcaidfloaaaDoor
open Go.ChangeShapes Go.WideShapes Go.ChangeAt Go.RowKit Go.WideElems
set_option linter.unusedVariables false
set_option linter.unusedSimpArgs false

theorem list_chunks {α : Type} (n : Nat) (l : List α) (h : l.length = n * 4) : l = (List.range n).flatMap (fun i => (l.drop (i * 4)).take 4) := by
  induction n generalizing l with
  | zero => cases l <;> simp_all
  | succ n ih =>
    rw [List.range_succ_eq_map, List.flatMap_cons, List.flatMap_map]
    have := ih (l.drop 4) (by simp; omega)
    conv => lhs; rw [← List.take_append_drop 4 l, this]
    simp only [Nat.zero_mul, List.drop_zero, List.drop_drop, Function.comp]
    congr 1
    rw [List.flatMap_def, List.flatMap_def]
    congr 1
    refine List.map_congr_left fun i _ => ?_
    rw [show 4 + i * 4 = (i + 1) * 4 by omega]
theorem gSpecies : Tryd.prog.globalNamed "loop.example/g00956/impl.speciesTable" = some 5 := by kernel_rfl
theorem tSpecies : (Tryd.prog.globals[5]?).map (·.type) = some 144 := by kernel_rfl
theorem cSp : Tryd.prog.cellsOf 118 = 4 := by kernel_rfl
theorem cTab : Tryd.prog.cellsOf 144 = 40 := by kernel_rfl
theorem cStrT : Tryd.prog.cellsOf 9 = 1 := by kernel_rfl
theorem cIntT : Tryd.prog.cellsOf 2 = 1 := by kernel_rfl
set_option maxRecDepth 100000 in
/-- A row of the table out of its datum. -/
theorem sp_cells {W : World} {m : Nat} {l : List Value} {p : List MemPlace} {s : List UInt8} {a b c : Int} (h : DataW.trod (fun _ => ()) Tryd.prog W 0 (fun _ => true) false m 118 l = some (.agg [.lit (.string s), .lit (.int .i64 a), .lit (.int .i64 b), .lit (.int .i64 c)], p)) :
    l = [.string ⟨s.toArray⟩, .int .i64 a, .int .i64 b, .int .i64 c] := by
  obtain ⟨xs, n, _, hx, hl, hlen, hf⟩ := DataW.trod_struct Tryd.underlying118 h
  rw [cSp] at hl
  match l, hl with
  | [c0, c1, c2, c3], _ =>
    match xs, hlen with
    | [y0, y1, y2, y3], _ =>
      have h0 := hf 0 _ rfl
      have h1 := hf 1 _ rfl
      have h2 := hf 2 _ rfl
      have h3 := hf 3 _ rfl
      change DataW.trod _ Tryd.prog W 0 (fun _ => true) false n 9 (([c0, c1, c2, c3].drop 0).take (Tryd.prog.cellsOf 9)) = some y0 at h0
      change DataW.trod _ Tryd.prog W 0 (fun _ => true) false n 2 (([c0, c1, c2, c3].drop 1).take (Tryd.prog.cellsOf 2)) = some y1 at h1
      change DataW.trod _ Tryd.prog W 0 (fun _ => true) false n 2 (([c0, c1, c2, c3].drop 2).take (Tryd.prog.cellsOf 2)) = some y2 at h2
      change DataW.trod _ Tryd.prog W 0 (fun _ => true) false n 2 (([c0, c1, c2, c3].drop 3).take (Tryd.prog.cellsOf 2)) = some y3 at h3
      rw [cStrT] at h0
      rw [cIntT] at h1 h2 h3
      obtain ⟨s', e0, r0, _⟩ := DataW.trod_string Tryd.underlying9 h0
      obtain ⟨a', e1, r1, _⟩ := DataW.trod_int Tryd.underlying2 h1
      obtain ⟨b', e2, r2, _⟩ := DataW.trod_int Tryd.underlying2 h2
      obtain ⟨c', e3, r3, _⟩ := DataW.trod_int Tryd.underlying2 h3
      simp at e0 e1 e2 e3
      subst e0 e1 e2 e3 r0 r1 r2 r3
      simp at hx
      obtain ⟨⟨q0, q1, q2, q3⟩, _⟩ := hx
      rw [← q1, ← q2, ← q3, q0]
set_option maxRecDepth 100000 in
theorem tabAt_of {W : World} {L : List (String × DataW Unit)} (h : laidMet Tryd.prog L W) (hm : ("loop.example/g00956/impl.speciesTable", Rows.laid_loop_example_g00956_impl_speciesTable) ∈ L) : TabAt W := by
  obtain ⟨g, t, cs, fuel, p, hg, ht, hv, hd⟩ := Lib.laidMet.reads h hm
  obtain rfl := Option.some.inj (gSpecies.symm.trans hg)
  obtain rfl := Option.some.inj (tSpecies.symm.trans ht)
  obtain ⟨xs, m, _, ex, hl, hn, hel⟩ := DataW.trod_array Tryd.underlying144 hd
  rw [cTab] at hl
  have e : cs = tabC := by
    rw [cSp] at hel
    have hx : xs.map (·.1) = _ := (DataW.agg.inj (Prod.mk.inj ex).1).symm
    match xs, hn, hx, hel with
    | [x0, x1, x2, x3, x4, x5, x6, x7, x8, x9], _, hx, hel =>
      simp only [List.map_cons, List.map_nil, List.cons.injEq, and_true] at hx
      obtain ⟨z0, z1, z2, z3, z4, z5, z6, z7, z8, z9⟩ := hx
      have r0 := sp_cells ((hel 0 (by omega)).trans (congrArg some (Prod.ext z0 rfl : x0 = (_, x0.2))))
      have r1 := sp_cells ((hel 1 (by omega)).trans (congrArg some (Prod.ext z1 rfl : x1 = (_, x1.2))))
      have r2 := sp_cells ((hel 2 (by omega)).trans (congrArg some (Prod.ext z2 rfl : x2 = (_, x2.2))))
      have r3 := sp_cells ((hel 3 (by omega)).trans (congrArg some (Prod.ext z3 rfl : x3 = (_, x3.2))))
      have r4 := sp_cells ((hel 4 (by omega)).trans (congrArg some (Prod.ext z4 rfl : x4 = (_, x4.2))))
      have r5 := sp_cells ((hel 5 (by omega)).trans (congrArg some (Prod.ext z5 rfl : x5 = (_, x5.2))))
      have r6 := sp_cells ((hel 6 (by omega)).trans (congrArg some (Prod.ext z6 rfl : x6 = (_, x6.2))))
      have r7 := sp_cells ((hel 7 (by omega)).trans (congrArg some (Prod.ext z7 rfl : x7 = (_, x7.2))))
      have r8 := sp_cells ((hel 8 (by omega)).trans (congrArg some (Prod.ext z8 rfl : x8 = (_, x8.2))))
      have r9 := sp_cells ((hel 9 (by omega)).trans (congrArg some (Prod.ext z9 rfl : x9 = (_, x9.2))))
      have hc := list_chunks 10 cs.toList (by omega)
      rw [show List.range 10 = [0, 1, 2, 3, 4, 5, 6, 7, 8, 9] from rfl] at hc
      simp only [List.flatMap_cons, List.flatMap_nil, r0, r1, r2, r3, r4, r5, r6, r7, r8, r9] at hc
      rw [← Array.toArray_toList (xs := cs), hc]
      rfl
  subst e
  unfold World.var? at hv
  rw [gSpecies] at hv
  simp only [Option.bind_some] at hv
  split at hv
  · next c t' fr hh =>
    cases hv
    exact ⟨_, _, hh⟩
  · cases hv
/-- The variable reads the same behind the call, whatever spare is asked. -/
theorem species_stay {H : Type} {enc : TypeId × Value → H} {W W' : World} {gs : List (DataW H)} {ps : List MemPlace} (hb : Below W.heap.size W W') (h : DataW.TrodVars enc Tryd.prog W (fun _ => true) ["loop.example/g00956/impl.speciesTable"] gs ps)
    {sp : Nat → Bool} (hsp : ∀ p ∈ ps, sp p.block = true) : DataW.TrodVars enc Tryd.prog W' sp ["loop.example/g00956/impl.speciesTable"] gs ps := by
  have hlt := h.lt
  obtain ⟨g, t, cs, fuel, d, p, rfl, h1, h2, h3, h4, rfl⟩ := trodVars_one h
  obtain rfl := Option.some.inj (gSpecies.symm.trans h1)
  obtain rfl := Option.some.inj (tSpecies.symm.trans h2)
  have hg : 5 < W.heap.size := by
    rcases Nat.lt_or_ge 5 W.heap.size with h' | h'
    · exact h'
    · unfold World.var? at h3
      simp [gSpecies, Array.getElem?_eq_none h'] at h3
  have h3' : W'.var? Tryd.prog "loop.example/g00956/impl.speciesTable" = some cs := by
    unfold World.var? at h3 ⊢
    rw [gSpecies] at h3 ⊢
    simp only [Option.bind_some] at h3 ⊢
    rw [hb.block _ hg]; exact h3
  have hr : Tryd.prog.readableRec 144 = true := by kernel_rfl
  have hrow : 144 < Tryd.prog.types.size := of_decide_eq_true (by kernel_rfl)
  exact trodVars_mk1 gSpecies tSpecies h3' (DataW.trod_stays (kids_book (by kernel_rfl) hr) (book_sized hr) (fun h => by cases h) ⟨hrow, book_self _⟩ h4 (fun x hx => hb.same (hlt x (by simp [hx]))) (fun x hx => hsp x (by simp [hx])))
end Go.Proofs.YtmfchcaidfloaaaDoor
