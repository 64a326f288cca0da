/- Leaves of a flitch in their sequence: mathematics, spec. -/
import Derived.Test.YtcjpplijbdfgbaaDoorLea11
import Derived.Laws.AppendOwn
namespace Go.Proofs.YtcjpplijbdfgbaaDoor
open Seq2 Go.ChangeShapes Go.WideShapes Go.ChangeAt Go.RowKit
set_option linter.unusedVariables false
set_option linter.unusedSimpArgs false

def nuL (zs : List Lf) (i : Int) : Int := (zs.getD i.toNat lf0).nu
/-- Where an element is put: behind the last of the first k that is not greater. -/
def posN (f : Int → Int) (x : Int) (L : List Int) : Nat → Nat
  | 0 => 0
  | k + 1 => if f x < f (L.getD k 0) then posN f x L k else k + 1
theorem posN_le (f : Int → Int) (x : Int) (L : List Int) : ∀ k, posN f x L k ≤ k
  | 0 => Nat.le_refl _
  | k + 1 => by
    have := posN_le f x L k
    unfold posN; split <;> omega
def insF (f : Int → Int) (L : List Int) (x : Int) : List Int := L.take (posN f x L L.length) ++ x :: L.drop (posN f x L L.length)
theorem insF_len (f : Int → Int) (L : List Int) (x : Int) : (insF f L x).length = L.length + 1 := by
  have := posN_le f x L L.length
  simp only [insF, List.length_append, List.length_take, List.length_cons, List.length_drop]; omega
theorem insF_mem {f : Int → Int} {L : List Int} {x y : Int} (h : y ∈ insF f L x) : y = x ∨ y ∈ L := by
  unfold insF at h
  rcases List.mem_append.1 h with h | h
  · exact Or.inr (List.mem_of_mem_take h)
  · rcases List.mem_cons.1 h with h | h
    · exact Or.inl h
    · exact Or.inr (List.mem_of_mem_drop h)
def srtF (f : Int → Int) (L : List Int) : List Int := L.foldl (insF f) []
theorem srtF_snoc (f : Int → Int) (L : List Int) (x : Int) : srtF f (L ++ [x]) = insF f (srtF f L) x := by simp [srtF]
def flP (zs : List Lf) (fl : ByteArray) (j : Nat) : Bool := eqS (zs.getD j lf0).fl fl
def flL (zs : List Lf) (fl : ByteArray) (k : Nat) : List Int := srtF (nuL zs) (plL (flP zs fl) k)
theorem flL_yes {zs : List Lf} {fl : ByteArray} {k : Nat} (h : flP zs fl k = true) : flL zs fl (k + 1) = insF (nuL zs) (flL zs fl k) k := by
  unfold flL; rw [plL_yes h, srtF_snoc]
theorem flL_no {zs : List Lf} {fl : ByteArray} {k : Nat} (h : flP zs fl k = false) : flL zs fl (k + 1) = flL zs fl k := by
  unfold flL; rw [plL_no h]
theorem flL_in (zs : List Lf) (fl : ByteArray) : ∀ k, ∀ y ∈ flL zs fl k, ∃ j : Nat, j < k ∧ y = (j : Int)
  | 0 => fun y hy => by simp [flL, plL, srtF] at hy
  | k + 1 => fun y hy => by
    cases h : flP zs fl k with
    | true =>
      rw [flL_yes h] at hy
      rcases insF_mem hy with e | hy
      · exact ⟨k, by omega, e⟩
      · obtain ⟨j, h1, h2⟩ := flL_in zs fl k y hy
        exact ⟨j, by omega, h2⟩
    | false =>
      rw [flL_no h] at hy
      obtain ⟨j, h1, h2⟩ := flL_in zs fl k y hy
      exact ⟨j, by omega, h2⟩
theorem flL_len (zs : List Lf) (fl : ByteArray) : ∀ k, (flL zs fl k).length ≤ k
  | 0 => by simp [flL, plL, srtF]
  | k + 1 => by
    have := flL_len zs fl k
    cases h : flP zs fl k with
    | true => rw [flL_yes h, insF_len]; omega
    | false => rw [flL_no h]; omega
def ftR (zs : List Lf) (fl : ByteArray) : List Int × Int := if lfsB zs then (if (flL zs fl zs.length).length = 0 then ([], 3) else (flL zs fl zs.length, 0)) else ([], 1)
theorem ftR_len (zs : List Lf) (fl : ByteArray) : (ftR zs fl).1.length ≤ 1000 := by
  unfold ftR
  cases h : lfsB zs with
  | false => simp
  | true =>
    have := (lfsB_ok h).1
    have := flL_len zs fl zs.length
    rw [if_pos rfl]
    split
    · simp
    · simp only; omega
/-- Integers lie in a block. -/
def InB (w : World) (b : Nat) (L : List Int) : Prop := b < w.heap.size ∧ ∀ j, j < L.length → w.cell? ⟨b, j, none⟩ = some (.int .i64 (L.getD j 0))
theorem InB.below {w w' : World} {b : Nat} {L : List Int} (h : InB w b L) (hb : Below w.heap.size w w') : InB w' b L := ⟨Nat.lt_of_lt_of_le h.1 hb.size, fun j hj => (hb.cell (p := ⟨b, j, none⟩) h.1).trans (h.2 j hj)⟩
theorem OwnI.inB {w : World} {base g n cap : Nat} {L : List Int} (h : OwnI w base (.slice (some ⟨g, 0, none⟩) n cap) L) : n = L.length ∧ n ≤ cap ∧ base ≤ g ∧ InB w g L := by
  obtain ⟨h1, ⟨h2, _⟩ | ⟨g', cap', cur, h2, h3, h4, h5, h6, h7, h8⟩⟩ := h
  · cases h2
  · cases h2
    refine ⟨rfl, h5, h3, (Array.getElem?_eq_some_iff.1 h4).1, fun j hj => ?_⟩
    have := congrArg (fun l => l[j]?) h8
    rw [Nat.mul_one] at this
    simp only [List.getElem?_take_of_lt hj, flatI, List.getElem?_map, List.getElem?_eq_getElem hj, Option.map_some] at this
    exact (cell_of_arr h4 (j := j) (by simpa [List.getD_eq_getElem?_getD, hj] using this)).1
theorem OwnI.some {w : World} {base : Nat} {v : Value} {L : List Int} (h : OwnI w base v L) (h0 : 0 < L.length) : ∃ g cap, v = .slice (some ⟨g, 0, none⟩) L.length cap := by
  obtain ⟨h1, ⟨h2, h3⟩ | ⟨g', cap', cur, h2, _⟩⟩ := h
  · omega
  · exact ⟨g', cap', h2⟩
theorem flatI_get (L : List Int) (j : Nat) (hj : j < L.length) : (flatI L)[j]? = some (.int .i64 (L.getD j 0)) := by simp [flatI, hj]
theorem add_off0 (b a j : Nat) : (Addr.add ⟨b, a, none⟩ j) = ⟨b, a + j, none⟩ := by
  unfold Addr.add
  split
  · subst_vars; rfl
  · rfl
set_option maxRecDepth 100000 in
set_option maxHeartbeats 2000000 in
theorem own_spec (b cap a : Nat) (L : List Int) (w : World) (ha : a ≤ L.length) (hl : L.length ≤ 1000) (hw : InB w b L) :
    Calls Tryd.prog 74 #[.slice (some ⟨b, 0, none⟩) a cap] w fun e w' => ∃ v, e = .returned v ∧ OwnI w' w.heap.size v (L.take a) ∧ Below w.heap.size w w' := by
  have HW := Lib.hid hw
  obtain ⟨i0, hi, hz0, hz1, hz2⟩ := info_parts infoI
  have hown := World.ownsRow_made w (e := 2) (base := w.heap.size) (size := 1) #[] 0 (Nat.le_refl _) (by unfold maxLen; omega) rfl
  have HB := Lib.hid (one_alloc (w := w) (.cells #[] 2))
  have hle := HB.out.size
  have hlen : ((flatI L).take a).length = a * 1 := by simp [flatI]; omega
  have HN := Lib.hid (HW.out.below HB.out)
  have hnews : ∀ j u, ((flatI L).take a)[j]? = some u → (w.alloc (.cells #[] 2)).cell? (Addr.add ⟨b, 0, none⟩ j) = some u := fun j u hj => by
    have hj2 : j < a := by
      have := (List.getElem?_eq_some_iff.1 hj).1
      omega
    rw [List.getElem?_take_of_lt hj2, flatI_get L j (by omega)] at hj
    cases hj
    rw [add_off0, Nat.zero_add]
    exact HN.out.2 j (by omega)
  have hone : ∀ u ∈ (flatI L).take a, u.oneCell' = true := fun u hu => by
    have := List.mem_of_mem_take hu
    simp only [flatI, List.mem_map] at this
    obtain ⟨y, _, rfl⟩ := this
    rfl
  have HH := Lib.hid (And.intro hnews hone)
  clear hw hnews hone
  go_enter Tryd.func74, Tryd.ntmps74
  go_wp2_with (at_builtin; refine wpList_append_own _ rfl _ _ 55 rfl w.heap.size 2 i0 (.int .i64 0) 1 8 Tryd.underlying55 hi hz0 hz1 hz2 rfl (by omega) _ 0 [] rfl hown ⟨b, 0, none⟩ a cap ((flatI L).take a) rfl hlen HH.out.1 HH.out.2 (by unfold maxLen; omega) (by omega) hle ?_)
  intro v' w4 hown' hgrow _
  have HO := Lib.hid (show OwnI w4 w.heap.size v' (L.take a) by
    unfold OwnI
    have e : (L.take a).length = a := by simp; omega
    rw [e]
    simpa [flatI, List.map_take] using hown')
  have HB' := Lib.hid (HB.out.grown hgrow hle (fun k hk => (by cases hk; exact Nat.le_refl _)))
  clear hown' hgrow hown
  go_wp2
  go_ret
  exact ⟨v', rfl, HO.out, HB'.out⟩
theorem take_in {L : List Int} {n : Nat} (h : ∀ y ∈ L, ∃ j : Nat, j < n ∧ y = (j : Int)) (a : Nat) (ha : a < L.length) : ∃ j : Nat, j < n ∧ L.getD a 0 = (j : Int) := by
  rw [List.getD_eq_getElem?_getD, List.getElem?_eq_getElem ha]
  exact h _ (List.getElem_mem ha)
theorem posN_no {f : Int → Int} {x : Int} {L : List Int} {a : Nat} (h : ¬ f x < f (L.getD a 0)) : posN f x L (a + 1) = a + 1 := by unfold posN; rw [if_neg h]
theorem posN_yes {f : Int → Int} {x : Int} {L : List Int} {a : Nat} (h : f x < f (L.getD a 0)) : posN f x L (a + 1) = posN f x L a := by rw [posN, if_pos h]
/-- The rest of a round of l09Flitch: a new slice with the element at its place. -/
theorem OwnI.put {w : World} {base m : Nat} {v : Value} {L : List Int} {x : Int} {a : Nat} {f : Int → Int} (ha : posN f x L L.length = a) (hm : m = L.length + 1)
    (ho : w.ownsRow base 2 1 v m (flatI (L.take a ++ [x]) ++ (flatI L).drop a)) : OwnI w base v (insF f L x) := by
  have e : insF f L x = (L.take a ++ [x]) ++ L.drop a := by unfold insF; rw [ha]; simp
  unfold OwnI
  rw [insF_len, ← hm, e]
  simpa [flatI, List.map_drop] using ho
set_option maxRecDepth 100000 in
set_option maxHeartbeats 16000000 in
theorem flt_spec (ao : Option Addr) (n c : Nat) (zs : List Lf) (fl : ByteArray) (w : World) (hn : n ≤ 16) (hv : LfsV w ao n zs) :
    Calls Tryd.prog 105 #[.slice ao n c, .string fl] w fun e w' => ∃ v, e = .returned v ∧ OwnI w' w.heap.size v (flL zs fl n) ∧ (∃ g cap, v = .slice (some ⟨g, 0, none⟩) (flL zs fl n).length cap) ∧ Below w.heap.size w w' := by
  have HV := Lib.hid hv
  have HLN := Lib.hid (flL_len zs fl)
  have HIN := Lib.hid (flL_in zs fl)
  clear hv
  obtain ⟨i0, hi, hz0, hz1, hz2⟩ := info_parts infoI
  obtain ⟨f, hf⟩ : ∃ f, nuL zs = f := ⟨_, rfl⟩
  have HF := Lib.hid hf
  clear hf
  go_enter Tryd.func105, Tryd.ntmps105
  go_wp2
  go_loopw [6, 5, 7, 8] (fun iv v u7 u8 wr => ∃ k g len cap : Nat, k ≤ n ∧ iv = .int .i64 k ∧ v = .slice (some ⟨g, 0, none⟩) len cap ∧ Hid (OwnI wr w.heap.size (.slice (some ⟨g, 0, none⟩) len cap) (flL zs fl k)) ∧ Hid (Below w.heap.size w wr)) (fun i _ _ _ _ => n - (intOf i).toNat)
  case atStart => exact ⟨0, w.heap.size, 0, 0, by omega, rfl, rfl, Lib.hid (World.ownsRow_made _ _ _ (Nat.le_refl _) (by unfold maxLen; omega) rfl), Lib.hid ((Below.refl _ _).alloc (Nat.le_refl _) _)⟩
  case round =>
    obtain ⟨k, g, len, cap, hk, rfl, rfl, ho, hb⟩ := hrel
    obtain ⟨wo, hwo⟩ : ∃ x, x = wr := ⟨wr, rfl⟩
    subst hwo
    by_cases hlt : k < n
    · obtain ⟨b, rfl, hcs⟩ := (HV.out.below hb.out).2.resolve_left (by omega)
      have HCS := Lib.hid hcs
      obtain ⟨v', hva, ha⟩ := hcs k hlt
      obtain ⟨ao6, n6, c6, rfl, _, _, _, _, _, _, _, _, _⟩ := hva.out
      have c1 : wo.cell? ⟨b, k * 9 + 1, none⟩ = some (.string (zs.getD k lf0).fl) := ha.at 1 rfl
      have c2 : wo.cell? ⟨b, k * 9 + 2, none⟩ = some (.int .i64 (zs.getD k lf0).nu) := ha.at 2 rfl
      have hbw := ha.1
      have HP := Lib.hid (show flP zs fl k = ((zs.getD k lf0).fl.toList == fl.toList) from rfl)
      have HFK := Lib.hid (show f (k : Int) = (zs.getD k lf0).nu by rw [← HF.out]; simp [nuL])
      obtain ⟨s, hs⟩ : ∃ q, (zs.getD k lf0).fl = q := ⟨_, rfl⟩
      obtain ⟨nk, hnk⟩ : ∃ q, (zs.getD k lf0).nu = q := ⟨_, rfl⟩
      rw [hs] at c1 HP
      rw [hnk] at c2 HFK
      clear hcs hva ha hs hnk
      cases hp : flP zs fl k with
      | false =>
        have hq : (s.toList == fl.toList) = false := by rw [← HP.out]; exact hp
        have hq2 : (s.toList != fl.toList) = true := by simp only [bne, hq]; rfl
        have HO' := Lib.hid (show OwnI wo w.heap.size (.slice (some ⟨g, 0, none⟩) len cap) (flL zs fl (k + 1)) by rw [flL_no hp]; exact ho.out)
        clear hp
        go_wp2
        go_roundw
        case rel => exact ⟨k + 1, g, len, cap, by omega, by go_num, rfl, HO', hb⟩
        case measure => simp [intOf]; omega
      | true =>
        have hq : (s.toList == fl.toList) = true := by rw [← HP.out]; exact hp
        have hq2 : (s.toList != fl.toList) = false := by simp only [bne, hq]; rfl
        have HY := Lib.hid (flL_yes hp)
        rw [HF.out] at HY
        obtain ⟨hlen, hcap, hbg, hin⟩ := ho.out.inB
        have HLL := Lib.hid (HLN.out k)
        have HII := Lib.hid (HIN.out k)
        obtain ⟨L, hL⟩ : ∃ L, flL zs fl k = L := ⟨_, rfl⟩
        rw [hL] at HY hin hlen HLL HII
        have HIN1 := Lib.hid hin
        have HLE := Lib.hid hlen
        have hl16 : len ≤ 16 := by have := HLL.out; omega
        have hgw := hin.1
        clear hp hin hlen hL
        go_wp2
        clear hq hq2
        go_loopw [7] (fun av wi => ∃ a : Nat, a ≤ len ∧ av = .int .i64 a ∧ Hid (posN f k L a = posN f k L len) ∧ Hid (Below wo.heap.size wo wi)) (fun v _ => (intOf v).toNat)
        case atStart => exact ⟨len, by omega, rfl, Lib.hid rfl, Lib.hid (Below.refl _ _)⟩
        case round =>
          obtain ⟨a, ha, rfl, hpos, hbi⟩ := hrel
          have d2 : wr.cell? ⟨b, k * 9 + 2, none⟩ = some (.int .i64 nk) := (hbi.out.cell (p := ⟨b, _, none⟩) hbw).trans c2
          have hbw2 := Nat.lt_of_lt_of_le hbw hbi.out.size
          have hgw2 := Nat.lt_of_lt_of_le hgw hbi.out.size
          have HI2 := Lib.hid (HIN1.out.below hbi.out)
          have HB2 := Lib.hid (hb.out.trans (hbi.out.mono hb.out.size))
          by_cases h0 : a = 0
          · have HPZ := Lib.hid (show posN f k L L.length = a by rw [← HLE.out, ← hpos.out, h0]; rfl)
            have hd0 : ¬ 0 < a := by omega
            have hd1 : decide (0 < a) = false := by simpa using hd0
            have hd2 : ¬ ((0 : Int) < (a : Int)) := by omega
            clear h0
            go_wp2
            refine wp_region_below (by kernel_rfl) (by kernel_rfl) ?_
            repeat (first | (refine wq_val ?_ ?_; (focus (go_simp; done)); apply Exists.intro; refine ⟨fun w1 hw1 => ?_, ?_⟩; (obtain ⟨hc, hf⟩ := bcell hw1; clear hw1; go_simp; (first | done | with_reducible rfl | (with_reducible exact eql2 _ _ _) | (with_reducible exact neq2 _ _ _))); (try simp only [Act.put, List.setIfInBounds_toArray, List.set_cons_zero, List.set_cons_succ])) | (refine wq_skip ?_ ?_; (focus (go_simp; (first | done | (simp [undef]; done)))); (try simp only [Act.put, List.setIfInBounds_toArray, List.set_cons_zero, List.set_cons_succ])))
            refine wq_nil ?_
            intro wq hbq
            have HBQ := Lib.hid (HB2.out.trans (hbq.mono HB2.out.size))
            have HIQ := Lib.hid (HI2.out.below hbq)
            clear hbq
            go_wp2_with fail
            refine (own_spec g cap a L _ (by have := HLE.out; omega) (by have := HLL.out; omega) HIQ.out).mono ?_
            rintro e w2 ⟨v2, rfl, ho2, g2⟩
            have hsz2 := g2.size
            have hgq := HIQ.out.1
            have hown := ho2
            unfold OwnI at hown
            have HLT := Lib.hid (show (L.take a).length ≤ 16 by simp; omega)
            have hlt16 := HLT.out
            have HG2 := Lib.hid g2
            have haL : a ≤ L.length := by have := HLE.out; omega
            clear g2 ho2
            go_wp2_with (at_builtin; refine wpList_app1 rfl _ _ 55 rfl wq.heap.size 2 i0 (.int .i64 0) 8 Tryd.underlying55 hi hz0 hz1 hz2 rfl _ _ _ rfl hown _ rfl (by first | rfl | simp) rfl (by omega) (by omega) hsz2 ?_)
            intro v3 w3 ho3 hg3
            have HO3 := Lib.hid (show OwnI w3 wq.heap.size v3 (L.take a ++ [(k : Int)]) from OwnI.app (by rw [List.length_take]; omega) ho3)
            have HQ3 := Lib.hid (below_app HG2.out (Nat.le_refl _) hsz2 hown hg3)
            have HB4 := Lib.hid (HBQ.out.trans (HQ3.out.mono HBQ.out.size))
            have HIQ3 := Lib.hid (HIQ.out.below HQ3.out)
            have hl3 : ((flatI L).drop a).length = (len - a) * 1 := by have := HLE.out; simp [flatI]; omega
            have hnews : ∀ j u, ((flatI L).drop a)[j]? = some u → w3.cell? (Addr.add ⟨g, a, none⟩ j) = some u := fun j u hj => by
              have hj2 : j < (flatI L).length - a := by
                have := (List.getElem?_eq_some_iff.1 hj).1
                simpa using this
              have hj3 : a + j < L.length := by simp [flatI] at hj2; omega
              rw [List.getElem?_drop, flatI_get L (a + j) hj3] at hj
              cases hj
              rw [add_off0]
              exact HIQ3.out.2 (a + j) hj3
            have hone : ∀ u ∈ (flatI L).drop a, u.oneCell' = true := fun u hu => by
              have := List.mem_of_mem_drop hu
              simp only [flatI, List.mem_map] at this
              obtain ⟨y, _, rfl⟩ := this
              rfl
            have HH := Lib.hid (And.intro hl3 (And.intro hnews hone))
            have hsz3 := HQ3.out.size
            have hgq3 := HIQ3.out.1
            have HL17 := Lib.hid (show (L.take a ++ [(k : Int)]).length ≤ 17 by simp; omega)
            have hl17 := HL17.out
            clear ho3 hg3 hown hnews hone hl3 hsz2 hgq
            by_cases hca : cap = a
            · subst hca
              have HN0 := Lib.hid (show ∀ j u, ((flatI L).drop cap)[j]? = some u → w3.cell? (Addr.add ⟨g, 0, none⟩ j) = some u from fun j u hj => by
                have := (List.getElem?_eq_some_iff.1 hj).1
                have h2 := HH.out.1
                omega)
              go_wp2_with (at_builtin; refine wpList_append_own _ rfl _ _ 55 rfl wq.heap.size 2 i0 (.int .i64 0) 1 8 Tryd.underlying55 hi hz0 hz1 hz2 rfl (by omega) v3 _ _ rfl HO3.out ⟨g, 0, none⟩ 0 0 ((flatI L).drop cap) (by first | rfl | (simp; done)) (by have := HH.out.1; omega) HN0.out HH.out.2.2 (by unfold maxLen; omega) (by omega) hsz3 ?_)
              intro v4 w4 ho4 hg4 _
              have HO4 := Lib.hid (show OwnI w4 wq.heap.size v4 (flL zs fl (k + 1)) by rw [HY.out]; exact OwnI.put HPZ.out (by have := HLE.out; have := haL; first | omega | (simp; omega)) ho4)
              have HB5 := Lib.hid (HB4.out.grown hg4 HB4.out.size (fun k hk => Nat.le_trans HBQ.out.size (World.ownsRow.lt HO3.out k hk).1))
              obtain ⟨g', cap', hv4⟩ := HO4.out.some (by rw [HY.out, insF_len]; omega)
              subst hv4
              have HO5 := Lib.hid (show OwnI w4 w.heap.size _ (flL zs fl (k + 1)) from own_lower HO4.out HBQ.out.size)
              clear ho4 hg4 haL hsz3 hgq3 HO4
              obtain ⟨len', hlen'⟩ : ∃ l, (flL zs fl (k + 1)).length = l := ⟨_, rfl⟩
              rw [hlen'] at HO5 ⊢
              clear hlen'
              go_wp2
              go_roundw
              case rel => exact ⟨k + 1, g', len', cap', by omega, by go_num, rfl, HO5, HB5⟩
              case measure => simp [intOf]; omega
            · have hca2 : ¬ a = cap := fun e => hca e.symm
              have hca3 : a < cap := by omega
              have hca4 : ¬ cap - a = 0 := by omega
              have hca5 : ¬ cap ≤ a := by omega
              go_wp2_with (at_builtin; refine wpList_append_own _ rfl _ _ 55 rfl wq.heap.size 2 i0 (.int .i64 0) 1 8 Tryd.underlying55 hi hz0 hz1 hz2 rfl (by omega) v3 _ _ rfl HO3.out ⟨g, a, none⟩ (len - a) (cap - a) ((flatI L).drop a) (by first | rfl | (simp; done)) HH.out.1 HH.out.2.1 HH.out.2.2 (by unfold maxLen; omega) (by omega) hsz3 ?_)
              intro v4 w4 ho4 hg4 _
              have HO4 := Lib.hid (show OwnI w4 wq.heap.size v4 (flL zs fl (k + 1)) by rw [HY.out]; exact OwnI.put HPZ.out (by have := HLE.out; have := haL; first | omega | (simp; omega)) ho4)
              have HB5 := Lib.hid (HB4.out.grown hg4 HB4.out.size (fun k hk => Nat.le_trans HBQ.out.size (World.ownsRow.lt HO3.out k hk).1))
              obtain ⟨g', cap', hv4⟩ := HO4.out.some (by rw [HY.out, insF_len]; omega)
              subst hv4
              have HO5 := Lib.hid (show OwnI w4 w.heap.size _ (flL zs fl (k + 1)) from own_lower HO4.out HBQ.out.size)
              clear ho4 hg4 haL hsz3 hgq3 HO4
              obtain ⟨len', hlen'⟩ : ∃ l, (flL zs fl (k + 1)).length = l := ⟨_, rfl⟩
              rw [hlen'] at HO5 ⊢
              clear hlen'
              go_wp2
              go_roundw
              case rel => exact ⟨k + 1, g', len', cap', by omega, by go_num, rfl, HO5, HB5⟩
              case measure => simp [intOf]; omega
          · have ha1 : a - 1 < len := by omega
            obtain ⟨j, hjn, hja⟩ := take_in HII.out (a - 1) (by have := HLE.out; omega)
            have hjn2 : j < n := by omega
            have d0 : wr.cell? ⟨g, a - 1, none⟩ = some (.int .i64 (j : Int)) := by have := HI2.out.2 (a - 1) (by have := HLE.out; omega); rw [hja] at this; exact this
            obtain ⟨vj, hvj, haj⟩ := HCS.out j hjn2
            obtain ⟨ao7, n7, c7, rfl, _, _, _, _, _, _, _, _, _⟩ := hvj.out
            have e2 : wr.cell? ⟨b, j * 9 + 2, none⟩ = some (.int .i64 (zs.getD j lf0).nu) := (hbi.out.cell (p := ⟨b, _, none⟩) hbw).trans (haj.at 2 rfl)
            have HFJ := Lib.hid (show f (L.getD (a - 1) 0) = (zs.getD j lf0).nu by rw [hja, ← HF.out]; simp [nuL])
            obtain ⟨nj, hnj⟩ : ∃ q, (zs.getD j lf0).nu = q := ⟨_, rfl⟩
            rw [hnj] at e2 HFJ
            have q1 : IntKind.i64.wrap ((a : Int) - 1) = ((a - 1 : Nat) : Int) := by rw [IntWalk.i64_in _ (by omega)]; omega
            have hd0 : 0 < a := by omega
            have hd1 : decide (0 < a) = true := by simpa using hd0
            have hd2 : (0 : Int) < (a : Int) := by omega
            have HEA := Lib.hid (show a = a - 1 + 1 by omega)
            clear hvj haj hnj hja h0
            by_cases hlt2 : nk < nj
            · have HPP := Lib.hid (show posN f k L (a - 1) = posN f k L len by
                rw [← hpos.out]
                conv => rhs; rw [HEA.out]
                exact (posN_yes (by rw [HFK.out, HFJ.out]; exact hlt2)).symm)
              have hd3 : decide (nk < nj) = true := by simpa using hlt2
              go_wp2
              refine wp_region_below (by kernel_rfl) (by kernel_rfl) ?_
              repeat (first | (refine wq_val ?_ ?_; (focus (go_simp; done)); apply Exists.intro; refine ⟨fun w1 hw1 => ?_, ?_⟩; (obtain ⟨hc, hf⟩ := bcell hw1; clear hw1; go_simp; (first | done | with_reducible rfl | (with_reducible exact eql2 _ _ _) | (with_reducible exact neq2 _ _ _))); (try simp only [Act.put, List.setIfInBounds_toArray, List.set_cons_zero, List.set_cons_succ])) | (refine wq_skip ?_ ?_; (focus (go_simp; (first | done | (simp [undef]; done)))); (try simp only [Act.put, List.setIfInBounds_toArray, List.set_cons_zero, List.set_cons_succ])))
              refine wq_nil ?_
              intro wq hbq
              have HBQ := Lib.hid (bseq hbi.out hbq)
              clear hbq
              go_wp2
              go_roundw
              case rel => exact ⟨a - 1, by omega, by go_num, HPP, HBQ⟩
              case measure => simp [intOf]; omega
            · have HPZ := Lib.hid (show posN f k L L.length = a by
                rw [← HLE.out, ← hpos.out, HEA.out]
                exact posN_no (by rw [HFK.out, HFJ.out]; exact hlt2))
              have hd3 : decide (nk < nj) = false := by simpa using hlt2
              go_wp2
              refine wp_region_below (by kernel_rfl) (by kernel_rfl) ?_
              repeat (first | (refine wq_val ?_ ?_; (focus (go_simp; done)); apply Exists.intro; refine ⟨fun w1 hw1 => ?_, ?_⟩; (obtain ⟨hc, hf⟩ := bcell hw1; clear hw1; go_simp; (first | done | with_reducible rfl | (with_reducible exact eql2 _ _ _) | (with_reducible exact neq2 _ _ _))); (try simp only [Act.put, List.setIfInBounds_toArray, List.set_cons_zero, List.set_cons_succ])) | (refine wq_skip ?_ ?_; (focus (go_simp; (first | done | (simp [undef]; done)))); (try simp only [Act.put, List.setIfInBounds_toArray, List.set_cons_zero, List.set_cons_succ])))
              refine wq_nil ?_
              intro wq hbq
              have HBQ := Lib.hid (HB2.out.trans (hbq.mono HB2.out.size))
              have HIQ := Lib.hid (HI2.out.below hbq)
              clear hbq
              go_wp2_with fail
              refine (own_spec g cap a L _ (by have := HLE.out; omega) (by have := HLL.out; omega) HIQ.out).mono ?_
              rintro e w2 ⟨v2, rfl, ho2, g2⟩
              have hsz2 := g2.size
              have hgq := HIQ.out.1
              have hown := ho2
              unfold OwnI at hown
              have HLT := Lib.hid (show (L.take a).length ≤ 16 by simp; omega)
              have hlt16 := HLT.out
              have HG2 := Lib.hid g2
              have haL : a ≤ L.length := by have := HLE.out; omega
              clear g2 ho2
              go_wp2_with (at_builtin; refine wpList_app1 rfl _ _ 55 rfl wq.heap.size 2 i0 (.int .i64 0) 8 Tryd.underlying55 hi hz0 hz1 hz2 rfl _ _ _ rfl hown _ rfl (by first | rfl | simp) rfl (by omega) (by omega) hsz2 ?_)
              intro v3 w3 ho3 hg3
              have HO3 := Lib.hid (show OwnI w3 wq.heap.size v3 (L.take a ++ [(k : Int)]) from OwnI.app (by rw [List.length_take]; omega) ho3)
              have HQ3 := Lib.hid (below_app HG2.out (Nat.le_refl _) hsz2 hown hg3)
              have HB4 := Lib.hid (HBQ.out.trans (HQ3.out.mono HBQ.out.size))
              have HIQ3 := Lib.hid (HIQ.out.below HQ3.out)
              have hl3 : ((flatI L).drop a).length = (len - a) * 1 := by have := HLE.out; simp [flatI]; omega
              have hnews : ∀ j u, ((flatI L).drop a)[j]? = some u → w3.cell? (Addr.add ⟨g, a, none⟩ j) = some u := fun j u hj => by
                have hj2 : j < (flatI L).length - a := by
                  have := (List.getElem?_eq_some_iff.1 hj).1
                  simpa using this
                have hj3 : a + j < L.length := by simp [flatI] at hj2; omega
                rw [List.getElem?_drop, flatI_get L (a + j) hj3] at hj
                cases hj
                rw [add_off0]
                exact HIQ3.out.2 (a + j) hj3
              have hone : ∀ u ∈ (flatI L).drop a, u.oneCell' = true := fun u hu => by
                have := List.mem_of_mem_drop hu
                simp only [flatI, List.mem_map] at this
                obtain ⟨y, _, rfl⟩ := this
                rfl
              have HH := Lib.hid (And.intro hl3 (And.intro hnews hone))
              have hsz3 := HQ3.out.size
              have hgq3 := HIQ3.out.1
              have HL17 := Lib.hid (show (L.take a ++ [(k : Int)]).length ≤ 17 by simp; omega)
              have hl17 := HL17.out
              clear ho3 hg3 hown hnews hone hl3 hsz2 hgq
              by_cases hca : cap = a
              · subst hca
                have HN0 := Lib.hid (show ∀ j u, ((flatI L).drop cap)[j]? = some u → w3.cell? (Addr.add ⟨g, 0, none⟩ j) = some u from fun j u hj => by
                  have := (List.getElem?_eq_some_iff.1 hj).1
                  have h2 := HH.out.1
                  omega)
                go_wp2_with (at_builtin; refine wpList_append_own _ rfl _ _ 55 rfl wq.heap.size 2 i0 (.int .i64 0) 1 8 Tryd.underlying55 hi hz0 hz1 hz2 rfl (by omega) v3 _ _ rfl HO3.out ⟨g, 0, none⟩ 0 0 ((flatI L).drop cap) (by first | rfl | (simp; done)) (by have := HH.out.1; omega) HN0.out HH.out.2.2 (by unfold maxLen; omega) (by omega) hsz3 ?_)
                intro v4 w4 ho4 hg4 _
                have HO4 := Lib.hid (show OwnI w4 wq.heap.size v4 (flL zs fl (k + 1)) by rw [HY.out]; exact OwnI.put HPZ.out (by have := HLE.out; have := haL; first | omega | (simp; omega)) ho4)
                have HB5 := Lib.hid (HB4.out.grown hg4 HB4.out.size (fun k hk => Nat.le_trans HBQ.out.size (World.ownsRow.lt HO3.out k hk).1))
                obtain ⟨g', cap', hv4⟩ := HO4.out.some (by rw [HY.out, insF_len]; omega)
                subst hv4
                have HO5 := Lib.hid (show OwnI w4 w.heap.size _ (flL zs fl (k + 1)) from own_lower HO4.out HBQ.out.size)
                clear ho4 hg4 haL hsz3 hgq3 HO4
                obtain ⟨len', hlen'⟩ : ∃ l, (flL zs fl (k + 1)).length = l := ⟨_, rfl⟩
                rw [hlen'] at HO5 ⊢
                clear hlen'
                go_wp2
                go_roundw
                case rel => exact ⟨k + 1, g', len', cap', by omega, by go_num, rfl, HO5, HB5⟩
                case measure => simp [intOf]; omega
              · have hca2 : ¬ a = cap := fun e => hca e.symm
                have hca3 : a < cap := by omega
                have hca4 : ¬ cap - a = 0 := by omega
                have hca5 : ¬ cap ≤ a := by omega
                go_wp2_with (at_builtin; refine wpList_append_own _ rfl _ _ 55 rfl wq.heap.size 2 i0 (.int .i64 0) 1 8 Tryd.underlying55 hi hz0 hz1 hz2 rfl (by omega) v3 _ _ rfl HO3.out ⟨g, a, none⟩ (len - a) (cap - a) ((flatI L).drop a) (by first | rfl | (simp; done)) HH.out.1 HH.out.2.1 HH.out.2.2 (by unfold maxLen; omega) (by omega) hsz3 ?_)
                intro v4 w4 ho4 hg4 _
                have HO4 := Lib.hid (show OwnI w4 wq.heap.size v4 (flL zs fl (k + 1)) by rw [HY.out]; exact OwnI.put HPZ.out (by have := HLE.out; have := haL; first | omega | (simp; omega)) ho4)
                have HB5 := Lib.hid (HB4.out.grown hg4 HB4.out.size (fun k hk => Nat.le_trans HBQ.out.size (World.ownsRow.lt HO3.out k hk).1))
                obtain ⟨g', cap', hv4⟩ := HO4.out.some (by rw [HY.out, insF_len]; omega)
                subst hv4
                have HO5 := Lib.hid (show OwnI w4 w.heap.size _ (flL zs fl (k + 1)) from own_lower HO4.out HBQ.out.size)
                clear ho4 hg4 haL hsz3 hgq3 HO4
                obtain ⟨len', hlen'⟩ : ∃ l, (flL zs fl (k + 1)).length = l := ⟨_, rfl⟩
                rw [hlen'] at HO5 ⊢
                clear hlen'
                go_wp2
                go_roundw
                case rel => exact ⟨k + 1, g', len', cap', by omega, by go_num, rfl, HO5, HB5⟩
                case measure => simp [intOf]; omega
    · obtain rfl : k = n := by omega
      obtain ⟨hlen, _, _, _⟩ := ho.out.inB
      have HE := Lib.hid hlen
      clear hlen
      go_wp2
      go_ret
      exact ⟨_, rfl, ho.out, ⟨g, cap, by rw [HE.out]; rfl⟩, hb.out⟩
end Go.Proofs.YtcjpplijbdfgbaaDoor
