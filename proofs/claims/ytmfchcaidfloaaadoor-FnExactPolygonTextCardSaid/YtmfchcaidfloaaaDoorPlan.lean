/- A region that draws its order, whose operations read, call functions that only make memory, make blocks of their own and store into these: one walk of the order of the text serves every order. -/
import Derived.Test.YtmfchcaidfloaaaDoorK1
import Derived.Deep.Quiet
import Derived.StillTail
import Derived.OrdersIn
import Derived.OwnWalkIn
import Derived.TacticsIn
namespace Go.Proofs.YtmfchcaidfloaaaDoor
open Go.ChangeShapes Go.WideShapes Go.ChangeAt Go.RowKit

/-- A block that the region itself has made: which operation made it, its number, what it holds. -/
structure Made where
  key : Nat
  blk : Nat
  obj : Obj
/-- What an operation of the region does: it yields a value (and needs the named blocks); it makes a block; it stores into the block of operation k. -/
inductive Spec where
  | val (i : Nat) (us : List Nat) (v : Value)
  | make (i : Nat) (obj : Obj) (val : Nat → Value)
  | put (i : Nat) (k : Nat) (obj : Obj)
def Spec.idx : Spec → Nat
  | .val i _ _ => i
  | .make i _ _ => i
  | .put i _ _ => i

section
variable {P : Program} {ops : Array Oper} {md : Region.Mode} {w0 : World} {E : Array Bool → Act → World → Prop} {tl : List Nat}

/-- Which two operations may change places as far as the region's own blocks go: a later store waits for an earlier one; a block that is stored into is needed by nobody else. -/
def mayPass (md : Region.Mode) (ops : Array Oper) : Spec → Spec → Bool
  | .val i us _, .put j k _ => !us.contains k || Region.waitsFor md ops j i
  | .put i k _, .val j us _ => !us.contains k || Region.waitsFor md ops j i
  | .put i _ _, .put j _ _ => Region.waitsFor md ops j i
  | _, _ => true
def Cl (w0 : World) (env : Made → Prop) (w : World) : Prop := Below w0.heap.size w0 w ∧ ∀ x, env x → w0.heap.size ≤ x.blk ∧ x.blk < w.heap.size ∧ w.heap[x.blk]? = some x.obj
def ins (m : Made) (env : Made → Prop) : Made → Prop := fun x => x = m ∨ env x
def only (us : List Nat) (env : Made → Prop) : Made → Prop := fun x => env x ∧ us.contains x.key = true
def upd (k : Nat) (obj : Obj) (env : Made → Prop) : Made → Prop := fun x => (env x ∧ x.key ≠ k) ∨ ∃ y, env y ∧ y.key = k ∧ x = ⟨k, y.blk, obj⟩
def Fresh (w0 : World) (env : Made → Prop) (p : Nat) : Prop := w0.heap.size ≤ p ∧ ∀ x, env x → x.blk ≠ p
def sureUpon (P : Program) (w : World) (v : Value) : Result Next → Prop
  | .ok (.value u) w' => w' = w ∧ u = v
  | .ok .skip w' => w' = w ∧ v = undef
  | .ok (.enter f args) w' => w' = w ∧ Calls P f args w (fun e w2 => e = .returned v ∧ Below w.heap.size w w2)
  | _ => False
def Sure (P : Program) (ops : Array Oper) (w0 : World) (o : Oper) (v : Value) (env : Made → Prop) (a : Act) : Prop :=
  (Region.wanted o (yielded ops a.tmps) = true ∧ ∀ w, Cl w0 env w → sureUpon P w v ((execOp a.eval o).run P w)) ∨ (Region.wanted o (yielded ops a.tmps) = false ∧ v = undef)
structure Stored (b : Nat) (obj : Obj) (w w' : World) : Prop where
  os : w'.os = w.os
  tape : w'.tape = w.tape
  output : w'.output = w.output
  size : w'.heap.size = w.heap.size
  here : w'.heap[b]? = some obj
  there : ∀ k, k ≠ b → w'.heap[k]? = w.heap[k]?
/-- The block k is there when operation i comes up: i waits for its maker, or it was there before the region. -/
def has (md : Region.Mode) (ops : Array Oper) (i k : Nat) : Bool := Region.waitsFor md ops i k || decide (ops.size ≤ k)
structure MadeAt (w w2 : World) (p : Nat) (obj : Obj) : Prop where
  low : w.heap.size ≤ p
  high : p < w2.heap.size
  here : w2.heap[p]? = some obj
  below : Below w.heap.size w w2
theorem madeAt_alloc (w : World) (obj : Obj) : MadeAt w (w.alloc obj) w.heap.size obj :=
  ⟨Nat.le_refl _, by show w.heap.size < (w.heap.push obj).size; simp, by show (w.heap.push obj)[w.heap.size]? = some obj; simp, (Below.refl _ _).alloc (Nat.le_refl _) _⟩
theorem madeAt_after {w w1 w2 : World} {p : Nat} {obj : Obj} (hb : Below w.heap.size w w1) (h : MadeAt w1 w2 p obj) : MadeAt w w2 p obj :=
  ⟨Nat.le_trans hb.size h.low, h.high, h.here, bseq hb h.below⟩
/-- An operation, or a call, that makes a block and yields a value that leads to it. -/
def makeUpon (P : Program) (w : World) (obj : Obj) (val : Nat → Value) : Result Next → Prop
  | .ok (.value u) w' => ∃ p, u = val p ∧ MadeAt w w' p obj
  | .ok (.enter f args) w' => w' = w ∧ Calls P f args w (fun e w2 => ∃ p, e = .returned (val p) ∧ MadeAt w w2 p obj)
  | _ => False
def Step (P : Program) (ops : Array Oper) (md : Region.Mode) (w0 : World) (s : Spec) (env : Made → Prop) (listed : Array Bool) (a : Act) (K : (Made → Prop) → Array Bool → Act → Prop) : Prop :=
  ∃ o, ops[s.idx]? = some o ∧ match s with
    | .val i us v => us.all (has md ops i) = true ∧ Sure P ops w0 o v (only us env) a ∧ K env (listed.setIfInBounds i true) (a.put o.dst v)
    | .make i obj val => Region.wanted o (yielded ops a.tmps) = true ∧ (∀ w, Below w0.heap.size w0 w → makeUpon P w obj val ((execOp a.eval o).run P w)) ∧
        ∀ p, Fresh w0 env p → K (ins ⟨i, p, obj⟩ env) (listed.setIfInBounds i true) (a.put o.dst (val p))
    | .put i k obj => has md ops i k = true ∧ Region.wanted o (yielded ops a.tmps) = true ∧
        (∃ x, env x ∧ x.key = k ∧ ∀ w, Cl w0 (fun y => y = x) w → ∃ w', (execOp a.eval o).run P w = .ok .skip w' ∧ Stored x.blk obj w w') ∧ K (upd k obj env) (listed.setIfInBounds i true) (a.put o.dst undef)
def FreeP (ops : Array Oper) (md : Region.Mode) (listed : Array Bool) (i : Nat) : Prop :=
  ∀ oi, ops[i]? = some oi → ∀ j oj, ops[j]? = some oj → j ≠ i → listed.getD j true = false → (∀ e ∈ oj.after, Region.binds md e = true → e.on ≠ i) → oi.apart ops oj = true
/-- Operation t can't come up before i has been taken. -/
def deepWaits (md : Region.Mode) (ops : Array Oper) : Nat → Nat → Nat → Bool
  | 0, _, _ => false
  | n + 1, t, i => Region.waitsFor md ops t i || (match ops[t]? with | some o => o.after.any fun e => Region.binds md e && deepWaits md ops n e.on i | none => false)
/-- What has been taken has all that it waits for behind it. -/
def Closed (md : Region.Mode) (ops : Array Oper) (listed : Array Bool) : Prop := ∀ i o, listed.getD i false = true → ops[i]? = some o → ∀ e ∈ o.after, Region.binds md e = true → listed.getD e.on false = true
theorem Closed.none (md : Region.Mode) (ops : Array Oper) (n : Nat) : Closed md ops (Array.replicate n false) := fun i o h => by
  exfalso
  rcases Nat.lt_or_ge i n with hi | hi
  · simp [hi] at h
  · simp [Array.getElem?_eq_none (show (Array.replicate n false).size ≤ i by simpa using hi)] at h
theorem Closed.set {md : Region.Mode} {ops : Array Oper} {listed : Array Bool} {j : Nat} (h : Closed md ops listed) (hj : j ∈ Region.ready md ops listed) : Closed md ops (listed.setIfInBounds j true) := by
  intro i o hi ho e he hb
  obtain ⟨hun, o', ho', hall⟩ := mem_ready.1 hj
  by_cases hij : j = i
  · subst hij
    rw [ho] at ho'
    obtain rfl := Option.some.inj ho'
    exact getD_set_true (hall e he hb)
  · rw [getD_set_ne false hij] at hi
    exact getD_set_true (h i o hi ho e he hb)
theorem deep_not {md : Region.Mode} {ops : Array Oper} {listed : Array Bool} (hc : Closed md ops listed) {i : Nat} (hi : listed.getD i false = false) : ∀ n t, deepWaits md ops n t i = true → listed.getD t false = false ∧ t ∉ Region.ready md ops listed := by
  intro n
  induction n with
  | zero => intro t h; cases h
  | succ n ih =>
    intro t h
    have key : ∀ ot, ops[t]? = some ot → ∀ e ∈ ot.after, Region.binds md e = true → listed.getD e.on false = false → listed.getD t false = false ∧ t ∉ Region.ready md ops listed := fun ot hot e he hb hno => by
      refine ⟨?_, fun hr => ?_⟩
      · cases hl : listed.getD t false with
        | false => rfl
        | true => have := hc t ot hl hot e he hb; rw [hno] at this; cases this
      · obtain ⟨_, o, ho, hall⟩ := mem_ready.1 hr
        rw [hot] at ho
        obtain rfl := Option.some.inj ho
        have := hall e he hb
        rw [hno] at this; cases this
    simp only [deepWaits, Bool.or_eq_true] at h
    rcases h with h | h
    · obtain ⟨ot, hot, e, he, hb, heq⟩ := Region.waitsFor_spec h
      exact key ot hot e he hb (by rw [heq]; exact hi)
    · cases hot : ops[t]? with
      | none => rw [hot] at h; cases h
      | some ot =>
        rw [hot] at h
        obtain ⟨e, he, hb⟩ := Array.any_eq_true'.1 h
        rw [Bool.and_eq_true] at hb
        exact key ot hot e he hb.1 (ih e.on hb.2).1
/-- What may be taken now, and before the tail. -/
def Rdy (md : Region.Mode) (ops : Array Oper) (tl : List Nat) (listed : Array Bool) (i : Nat) : Prop := i ∈ Region.ready md ops listed ∧ ∀ j ∈ tl, deepWaits md ops ops.size j i = true
theorem rdy_of {md : Region.Mode} {ops : Array Oper} {tl : List Nat} {listed : Array Bool} {i : Nat} (h : ((Region.ready md ops listed).contains i && tl.all fun j => deepWaits md ops ops.size j i) = true) : Rdy md ops tl listed i := by
  rw [Bool.and_eq_true] at h
  exact ⟨List.contains_iff_mem.1 h.1, fun j hj => List.all_eq_true.1 h.2 j hj⟩
/-- E says what holds when all but the tail has been taken. -/
def Plan (P : Program) (ops : Array Oper) (md : Region.Mode) (w0 : World) (E : Array Bool → Act → World → Prop) (tl : List Nat) : List Spec → (Made → Prop) → Array Bool → Act → Prop
  | [], env, listed, a => (∀ j ∈ Region.ready md ops listed, j ∈ tl) ∧ ∀ w, Cl w0 env w → E listed a w
  | s :: r, env, listed, a => FreeP ops md listed s.idx ∧ Rdy md ops tl listed s.idx ∧ (∀ t ∈ r, mayPass md ops s t = true) ∧ Step P ops md w0 s env listed a (Plan P ops md w0 E tl r)
structure Good (ops : Array Oper) (env : Made → Prop) (listed : Array Bool) : Prop where
  keys : ∀ x, env x → listed.getD x.key false = true ∨ ops.size ≤ x.key
  one : ∀ x y, env x → env y → (x.key = y.key ∨ x.blk = y.blk) → x = y
  top : ∃ M, ∀ x, env x → x.blk < M

theorem ins_comm (m n : Made) (env : Made → Prop) : ins m (ins n env) = ins n (ins m env) := by
  funext x; exact propext or_left_comm
theorem Cl.mono {env env' : Made → Prop} {w : World} (h : Cl w0 env' w) (hs : ∀ x, env x → env' x) : Cl w0 env w := ⟨h.1, fun x hx => h.2 x (hs x hx)⟩
theorem Cl.below {env : Made → Prop} {w w' : World} (h : Cl w0 env w) (hb : Below w.heap.size w w') : Cl w0 env w' := by
  refine ⟨h.1.trans (hb.mono h.1.size), fun x hx => ?_⟩
  obtain ⟨h1, h2, h3⟩ := h.2 x hx
  exact ⟨h1, Nat.lt_of_lt_of_le h2 hb.size, by rw [hb.block _ h2]; exact h3⟩
theorem Sure.same {o : Oper} {v : Value} {env env' : Made → Prop} {a a' : Act} (h : Sure P ops w0 o v env a) (he : execOp a'.eval o = execOp a.eval o)
    (hw : Region.wanted o (yielded ops a'.tmps) = Region.wanted o (yielded ops a.tmps)) (hs : ∀ x, env x → env' x) : Sure P ops w0 o v env' a' := by
  unfold Sure at *
  rw [he, hw]
  exact h.imp (fun ⟨h1, h2⟩ => ⟨h1, fun w hc => h2 w (hc.mono hs)⟩) id
theorem Good.set {env : Made → Prop} {listed : Array Bool} (h : Good ops env listed) (i : Nat) : Good ops env (listed.setIfInBounds i true) :=
  ⟨fun x hx => (h.keys x hx).imp getD_set_true id, h.one, h.top⟩
theorem unlisted_lt {listed : Array Bool} {i : Nat} (h : listed.getD i true = false) : i < listed.size := by
  rcases Nat.lt_or_ge i listed.size with h' | h'
  · exact h'
  · simp [Array.getElem?_eq_none h'] at h
theorem unlisted_no {listed : Array Bool} {i : Nat} (h : listed.getD i true = false) : listed.getD i false = false := by
  have := unlisted_lt h
  simp [this] at h ⊢
  exact h
theorem Good.ins {env : Made → Prop} {listed : Array Bool} {i p : Nat} {obj : Obj} (h : Good ops env listed) (hi : listed.getD i true = false) (hsz : i < ops.size) (hp : Fresh w0 env p) : Good ops (ins ⟨i, p, obj⟩ env) (listed.setIfInBounds i true) := by
  refine ⟨fun x hx => ?_, fun x y hx hy e => ?_, ?_⟩
  · rcases hx with rfl | hx
    · have := unlisted_lt hi
      left
      simp [this]
    · exact (h.keys x hx).imp getD_set_true id
  · have hno := unlisted_no hi
    rcases hx with rfl | hx <;> rcases hy with rfl | hy
    · rfl
    · exfalso
      rcases e with e | e
      · rcases h.keys y hy with this | this
        · rw [← e] at this
          rw [hno] at this; cases this
        · rw [← e] at this; exact absurd hsz (Nat.not_lt.2 this)
      · exact hp.2 y hy e.symm
    · exfalso
      rcases e with e | e
      · rcases h.keys x hx with this | this
        · rw [e] at this
          rw [hno] at this; cases this
        · rw [e] at this; exact absurd hsz (Nat.not_lt.2 this)
      · exact hp.2 x hx e
    · exact h.one x y hx hy e
  · obtain ⟨M, hM⟩ := h.top
    exact ⟨max M (p + 1), fun x hx => by rcases hx with rfl | hx; · simp; omega
                                         · have := hM x hx; omega⟩
theorem Good.upd {env : Made → Prop} {listed : Array Bool} {i k : Nat} {obj : Obj} (h : Good ops env listed) : Good ops (upd k obj env) (listed.setIfInBounds i true) := by
  refine ⟨fun x hx => ?_, fun x y hx hy e => ?_, ?_⟩
  · rcases hx with ⟨hx, _⟩ | ⟨y, hy, rfl, rfl⟩
    · exact (h.keys x hx).imp getD_set_true id
    · exact (h.keys y hy).imp getD_set_true id
  · rcases hx with ⟨hx, kx⟩ | ⟨x', hx, kx, rfl⟩ <;> rcases hy with ⟨hy, ky⟩ | ⟨y', hy, ky, rfl⟩
    · exact h.one x y hx hy e
    · exfalso
      rcases e with e | e
      · exact kx e
      · have := h.one x y' hx hy (Or.inr e)
        exact kx (this ▸ ky)
    · exfalso
      rcases e with e | e
      · exact ky e.symm
      · have := h.one x' y hx hy (Or.inr e)
        exact ky (this ▸ kx)
    · have := h.one x' y' hx hy (Or.inl (kx.trans ky.symm))
      rw [this]
  · obtain ⟨M, hM⟩ := h.top
    exact ⟨M, fun x hx => by rcases hx with ⟨hx, _⟩ | ⟨y, hy, _, rfl⟩; · exact hM x hx
                             · exact hM y hy⟩
theorem FreeP.set {listed : Array Bool} {i j : Nat} (h : FreeP ops md listed i) : FreeP ops md (listed.setIfInBounds j true) i := by
  intro oi hi k ok hk hki hun hno
  refine h oi hi k ok hk hki ?_ hno
  by_cases hjk : j = k
  · subst hjk
    exfalso
    rcases Nat.lt_or_ge j listed.size with h' | h'
    · simp [h'] at hun
    · simp [Array.getElem?_eq_none (show (listed.setIfInBounds j true).size ≤ j by simpa using h')] at hun
  · rw [getD_set_ne true hjk] at hun; exact hun
theorem not_waits {listed : Array Bool} {i j : Nat} (hj : j ∈ Region.ready md ops listed) (hi : listed.getD i true = false) : Region.waitsFor md ops j i = false := by
  cases h : Region.waitsFor md ops j i with
  | false => rfl
  | true =>
    exfalso
    obtain ⟨oj, hoj, e, he, hb, heq⟩ := Region.waitsFor_spec h
    obtain ⟨_, o, ho, hall⟩ := mem_ready.1 hj
    rw [hoj] at ho
    obtain rfl := Option.some.inj ho
    have := hall e he hb
    rw [heq, unlisted_no hi] at this
    cases this
theorem Fresh.exists {env : Made → Prop} {listed : Array Bool} (h : Good ops env listed) : ∃ p, Fresh w0 env p := by
  obtain ⟨M, hM⟩ := h.top
  exact ⟨max M w0.heap.size, Nat.le_max_right _ _, fun x hx => by have := hM x hx; omega⟩
theorem only_ins {us : List Nat} {m : Made} {env : Made → Prop} (h : us.contains m.key = false) : only us (ins m env) = only us env := by
  funext x
  refine propext ⟨fun ⟨h1, h2⟩ => ?_, fun ⟨h1, h2⟩ => ⟨Or.inr h1, h2⟩⟩
  rcases h1 with rfl | h1
  · rw [h] at h2; cases h2
  · exact ⟨h1, h2⟩
theorem only_upd {us : List Nat} {k : Nat} {obj : Obj} {env : Made → Prop} (h : us.contains k = false) : only us (upd k obj env) = only us env := by
  funext x
  refine propext ⟨fun ⟨h1, h2⟩ => ?_, fun ⟨h1, h2⟩ => ⟨Or.inl ⟨h1, fun e => ?_⟩, h2⟩⟩
  · rcases h1 with ⟨h1, _⟩ | ⟨y, hy, _, rfl⟩
    · exact ⟨h1, h2⟩
    · rw [h] at h2; cases h2
  · rw [e, h] at h2; cases h2
theorem upd_ins {k : Nat} {obj : Obj} {m : Made} {env : Made → Prop} (h : m.key ≠ k) : upd k obj (ins m env) = ins m (upd k obj env) := by
  funext x
  refine propext ⟨fun hx => ?_, fun hx => ?_⟩
  · rcases hx with ⟨rfl | hx, h2⟩ | ⟨y, rfl | hy, h2, rfl⟩
    · exact Or.inl rfl
    · exact Or.inr (Or.inl ⟨hx, h2⟩)
    · exact absurd h2 h
    · exact Or.inr (Or.inr ⟨y, hy, h2, rfl⟩)
  · rcases hx with rfl | ⟨hx, h2⟩ | ⟨y, hy, h2, rfl⟩
    · exact Or.inl ⟨Or.inl rfl, h⟩
    · exact Or.inl ⟨Or.inr hx, h2⟩
    · exact Or.inr ⟨y, Or.inr hy, h2, rfl⟩
theorem Fresh.upd {k p : Nat} {obj : Obj} {env : Made → Prop} (h : Fresh w0 env p) : Fresh w0 (upd k obj env) p :=
  ⟨h.1, fun x hx => by rcases hx with ⟨hx, _⟩ | ⟨y, hy, _, rfl⟩; · exact h.2 x hx
                       · exact h.2 y hy⟩
theorem Fresh.of_upd {k p : Nat} {obj : Obj} {env : Made → Prop} (h : Fresh w0 (Go.Proofs.YtmfchcaidfloaaaDoor.upd k obj env) p) : Fresh w0 env p := by
  refine ⟨h.1, fun x hx => ?_⟩
  by_cases hk : x.key = k
  · exact h.2 ⟨k, x.blk, obj⟩ (Or.inr ⟨x, hx, hk, rfl⟩)
  · exact h.2 x (Or.inl ⟨hx, hk⟩)

/-- The operation that comes up may be taken first. -/
theorem Plan.front (hsel : Region.noSelect ops = true) : ∀ (specs : List Spec) (env : Made → Prop) (listed : Array Bool) (a : Act), Good ops env listed → Plan P ops md w0 E tl specs env listed a →
    ∀ j, j ∈ Region.ready md ops listed → j ∉ tl → ∃ s, specs.find? (fun t => t.idx == j) = some s ∧ Step P ops md w0 s env listed a (Plan P ops md w0 E tl (specs.eraseP fun t => t.idx == j)) := by
  intro specs
  induction specs with
  | nil => intro env listed a _ h j hj hjt; exact absurd (h.1 j hj) hjt
  | cons s1 r ih =>
    intro env listed a hg h j hj hjt
    obtain ⟨hfree, hr, hpass, hstep⟩ := h
    by_cases hij : s1.idx = j
    · exact ⟨s1, by simp [hij], by simp [hij]; exact hstep⟩
    have hunl := (mem_ready.1 hr.1).1
    obtain ⟨hjun, oj, hoj, hall⟩ := mem_ready.1 hj
    have hnot : ∀ e ∈ oj.after, Region.binds md e = true → e.on ≠ s1.idx := fun e he hb heq => by
      have := hall e he hb
      rw [heq, unlisted_no hunl] at this
      cases this
    obtain ⟨oi, hoi, hstep⟩ := hstep
    have hap := hfree oi hoi j oj hoj (Ne.symm hij) hjun hnot
    obtain ⟨h1, h2, h3⟩ := Oper.apart_spec hap
    have si := fun cs b => Region.noSelect_spec hsel s1.idx oi cs b hoi
    have sj := fun cs b => Region.noSelect_spec hsel j oj cs b hoj
    have ej : ∀ (a : Act) (u : Value), execOp (a.put oi.dst u).eval oj = execOp a.eval oj := fun a u => execOp_put oj sj a oi.dst u h1
    have wj : ∀ (a : Act) (u : Value), Region.wanted oj (yielded ops (a.put oi.dst u).tmps) = Region.wanted oj (yielded ops a.tmps) := fun a u => wanted_put oj a oi.dst u h1
    have ei : ∀ (a : Act) (u : Value), execOp (a.put oj.dst u).eval oi = execOp a.eval oi := fun a u => execOp_put oi si a oj.dst u h3
    have wi : ∀ (a : Act) (u : Value), Region.wanted oi (yielded ops (a.put oj.dst u).tmps) = Region.wanted oi (yielded ops a.tmps) := fun a u => wanted_put oi a oj.dst u h3
    have cm : ∀ (a : Act) (v u : Value), (a.put oi.dst v).put oj.dst u = (a.put oj.dst u).put oi.dst v := fun a v u => Act.put_comm a v u h2
    have lc : (listed.setIfInBounds s1.idx true).setIfInBounds j true = (listed.setIfInBounds j true).setIfInBounds s1.idx true := Array.setIfInBounds_comm _ _ hij
    have hjr : j ∈ Region.ready md ops (listed.setIfInBounds s1.idx true) := ready_mono hj (Ne.symm hij)
    have hir : Rdy md ops tl (listed.setIfInBounds j true) s1.idx := ⟨ready_mono hr.1 hij, hr.2⟩
    have hfr : FreeP ops md (listed.setIfInBounds j true) s1.idx := hfree.set
    have hps : ∀ t ∈ r.eraseP (fun t => t.idx == j), mayPass md ops s1 t = true := fun t ht => hpass t (List.mem_of_mem_eraseP ht)
    have hw := not_waits hj hunl
    have fnd : ∀ s, r.find? (fun t => t.idx == j) = some s → (s1 :: r).find? (fun t => t.idx == j) = some s := fun s hs => by simp [hij, hs]
    have ers : (s1 :: r).eraseP (fun t => t.idx == j) = s1 :: r.eraseP (fun t => t.idx == j) := by simp [hij]
    have sid : ∀ s, r.find? (fun t => t.idx == j) = some s → s.idx = j ∧ mayPass md ops s1 s = true := fun s hs =>
      ⟨by simpa using List.find?_some hs, hpass s (List.mem_of_find?_eq_some hs)⟩
    rw [ers]
    cases s1 with
    | val i us v =>
      obtain ⟨hus, hsure, hK⟩ := hstep
      have lc2 : (listed.setIfInBounds i true).setIfInBounds j true = (listed.setIfInBounds j true).setIfInBounds i true := lc
      obtain ⟨s, hs, hS⟩ := ih _ _ _ (hg.set i) hK j hjr hjt
      obtain ⟨hsi, hmp⟩ := sid s hs
      refine ⟨s, fnd s hs, ?_⟩
      obtain ⟨oj', hoj', hS⟩ := hS
      rw [hsi, hoj] at hoj'
      obtain rfl := Option.some.inj hoj'
      refine ⟨oj, by rw [hsi]; exact hoj, ?_⟩
      cases s with
      | val j' us' u =>
        obtain ⟨hus', hsure', hK'⟩ := hS
        obtain rfl : j' = j := hsi
        refine ⟨hus', hsure'.same (ej a v).symm (wj a v).symm (fun _ h => h), hfr, hir, hps, oi, hoi, hus, hsure.same (ei a u) (wi a u) (fun _ h => h), ?_⟩
        rw [← cm]; rw [← lc2]; exact hK'
      | make j' obj val =>
        obtain ⟨hw', hrun, hK'⟩ := hS
        obtain rfl : j' = j := hsi
        refine ⟨by rw [← wj a v]; exact hw', fun w hb => by rw [← ej a v]; exact hrun w hb, fun p hp => ⟨hfr, hir, hps, oi, hoi, hus, hsure.same (ei a _) (wi a _) (fun x hx => ⟨Or.inr hx.1, hx.2⟩), ?_⟩⟩
        rw [← cm]; rw [← lc2]; exact hK' p hp
      | put j' k obj =>
        obtain ⟨hwk, hw', ⟨x, hx, hxk, hrun⟩, hK'⟩ := hS
        obtain rfl : j' = j := hsi
        have hwv : Region.waitsFor md ops j' i = false := hw
        have hku : us.contains k = false := by simpa [mayPass, hwv] using hmp
        refine ⟨hwk, by rw [← wj a v]; exact hw', ⟨x, hx, hxk, fun w hw => by rw [← ej a v]; exact hrun w hw⟩, hfr, hir, hps, oi, hoi, hus, ?_, ?_⟩
        · rw [only_upd hku]; exact hsure.same (ei a _) (wi a _) (fun _ h => h)
        · rw [← cm]; rw [← lc2]; exact hK'
    | make i obj val =>
      obtain ⟨hwi, hruni, hK⟩ := hstep
      have lc2 : (listed.setIfInBounds i true).setIfInBounds j true = (listed.setIfInBounds j true).setIfInBounds i true := lc
      have hw : Region.waitsFor md ops j i = false := hw
      obtain ⟨p0, hp0⟩ := Fresh.exists (w0 := w0) hg
      have IH := fun p (hp : Fresh w0 env p) => ih _ _ _ (hg.ins (obj := obj) hunl (Array.getElem?_eq_some_iff.1 hoi).1 hp) (hK p hp) j hjr hjt
      obtain ⟨s, hs, hS0⟩ := IH p0 hp0
      obtain ⟨hsi, hmp⟩ := sid s hs
      have IH' : ∀ p, Fresh w0 env p → Step P ops md w0 s (ins ⟨i, p, obj⟩ env) (listed.setIfInBounds i true) (a.put oi.dst (val p)) (Plan P ops md w0 E tl (r.eraseP fun t => t.idx == j)) := fun p hp => by
        obtain ⟨s', hs', hS'⟩ := IH p hp
        rw [hs] at hs'
        obtain rfl := Option.some.inj hs'
        exact hS'
      refine ⟨s, fnd s hs, ?_⟩
      obtain ⟨oj', hoj', hS0⟩ := hS0
      rw [hsi, hoj] at hoj'
      obtain rfl := Option.some.inj hoj'
      have IH2 : ∀ p (hp : Fresh w0 env p), ∃ o, ops[s.idx]? = some o ∧ o = oj := fun p hp => ⟨oj, by rw [hsi]; exact hoj, rfl⟩
      refine ⟨oj, by rw [hsi]; exact hoj, ?_⟩
      cases s with
      | val j' us' u =>
        obtain ⟨hus', hsure', _⟩ := hS0
        obtain rfl : j' = j := hsi
        have hiu : us'.contains i = false := by
          cases hc : us'.contains i with
          | false => rfl
          | true =>
            have := List.all_eq_true.1 hus' i (by simpa using hc)
            unfold has at this
            rw [hw, Bool.false_or, decide_eq_true_eq] at this
            exact absurd (Array.getElem?_eq_some_iff.1 hoi).1 (Nat.not_lt.2 this)
        refine ⟨hus', ?_, hfr, hir, hps, oi, hoi, by rw [wi]; exact hwi, fun w hb => by rw [ei]; exact hruni w hb, fun p hp => ?_⟩
        · have hsure2 : Sure P ops w0 oj u (only us' (ins ⟨i, p0, obj⟩ env)) (a.put oi.dst (val p0)) := hsure'
          rw [only_ins (m := ⟨i, p0, obj⟩) hiu] at hsure2
          exact hsure2.same (ej a _).symm (wj a _).symm (fun _ h => h)
        · obtain ⟨o', ho', _, _, hK'⟩ := IH' p hp
          obtain rfl := Option.some.inj (hoj.symm.trans ho')
          rw [← cm]; rw [← lc2]; exact hK'
      | make j' obj' val' =>
        obtain ⟨hw', hrun', _⟩ := hS0
        obtain rfl : j' = j := hsi
        refine ⟨by rw [← wj a (val p0)]; exact hw', fun w hb => by rw [← ej a (val p0)]; exact hrun' w hb, fun q hq => ⟨hfr, hir, hps, oi, hoi, by rw [wi]; exact hwi, fun w hb => by rw [ei]; exact hruni w hb, fun p hp => ?_⟩⟩
        have hpe : Fresh w0 env p := ⟨hp.1, fun x hx => hp.2 x (Or.inr hx)⟩
        have hqp : Fresh w0 (ins ⟨i, p, obj⟩ env) q := ⟨hq.1, fun x hx => by
          rcases hx with rfl | hx
          · exact fun e => hp.2 ⟨j', q, obj'⟩ (Or.inl rfl) e.symm
          · exact hq.2 x hx⟩
        obtain ⟨o', ho', _, _, hK'⟩ := IH' p hpe
        obtain rfl := Option.some.inj (hoj.symm.trans ho')
        rw [ins_comm, ← cm]; rw [← lc2]; exact hK' q hqp
      | put j' k obj' =>
        obtain ⟨hwk, hw', ⟨x, hx, hxk, hrun⟩, _⟩ := hS0
        obtain rfl : j' = j := hsi
        have hki : i ≠ k := fun e => by
          unfold has at hwk
          rw [← e, hw, Bool.false_or, decide_eq_true_eq] at hwk
          exact absurd (Array.getElem?_eq_some_iff.1 hoi).1 (Nat.not_lt.2 hwk)
        have hxe : env x := by
          rcases hx with rfl | hx
          · exact absurd hxk hki
          · exact hx
        refine ⟨hwk, by rw [← wj a (val p0)]; exact hw', ⟨x, hxe, hxk, fun w hw => by rw [← ej a (val p0)]; exact hrun w hw⟩, hfr, hir, hps, oi, hoi, by rw [wi]; exact hwi, fun w hb => by rw [ei]; exact hruni w hb, fun p hp => ?_⟩
        obtain ⟨o', ho', _, _, _, hK'⟩ := IH' p hp.of_upd
        obtain rfl := Option.some.inj (hoj.symm.trans ho')
        rw [upd_ins (m := ⟨i, p, obj⟩) hki] at hK'
        rw [← cm]; rw [← lc2]; exact hK'
    | put i k obj =>
      obtain ⟨hwk, hwi, ⟨x, hx, hxk, hrun⟩, hK⟩ := hstep
      have lc2 : (listed.setIfInBounds i true).setIfInBounds j true = (listed.setIfInBounds j true).setIfInBounds i true := lc
      have hw : Region.waitsFor md ops j i = false := hw
      obtain ⟨s, hs, hS⟩ := ih _ _ _ hg.upd hK j hjr hjt
      obtain ⟨hsi, hmp⟩ := sid s hs
      refine ⟨s, fnd s hs, ?_⟩
      obtain ⟨oj', hoj', hS⟩ := hS
      rw [hsi, hoj] at hoj'
      obtain rfl := Option.some.inj hoj'
      refine ⟨oj, by rw [hsi]; exact hoj, ?_⟩
      cases s with
      | val j' us' u =>
        obtain ⟨hus', hsure', hK'⟩ := hS
        obtain rfl : j' = j := hsi
        have hwv : Region.waitsFor md ops j' i = false := hw
        have hku : us'.contains k = false := by simpa [mayPass, hwv] using hmp
        rw [only_upd hku] at hsure'
        refine ⟨hus', hsure'.same (ej a _).symm (wj a _).symm (fun _ h => h), hfr, hir, hps, oi, hoi, hwk, by rw [wi]; exact hwi, ⟨x, hx, hxk, fun w hw => by rw [ei]; exact hrun w hw⟩, ?_⟩
        rw [← cm]; rw [← lc2]; exact hK'
      | make j' obj' val' =>
        obtain ⟨hw', hrun', hK'⟩ := hS
        obtain rfl : j' = j := hsi
        have hjk : j' ≠ k := fun e => by
          rcases hg.keys x hx with this | this
          · rw [hxk, ← e, unlisted_no hjun] at this
            cases this
          · rw [hxk, ← e] at this
            exact absurd (Array.getElem?_eq_some_iff.1 hoj).1 (Nat.not_lt.2 this)
        refine ⟨by rw [← wj a undef]; exact hw', fun w hb => by rw [← ej a undef]; exact hrun' w hb, fun p hp => ⟨hfr, hir, hps, oi, hoi, hwk, by rw [wi]; exact hwi, ⟨x, Or.inr hx, hxk, fun w hw => by rw [ei]; exact hrun w hw⟩, ?_⟩⟩
        rw [upd_ins (m := ⟨j', p, obj'⟩) hjk, ← cm]; rw [← lc2]; exact hK' p hp.upd
      | put j' k' obj' =>
        obtain rfl : j' = j := hsi
        exfalso
        simp only [mayPass] at hmp
        rw [hw] at hmp; cases hmp

/-- What a fence must grant: all functions, every contract, and no defer statement among the operations. -/
structure Grants (F : Fence) (n : Nat) (P : Program) (ops : Array Oper) : Prop where
  fn : ∀ f, F.fn f
  depth : F.depth = none
  calls : ∀ {f : FuncId} {args : Array Value} {w : World} {R : Ending → World → Prop}, Calls P f args w R → CallsIn F (n - 1) P f args w R
  sem : ∀ (i : Nat) (o : Oper), ops[i]? = some o → ∀ ρ, o.semAt F.round ρ = execOp ρ o
theorem Grants.enter {F : Fence} {n : Nat} {P : Program} {ops : Array Oper} (h : Grants F n P ops) : F.depth.isSome = true → 1 ≤ n := by rw [h.depth]; intro h; cases h
theorem Plan.sound {F : Fence} {n0 : Nat} {Q : Exit → Act → World → Prop} (hF : Grants F n0 P ops) (m : Nat) (hsel : Region.noSelect ops = true) : ∀ (n : Nat) (specs : List Spec) (env : Made → Prop) (listed : Array Bool) (a : Act) (w : World), specs.length = n → Good ops env listed → Closed md ops listed → Plan P ops md w0 (wpAnyIn F n0 P md ops Q m) tl specs env listed a → Cl w0 env w →
    wpAnyIn F n0 P md ops Q (n + m) listed a w := by
  intro n
  induction n with
  | zero =>
    intro specs env listed a w hn _ _ h hC
    obtain rfl := List.eq_nil_of_length_eq_zero hn
    rw [Nat.zero_add]
    exact h.2 w hC
  | succ n ih =>
    intro specs env listed a w hn hg hcl h hC
    rw [Nat.add_right_comm]
    refine ⟨fun h0 => ?_, fun j hj => ?_⟩
    · match specs, hn, h with
      | s :: r, _, h => have := h.2.1.1; rw [h0] at this; cases this
    · have hjt : j ∉ tl := fun ht => by
        match specs, hn, h with
        | s :: r, _, h => exact (deep_not hcl (unlisted_no (mem_ready.1 h.2.1.1).1) _ _ (h.2.1.2 j ht)).2 hj
      obtain ⟨s, hs, hS⟩ := Plan.front hsel specs env listed a hg h j hj hjt
      have hsi : s.idx = j := by simpa using List.find?_some hs
      have hlen : (specs.eraseP fun t => t.idx == j).length = n := by
        rw [List.length_eraseP_of_mem (List.mem_of_find?_eq_some hs) (List.find?_some hs), hn]; rfl
      have hun := (mem_ready.1 hj).1
      obtain ⟨oj, hoj, hS⟩ := hS
      rw [hsi] at hoj
      unfold wpOpIn
      simp only [hoj]
      cases s with
      | val j' us u =>
        obtain ⟨_, hsure, hK⟩ := hS
        obtain rfl : j' = j := hsi
        rcases hsure with ⟨hw, hv⟩ | ⟨hw, rfl⟩
        · simp only [hw, if_true]
          have h3 := hv w (hC.mono (fun x hx => hx.1))
          refine ⟨fun f _ => hF.fn f, ?_⟩
          rw [hF.sem _ _ hoj]
          generalize (execOp a.eval oj).run P w = res at *
          cases res with
          | ok nx w' =>
            cases nx <;> simp only [sureUpon] at h3 <;> simp only [Oper.uponIn]
            case value u' =>
              obtain ⟨e1, e2⟩ := h3
              rw [e1, e2]
              exact ih _ _ _ _ _ hlen (hg.set _) (hcl.set hj) hK hC
            case skip =>
              obtain ⟨e1, e2⟩ := h3
              rw [e1, ← e2]
              exact ih _ _ _ _ _ hlen (hg.set _) (hcl.set hj) hK hC
            case enter f args =>
              obtain ⟨e1, hc⟩ := h3
              rw [e1]
              exact ⟨hF.enter, (hF.calls hc).mono fun e w'' ⟨he, hw''⟩ => by subst he; exact ih _ _ _ _ _ hlen (hg.set _) (hcl.set hj) hK (hC.below hw'')⟩
          | halt x w' => simp only [sureUpon] at h3
        · simp only [hw, Bool.false_eq_true, if_false]
          refine ⟨fun f _ => hF.fn f, ?_⟩
          exact ih _ _ _ _ _ hlen (hg.set _) (hcl.set hj) hK hC
      | make j' obj val =>
        obtain ⟨hw, hrun, hK⟩ := hS
        obtain rfl : j' = j := hsi
        simp only [hw, if_true]
        have h3 := hrun w hC.1
        have go : ∀ p w2, MadeAt w w2 p obj → wpAnyIn F n0 P md ops Q (n + m) (listed.setIfInBounds j' true) (a.put oj.dst (val p)) w2 := fun p w2 hm => by
          have hF : Fresh w0 env p := ⟨Nat.le_trans hC.1.size hm.low, fun x hx => by have := (hC.2 x hx).2.1; have := hm.low; omega⟩
          refine ih _ _ _ _ _ hlen (hg.ins hun (Array.getElem?_eq_some_iff.1 hoj).1 hF) (hcl.set hj) (hK _ hF) ⟨(hC.below hm.below).1, fun x hx => ?_⟩
          rcases hx with rfl | hx
          · exact ⟨Nat.le_trans hC.1.size hm.low, hm.high, hm.here⟩
          · exact (hC.below hm.below).2 x hx
        refine ⟨fun f _ => hF.fn f, ?_⟩
        rw [hF.sem _ _ hoj]
        generalize (execOp a.eval oj).run P w = res at *
        cases res with
        | ok nx w' =>
          cases nx <;> simp only [makeUpon] at h3 <;> simp only [Oper.uponIn]
          case value u' =>
            obtain ⟨p, e1, hm⟩ := h3
            rw [e1]
            exact go p w' hm
          case enter f args =>
            obtain ⟨e1, hc⟩ := h3
            rw [e1]
            exact ⟨hF.enter, (hF.calls hc).mono fun e w'' ⟨p, he, hm⟩ => by subst he; exact go p w'' hm⟩
        | halt x w' => simp only [makeUpon] at h3
      | put j' k obj =>
        obtain ⟨_, hw, ⟨x, hx, hxk, hrun⟩, hK⟩ := hS
        obtain rfl : j' = j := hsi
        simp only [hw, if_true]
        obtain ⟨w', hr, hst⟩ := hrun w (hC.mono (fun y hy => hy ▸ hx))
        obtain ⟨b1, b2, b3⟩ := hC.2 x hx
        refine ⟨fun f _ => hF.fn f, ?_⟩
        rw [hF.sem _ _ hoj]
        rw [hr]
        simp only [Oper.uponIn]
        refine ih _ _ _ _ _ hlen hg.upd (hcl.set hj) hK ⟨hC.1.trans ⟨hst.os, hst.tape, hst.output, by rw [hst.size]; exact Nat.le_refl _, fun q hq => hst.there q (by omega)⟩, fun y hy => ?_⟩
        rcases hy with ⟨hy, hyk⟩ | ⟨z, hz, hzk, rfl⟩
        · obtain ⟨c1, c2, c3⟩ := hC.2 y hy
          refine ⟨c1, by rw [hst.size]; exact c2, ?_⟩
          rw [hst.there y.blk (fun e => hyk (by rw [hg.one y x hy hx (Or.inr e)]; exact hxk))]
          exact c3
        · obtain rfl := hg.one z x hz hx (Or.inl (hzk.trans hxk.symm))
          exact ⟨b1, by rw [hst.size]; exact b2, hst.here⟩

/-- A plan for the operations from number k on, which are l. -/
structure PL (P : Program) (ops : Array Oper) (md : Region.Mode) (w0 : World) (E : Array Bool → Act → World → Prop) (tl : List Nat) (k : Nat) (l : List Oper) (specs : List Spec) (env : Made → Prop) (listed : Array Bool) (a : Act) : Prop where
  out : (∀ j, l[j]? = ops[k + j]?) → Plan P ops md w0 E tl specs env listed a
theorem agree_head {k : Nat} {o : Oper} {l : List Oper} (h : ∀ j, (o :: l)[j]? = ops[k + j]?) : ops[k]? = some o := by simpa using (h 0).symm
theorem agree_tail {k : Nat} {o : Oper} {l : List Oper} (h : ∀ j, (o :: l)[j]? = ops[k + j]?) : ∀ j, l[j]? = ops[k + 1 + j]? := fun j => by
  have := h (j + 1)
  simpa [Nat.add_assoc, Nat.add_comm 1 j] using this
theorem grants_wide (P : Program) (ops : Array Oper) : Grants Fence.wide 0 P ops := ⟨fun _ => trivial, rfl, fun h => callsIn_wide.2 h, fun _ _ _ _ => rfl⟩
def noDefer (ops : Array Oper) : Bool := ops.toList.all fun o => match o.op with | .defer _ => false | _ => true
theorem noDefer_spec {ops : Array Oper} (h : noDefer ops = true) (i : Nat) (o : Oper) (ho : ops[i]? = some o) : ∀ c, o.op ≠ .defer c := fun c hc => by
  have h1 : o ∈ ops.toList := by
    rw [Array.mem_toList_iff]; exact Array.mem_of_getElem? ho
  have := List.all_eq_true.1 h o h1
  rw [hc] at this; cases this
theorem grants_round (l n : Nat) (P : Program) (ops : Array Oper) (h : noDefer ops = true) : Grants (Fence.wide.inRound l) n P ops := ⟨fun _ => trivial, rfl, fun h => callsIn_wide (n := n - 1) |>.2 h, fun i o ho _ => Oper.semAt_eq _ _ _ (noDefer_spec h i o ho)⟩
theorem grants_any (n : Nat) (P : Program) (ops : Array Oper) : Grants Fence.wide n P ops := ⟨fun _ => trivial, rfl, fun h => callsIn_wide.2 h, fun _ _ _ _ => rfl⟩
/-- The end without a tail. -/
def EndW (P : Program) (ops : Array Oper) (md : Region.Mode) (Q : Exit → Act → World → Prop) : Array Bool → Act → World → Prop := wpAnyIn Fence.wide 0 P md ops Q 0
/-- The beginning: a region that draws its order. -/
theorem wp_region_plan {id : Nat} {a : Act} {w : World} {l : List Oper} {Q : Exit → Act → World → Prop} (specs : List Spec) (hm : P.follows .mixedOrders = true) (hsel : Region.noSelect l.toArray = true) (hlen : specs.length = l.toArray.size)
    (h : PL P l.toArray .any w (EndW P l.toArray .any Q) [] 0 l specs (fun _ => False) (Array.replicate l.toArray.size false) a) : (Code.region id l.toArray true).wp P Q a w := by
  refine wpIn_wide (n := 0) |>.1 (wpIn_region_any hm ?_)
  have := Plan.sound (tl := []) (grants_wide P l.toArray) 0 hsel _ specs (fun _ => False) _ a { w with drawn := w.drawn + 1 } hlen ⟨fun _ h => h.elim, fun _ _ h => h.elim, ⟨0, fun _ h => h.elim⟩⟩ (Closed.none _ _ _) (h.out (by simp)) ⟨⟨rfl, rfl, rfl, Nat.le_refl _, fun _ _ => rfl⟩, fun _ h => h.elim⟩
  exact this
/-- The beginning, where the class is reckoned from an earlier world w0, and one block that lies above it is known. -/
theorem wp_region_plan_own {id : Nat} {a : Act} {w : World} {l : List Oper} {Q : Exit → Act → World → Prop} (w0 : World) (k p : Nat) (obj : Obj) (specs : List Spec) (hm : P.follows .mixedOrders = true) (hsel : Region.noSelect l.toArray = true) (hlen : specs.length = l.toArray.size) (hk : l.toArray.size ≤ k)
    (hb : Below w0.heap.size w0 w) (hlow : w0.heap.size ≤ p) (hhigh : p < w.heap.size) (hobj : w.heap[p]? = some obj)
    (h : PL P l.toArray .any w0 (EndW P l.toArray .any Q) [] 0 l specs (fun x => x = ⟨k, p, obj⟩) (Array.replicate l.toArray.size false) a) : (Code.region id l.toArray true).wp P Q a w := by
  refine wpIn_wide (n := 0) |>.1 (wpIn_region_any hm ?_)
  have := Plan.sound (tl := []) (grants_wide P l.toArray) 0 hsel _ specs (fun x => x = ⟨k, p, obj⟩) _ a { w with drawn := w.drawn + 1 } hlen ⟨fun x hx => Or.inr (hx ▸ hk), fun x y hx hy _ => hx.trans hy.symm, ⟨p + 1, fun x hx => by rw [hx]; exact Nat.lt_succ_self _⟩⟩ (Closed.none _ _ _) (h.out (by simp))
    ⟨⟨hb.os, hb.tape, hb.output, hb.size, hb.block⟩, fun x hx => by rw [hx]; exact ⟨hlow, hhigh, hobj⟩⟩
  exact this
/-- The beginning, where the class is reckoned from an earlier world w0, and some blocks that lie above it are known. -/
theorem wp_region_plan_env {id : Nat} {a : Act} {w : World} {l : List Oper} {Q : Exit → Act → World → Prop} (w0 : World) (es : List Made) (specs : List Spec) (hm : P.follows .mixedOrders = true) (hsel : Region.noSelect l.toArray = true) (hlen : specs.length = l.toArray.size) (hk : ∀ x, x ∈ es → l.toArray.size ≤ x.key)
    (hone : ∀ x y, x ∈ es → y ∈ es → (x.key = y.key ∨ x.blk = y.blk) → x = y) (hb : Below w0.heap.size w0 w) (hes : ∀ x, x ∈ es → w0.heap.size ≤ x.blk ∧ x.blk < w.heap.size ∧ w.heap[x.blk]? = some x.obj)
    (h : PL P l.toArray .any w0 (EndW P l.toArray .any Q) [] 0 l specs (fun x => x ∈ es) (Array.replicate l.toArray.size false) a) : (Code.region id l.toArray true).wp P Q a w := by
  refine wpIn_wide (n := 0) |>.1 (wpIn_region_any hm ?_)
  have := Plan.sound (tl := []) (grants_wide P l.toArray) 0 hsel _ specs (fun x => x ∈ es) _ a { w with drawn := w.drawn + 1 } hlen ⟨fun x hx => Or.inr (hk x hx), hone, ⟨w.heap.size, fun x hx => (hes x hx).2.1⟩⟩ (Closed.none _ _ _) (h.out (by simp))
    ⟨⟨hb.os, hb.tape, hb.output, hb.size, hb.block⟩, hes⟩
  exact this
/-- A region inside a fence, the last m operations of which come one after another, behind all others. -/
theorem wpIn_region_plan {F : Fence} {n0 id : Nat} {a : Act} {w : World} {l : List Oper} {Q : Exit → Act → World → Prop} (hF : Grants F n0 P l.toArray) (m : Nat) (tl : List Nat) (specs : List Spec) (hm : P.follows .mixedOrders = true) (hsel : Region.noSelect l.toArray = true) (hlen : specs.length + m = l.toArray.size)
    (h : PL P l.toArray .any w (wpAnyIn F n0 P .any l.toArray Q m) tl 0 l specs (fun _ => False) (Array.replicate l.toArray.size false) a) : (Code.region id l.toArray true).wpIn F n0 P Q a w := by
  refine wpIn_region_any hm ?_
  have h2 := Plan.sound (tl := tl) (w0 := w) hF m hsel _ specs (fun _ => False) _ a { w with drawn := w.drawn + 1 } rfl ⟨fun _ h => h.elim, fun _ _ h => h.elim, ⟨0, fun _ h => h.elim⟩⟩ (Closed.none _ _ _) (h.out (by simp)) ⟨⟨rfl, rfl, rfl, Nat.le_refl _, fun _ _ => rfl⟩, fun _ h => h.elim⟩
  rw [hlen] at h2
  exact h2
theorem wp_region_plan_tail {id : Nat} {a : Act} {w : World} {l : List Oper} {Q : Exit → Act → World → Prop} (m : Nat) (tl : List Nat) (specs : List Spec) (hm : P.follows .mixedOrders = true) (hsel : Region.noSelect l.toArray = true) (hlen : specs.length + m = l.toArray.size)
    (h : PL P l.toArray .any w (wpAnyIn Fence.wide 0 P .any l.toArray Q m) tl 0 l specs (fun _ => False) (Array.replicate l.toArray.size false) a) : (Code.region id l.toArray true).wp P Q a w :=
  wpIn_wide (n := 0) |>.1 (wpIn_region_plan (grants_wide P _) m tl specs hm hsel hlen h)
/-- From here on the operations come one after another. -/
def chain (md : Region.Mode) (ops : Array Oper) : Nat → Nat → Array Bool → Bool
  | 0, _, listed => (Region.ready md ops listed).isEmpty
  | m + 1, k, listed => (Region.ready md ops listed) == [k] && chain md ops m (k + 1) (listed.setIfInBounds k true)
theorem chain_sound {F : Fence} {n0 : Nat} {Q : Exit → Act → World → Prop} (fn : ∀ f, F.fn f) : ∀ (m k : Nat) (l : List Oper) (listed : Array Bool) (a : Act) (w : World), l.length = m → (∀ j, l[j]? = ops[k + j]?) → chain md ops m k listed = true → wpListIn F n0 P ops Q l a w → wpAnyIn F n0 P md ops Q m listed a w := by
  intro m
  induction m with
  | zero =>
    intro k l listed a w hl hj hc h
    obtain rfl := List.eq_nil_of_length_eq_zero hl
    exact ⟨by simpa [chain] using hc, h⟩
  | succ m ih =>
    intro k l listed a w hl hj hc h
    match l, hl with
    | o :: l, hl =>
      obtain ⟨hr, hc⟩ : Region.ready md ops listed = [k] ∧ chain md ops m (k + 1) (listed.setIfInBounds k true) = true := by simpa [chain] using hc
      refine ⟨fun h0 => (by rw [h0] at hr; cases hr), fun i hi => ?_⟩
      rw [hr] at hi
      obtain rfl : i = k := by simpa using hi
      have ho : ops[i]? = some o := by simpa using (hj 0).symm
      have hl' : l.length = m := by simpa using hl
      have hj' : ∀ j, l[j]? = ops[i + 1 + j]? := fun j => by
        have := hj (j + 1)
        simpa [Nat.add_assoc, Nat.add_comm 1 j] using this
      unfold wpOpIn
      simp only [ho]
      simp only [wpListIn] at h
      split at h
      · rename_i hw
        simp only [hw, if_true]
        exact Oper.wpIn_mono (fun a w h => ih _ _ _ _ _ hl' hj' hc h) h
      · rename_i hw
        simp only [hw, Bool.false_eq_true, if_false]
        exact ⟨fun f _ => fn f, ih _ _ _ _ _ hl' hj' hc h.2⟩
/-- All but the tail has been taken. -/
theorem plan_tail {F : Fence} {n0 : Nat} {Q : Exit → Act → World → Prop} {k m : Nat} {l : List Oper} {env : Made → Prop} {listed : Array Bool} {a : Act} (fn : ∀ f, F.fn f) (hr : (Region.ready md ops listed).all (tl.contains ·) = true) (hc : chain md ops m k listed = true) (hl : l.length = m)
    (h : ∀ w, Cl w0 env w → wpListIn F n0 P ops Q l a w) : PL P ops md w0 (wpAnyIn F n0 P md ops Q m) tl k l [] env listed a :=
  ⟨fun ha => ⟨fun j hj => by simpa using List.all_eq_true.1 hr j hj, fun w hC => chain_sound fn m k l listed a w hl ha hc (h w hC)⟩⟩
theorem plan_tail_w {Q : Exit → Act → World → Prop} {k m : Nat} {l : List Oper} {env : Made → Prop} {listed : Array Bool} {a : Act} (hr : (Region.ready md ops listed).all (tl.contains ·) = true) (hc : chain md ops m k listed = true) (hl : l.length = m)
    (h : ∀ w, Cl w0 env w → wpListIn Fence.wide 0 P ops Q l a w) : PL P ops md w0 (wpAnyIn Fence.wide 0 P md ops Q m) tl k l [] env listed a := plan_tail (fun _ => trivial) hr hc hl h
/-- A value that is read out of the named blocks. -/
theorem plan_valu {i : Nat} {o : Oper} {l : List Oper} {v : Value} {r : List Spec} {env : Made → Prop} {listed : Array Bool} {a : Act} (us : List Nat) (hf : Region.free md ops listed i = true) (hr : ((Region.ready md ops listed).contains i && tl.all fun j => deepWaits md ops ops.size j i) = true)
    (hp : r.all (mayPass md ops (.val i us v)) = true) (hu : us.all (has md ops i) = true) (hw : Region.wanted o (yielded ops a.tmps) = true) (hv : ∀ w1, Cl w0 (only us env) w1 → (execOp a.eval o).run P w1 = .ok (.value v) w1)
    (h : PL P ops md w0 E tl (i + 1) l r env (listed.setIfInBounds i true) (a.put o.dst v)) : PL P ops md w0 E tl i (o :: l) (.val i us v :: r) env listed a :=
  ⟨fun ha => ⟨fun oi hoi => by obtain rfl := Option.some.inj ((agree_head ha).symm.trans hoi); exact Region.free_spec (agree_head ha) hf, rdy_of hr, List.all_eq_true.1 hp, o, agree_head ha, hu, Or.inl ⟨hw, fun w hC => by rw [hv w hC]; exact ⟨rfl, rfl⟩⟩, h.out (agree_tail ha)⟩⟩
/-- A value. -/
theorem plan_val {i : Nat} {o : Oper} {l : List Oper} {v : Value} {r : List Spec} {env : Made → Prop} {listed : Array Bool} {a : Act} (hf : Region.free md ops listed i = true) (hr : ((Region.ready md ops listed).contains i && tl.all fun j => deepWaits md ops ops.size j i) = true)
    (hp : r.all (mayPass md ops (.val i [] v)) = true) (hw : Region.wanted o (yielded ops a.tmps) = true) (hv : ∀ w1, Below w0.heap.size w0 w1 → (execOp a.eval o).run P w1 = .ok (.value v) w1)
    (h : PL P ops md w0 E tl (i + 1) l r env (listed.setIfInBounds i true) (a.put o.dst v)) : PL P ops md w0 E tl i (o :: l) (.val i [] v :: r) env listed a :=
  ⟨fun ha => ⟨fun oi hoi => by obtain rfl := Option.some.inj ((agree_head ha).symm.trans hoi); exact Region.free_spec (agree_head ha) hf, rdy_of hr, List.all_eq_true.1 hp, o, agree_head ha, rfl, Or.inl ⟨hw, fun w hC => by rw [hv w hC.1]; exact ⟨rfl, rfl⟩⟩, h.out (agree_tail ha)⟩⟩
/-- An operation whose guard says no. -/
theorem plan_skip {i : Nat} {o : Oper} {l : List Oper} {r : List Spec} {env : Made → Prop} {listed : Array Bool} {a : Act} (hf : Region.free md ops listed i = true) (hr : ((Region.ready md ops listed).contains i && tl.all fun j => deepWaits md ops ops.size j i) = true)
    (hp : r.all (mayPass md ops (.val i [] undef)) = true) (hw : Region.wanted o (yielded ops a.tmps) = false)
    (h : PL P ops md w0 E tl (i + 1) l r env (listed.setIfInBounds i true) (a.put o.dst undef)) : PL P ops md w0 E tl i (o :: l) (.val i [] undef :: r) env listed a :=
  ⟨fun ha => ⟨fun oi hoi => by obtain rfl := Option.some.inj ((agree_head ha).symm.trans hoi); exact Region.free_spec (agree_head ha) hf, rdy_of hr, List.all_eq_true.1 hp, o, agree_head ha, rfl, Or.inr ⟨hw, rfl⟩, h.out (agree_tail ha)⟩⟩
/-- A call. -/
theorem plan_call {i : Nat} {o : Oper} {l : List Oper} {v : Value} {r : List Spec} {env : Made → Prop} {listed : Array Bool} {a : Act} (us : List Nat) (f : FuncId) (args : Array Value) (hf : Region.free md ops listed i = true) (hr : ((Region.ready md ops listed).contains i && tl.all fun j => deepWaits md ops ops.size j i) = true)
    (hp : r.all (mayPass md ops (.val i us v)) = true) (hu : us.all (has md ops i) = true) (hw : Region.wanted o (yielded ops a.tmps) = true) (hv : ∀ w1, Below w0.heap.size w0 w1 → (execOp a.eval o).run P w1 = .ok (.enter f args) w1)
    (hc : ∀ w1, Cl w0 (only us env) w1 → Calls P f args w1 fun e w2 => e = .returned v ∧ Below w1.heap.size w1 w2)
    (h : PL P ops md w0 E tl (i + 1) l r env (listed.setIfInBounds i true) (a.put o.dst v)) : PL P ops md w0 E tl i (o :: l) (.val i us v :: r) env listed a :=
  ⟨fun ha => ⟨fun oi hoi => by obtain rfl := Option.some.inj ((agree_head ha).symm.trans hoi); exact Region.free_spec (agree_head ha) hf, rdy_of hr, List.all_eq_true.1 hp, o, agree_head ha, hu, Or.inl ⟨hw, fun w hC => by rw [hv w hC.1]; exact ⟨rfl, hc w hC⟩⟩, h.out (agree_tail ha)⟩⟩
/-- A new block. -/
theorem plan_make {i : Nat} {o : Oper} {l : List Oper} {obj : Obj} {val : Nat → Value} {r : List Spec} {env : Made → Prop} {listed : Array Bool} {a : Act} (hf : Region.free md ops listed i = true) (hr : ((Region.ready md ops listed).contains i && tl.all fun j => deepWaits md ops ops.size j i) = true)
    (hw : Region.wanted o (yielded ops a.tmps) = true) (hv : ∀ w1, (execOp a.eval o).run P w1 = .ok (.value (val w1.heap.size)) (w1.alloc obj))
    (h : ∀ p, Fresh w0 env p → PL P ops md w0 E tl (i + 1) l r (ins ⟨i, p, obj⟩ env) (listed.setIfInBounds i true) (a.put o.dst (val p))) : PL P ops md w0 E tl i (o :: l) (.make i obj val :: r) env listed a :=
  ⟨fun ha => ⟨fun oi hoi => by obtain rfl := Option.some.inj ((agree_head ha).symm.trans hoi); exact Region.free_spec (agree_head ha) hf, rdy_of hr, fun t _ => by cases t <;> rfl, o, agree_head ha, hw, fun w _ => by rw [hv w]; exact ⟨_, rfl, madeAt_alloc _ _⟩, fun p hp => (h p hp).out (agree_tail ha)⟩⟩
/-- A call that makes a block. -/
theorem plan_mcall {i : Nat} {o : Oper} {l : List Oper} {obj : Obj} {val : Nat → Value} {r : List Spec} {env : Made → Prop} {listed : Array Bool} {a : Act} (f : FuncId) (args : Array Value) (hf : Region.free md ops listed i = true) (hr : ((Region.ready md ops listed).contains i && tl.all fun j => deepWaits md ops ops.size j i) = true)
    (hw : Region.wanted o (yielded ops a.tmps) = true) (hv : ∀ w1, Below w0.heap.size w0 w1 → (execOp a.eval o).run P w1 = .ok (.enter f args) w1)
    (hc : ∀ w1, Below w0.heap.size w0 w1 → Calls P f args w1 (fun e w2 => ∃ p, e = .returned (val p) ∧ MadeAt w1 w2 p obj))
    (h : ∀ p, Fresh w0 env p → PL P ops md w0 E tl (i + 1) l r (ins ⟨i, p, obj⟩ env) (listed.setIfInBounds i true) (a.put o.dst (val p))) : PL P ops md w0 E tl i (o :: l) (.make i obj val :: r) env listed a :=
  ⟨fun ha => ⟨fun oi hoi => by obtain rfl := Option.some.inj ((agree_head ha).symm.trans hoi); exact Region.free_spec (agree_head ha) hf, rdy_of hr, fun t _ => by cases t <;> rfl, o, agree_head ha, hw, fun w hb => by rw [hv w hb]; exact ⟨rfl, hc w hb⟩, fun p hp => (h p hp).out (agree_tail ha)⟩⟩
/-- A store of cells into a block that the region has made. -/
theorem plan_put {i k p : Nat} {o : Oper} {l : List Oper} {obj obj' : Obj} {r : List Spec} {env : Made → Prop} {listed : Array Bool} {a : Act} (hf : Region.free md ops listed i = true) (hr : ((Region.ready md ops listed).contains i && tl.all fun j => deepWaits md ops ops.size j i) = true)
    (hp : r.all (mayPass md ops (.put i k obj')) = true) (hk : has md ops i k = true) (hw : Region.wanted o (yielded ops a.tmps) = true) (hx : env ⟨k, p, obj⟩)
    (hv : ∀ w1, w0.heap.size ≤ p → w1.heap[p]? = some obj → ∃ w', (execOp a.eval o).run P w1 = .ok .skip w' ∧ Stored p obj' w1 w')
    (h : PL P ops md w0 E tl (i + 1) l r (upd k obj' env) (listed.setIfInBounds i true) (a.put o.dst undef)) : PL P ops md w0 E tl i (o :: l) (.put i k obj' :: r) env listed a :=
  ⟨fun ha => ⟨fun oi hoi => by obtain rfl := Option.some.inj ((agree_head ha).symm.trans hoi); exact Region.free_spec (agree_head ha) hf, rdy_of hr, List.all_eq_true.1 hp, o, agree_head ha, hk, hw, ⟨⟨k, p, obj⟩, hx, rfl, fun w hC => hv w (hC.2 _ rfl).1 (hC.2 _ rfl).2.2⟩, h.out (agree_tail ha)⟩⟩
theorem plan_done {Q : Exit → Act → World → Prop} {k : Nat} {env : Made → Prop} {listed : Array Bool} {a : Act} (hr : Region.ready md ops listed = []) (h : ∀ w, Cl w0 env w → Q .normal a w) : PL P ops md w0 (EndW P ops md Q) [] k [] [] env listed a := ⟨fun _ => ⟨fun j hj => by rw [hr] at hj; exact hj, fun w hC => ⟨hr, h w hC⟩⟩⟩
end
theorem cells1_of {w : World} {p : Nat} {c0 : Value} {t : TypeId} (h : w.heap[p]? = some (.cells #[c0] t (0, 0))) :
    w.cell? ⟨p, 0, none⟩ = some c0 ∧ w.frozen? ⟨p, 0, none⟩ = false := by
  refine ⟨?_, ?_⟩ <;> simp [World.cell?, World.frozen?, h]
theorem stored1 {w : World} {p : Nat} {c0 x0 : Value} {t : TypeId} (h : w.heap[p]? = some (.cells #[c0] t (0, 0))) : Stored p (.cells #[x0] t (0, 0)) w (w.setCell ⟨p, 0, none⟩ x0) := by
  have h0 := heap_setCell_same _ p 0 _ _ x0 h
  refine ⟨rfl, rfl, rfl, ?_, ?_, fun k hk => ?_⟩
  · simp [World.setCell]
  · rw [h0]; simp
  · rw [Below.heap_setCell _ _ _ _ (by simpa using hk)]
theorem cells2_of {w : World} {p : Nat} {c0 c1 : Value} {t : TypeId} (h : w.heap[p]? = some (.cells #[c0, c1] t (0, 0))) :
    w.cell? ⟨p, 0, none⟩ = some c0 ∧ w.frozen? ⟨p, 0, none⟩ = false ∧ w.cell? ⟨p, 1, none⟩ = some c1 ∧ w.frozen? ⟨p, 1, none⟩ = false := by
  refine ⟨?_, ?_, ?_, ?_⟩ <;> simp [World.cell?, World.frozen?, h]
theorem stored2 {w : World} {p : Nat} {c0 c1 x0 x1 : Value} {t : TypeId} (h : w.heap[p]? = some (.cells #[c0, c1] t (0, 0))) : Stored p (.cells #[x0, x1] t (0, 0)) w ((w.setCell ⟨p, 0, none⟩ x0).setCell ⟨p, 1, none⟩ x1) := by
  have h0 := heap_setCell_same _ p 0 _ _ x0 h
  have h1 := heap_setCell_same _ p 1 _ _ x1 h0
  refine ⟨rfl, rfl, rfl, ?_, ?_, fun k hk => ?_⟩
  · simp [World.setCell]
  · rw [h1]; simp
  · rw [Below.heap_setCell _ _ _ _ (by simpa using hk), Below.heap_setCell _ _ _ _ (by simpa using hk)]
theorem cells4_of {w : World} {p : Nat} {c0 c1 c2 c3 : Value} {t : TypeId} (h : w.heap[p]? = some (.cells #[c0, c1, c2, c3] t (0, 0))) :
    w.cell? ⟨p, 0, none⟩ = some c0 ∧ w.frozen? ⟨p, 0, none⟩ = false ∧ w.cell? ⟨p, 1, none⟩ = some c1 ∧ w.frozen? ⟨p, 1, none⟩ = false ∧ w.cell? ⟨p, 2, none⟩ = some c2 ∧ w.frozen? ⟨p, 2, none⟩ = false ∧ w.cell? ⟨p, 3, none⟩ = some c3 ∧ w.frozen? ⟨p, 3, none⟩ = false := by
  refine ⟨?_, ?_, ?_, ?_, ?_, ?_, ?_, ?_⟩ <;> simp [World.cell?, World.frozen?, h]
theorem stored4 {w : World} {p : Nat} {c0 c1 c2 c3 x0 x1 x2 x3 : Value} {t : TypeId} (h : w.heap[p]? = some (.cells #[c0, c1, c2, c3] t (0, 0))) : Stored p (.cells #[x0, x1, x2, x3] t (0, 0)) w ((((w.setCell ⟨p, 0, none⟩ x0).setCell ⟨p, 1, none⟩ x1).setCell ⟨p, 2, none⟩ x2).setCell ⟨p, 3, none⟩ x3) := by
  have h0 := heap_setCell_same _ p 0 _ _ x0 h
  have h1 := heap_setCell_same _ p 1 _ _ x1 h0
  have h2 := heap_setCell_same _ p 2 _ _ x2 h1
  have h3 := heap_setCell_same _ p 3 _ _ x3 h2
  refine ⟨rfl, rfl, rfl, ?_, ?_, fun k hk => ?_⟩
  · simp [World.setCell]
  · rw [h3]; simp
  · rw [Below.heap_setCell _ _ _ _ (by simpa using hk), Below.heap_setCell _ _ _ _ (by simpa using hk), Below.heap_setCell _ _ _ _ (by simpa using hk), Below.heap_setCell _ _ _ _ (by simpa using hk)]
theorem cells3_of {w : World} {p : Nat} {c0 c1 c2 : Value} {t : TypeId} (h : w.heap[p]? = some (.cells #[c0, c1, c2] t (0, 0))) :
    w.cell? ⟨p, 0, none⟩ = some c0 ∧ w.frozen? ⟨p, 0, none⟩ = false ∧ w.cell? ⟨p, 1, none⟩ = some c1 ∧ w.frozen? ⟨p, 1, none⟩ = false ∧ w.cell? ⟨p, 2, none⟩ = some c2 ∧ w.frozen? ⟨p, 2, none⟩ = false := by
  refine ⟨?_, ?_, ?_, ?_, ?_, ?_⟩ <;> simp [World.cell?, World.frozen?, h]
end Go.Proofs.YtmfchcaidfloaaaDoor
