/-
  OWN TEXTS of this seat, put together, part 1: Abs, Ops, Ops2, Ops3, Ops4, Short, Law, Num, Sha, Law2, Range, Eq, Flat, Vals, Fresh, Mark, Var, Write, Scope, Nest.
-/
import Derived.WalkKit
import Derived.RegionTactic
import Derived.Deep.Draws
import Derived.TacticsIn
import Derived.OrdersIn
import Derived.RangeFuncLeaves
import Derived.Great.BuildSlice
import Derived.Maps.AppendAt
import Derived.ArgAppend
import Derived.Laws.Tables
import Derived.Laws.Rows
import Derived.Deep.MidRow
import Derived.OpenShut
import Derived.ChangeSlices
import Derived.RangeFuncOwn
import Derived.ChangeKeysEq
import Derived.Laws.StructEq
import Derived.Laws.IdiomStrings
import Derived.Scope
namespace Go.Proofs.Ytggijkmlmklneaa
open Go Go.RowKit

/-! ### Worlds that grow -/
def Grow (w w' : World) : Prop := Below w.heap.size w w'
theorem Grow.refl (w : World) : Grow w w := Below.refl _ _
theorem Grow.trans {a b c : World} (h : Grow a b) (k : Grow b c) : Grow a c := Below.trans h (Below.mono k h.size)
theorem Grow.drew {a w : World} (h : Grow a w) : Grow a w.drew := Below.drew h
theorem Grow.alloc (w : World) (o : Obj) : Grow w (w.alloc o) := (Below.refl _ _).alloc (Nat.le_refl _) o

/-! ### What is known of a value -/
inductive D where
  | v (x : Value)
  | p (F : Nat → World → Value → Prop) (keep : ∀ B w w' x, Below B w w' → F B w x → F B w' x) (up : ∀ B B' w x, B ≤ B' → F B w x → F B' w x)

/-- The memory that the fact speaks of lies below block B. -/
def D.OfB : D → Nat → World → Value → Prop
  | .v y, _, _, x => x = y
  | .p F _ _, B, w, x => F B w x
def D.Of (d : D) (w : World) (x : Value) : Prop := d.OfB w.heap.size w x
theorem D.OfB.keep {d : D} {B : Nat} {w w' : World} {x : Value} (h : d.OfB B w x) (g : Below B w w') : d.OfB B w' x := by
  cases d with
  | v y => exact h
  | p F k u => exact k B w w' x g h
theorem D.OfB.up {d : D} {B B' : Nat} {w : World} {x : Value} (h : d.OfB B w x) (g : B ≤ B') : d.OfB B' w x := by
  cases d with
  | v y => exact h
  | p F k u => exact u B B' w x g h
theorem D.Of.grow {d : D} {w w' : World} {x : Value} (h : d.Of w x) (g : Grow w w') : d.Of w' x := (D.OfB.keep h g).up g.size

abbrev Env := List (Nat × D)
def Env.look : Env → Nat → Option D
  | [], _ => none
  | (s, d) :: r, t => cond (Nat.beq s t) (some d) (Env.look r t)
def Env.at (E : Env) : Operand → Option D
  | .tmp t => E.look t
  | .const c => some (.v c)
  | .global g => some (.v (.pointer (some ⟨g, 0, none⟩)))
  | .func f => some (.v (.func (.func f) #[] #[]))
theorem look_here (E : Env) (t : Nat) (d : D) : Env.look ((t, d) :: E) t = some d := by simp [Env.look]
theorem look_past (E : Env) {s t : Nat} (d : D) (h : s ≠ t) : Env.look ((s, d) :: E) t = E.look t := by
  have h0 : Nat.beq s t = false := by
    cases hb : Nat.beq s t with
    | false => rfl
    | true => exact absurd (Nat.eq_of_beq_eq_true hb) h
  simp [Env.look, h0]

/-- Where code stands: in a round of a range over a function (which one's), and what its frame has deferred. -/
structure Cx where
  rd : Option Nat
  df : List Deferred
def Cx.top : Cx := ⟨none, []⟩
/-- No fence at all, in a round or not. -/
def FR (r : Option Nat) : Fence := { Fence.wide with round := r }
theorem callsIn_FR {r : Option Nat} {m : Nat} {P : Program} {f : FuncId} {args : Array Value} {w : World} {R : Ending → World → Prop} : CallsIn (FR r) m P f args w R ↔ Calls P f args w R := callsIn_wide (n := m)
theorem not_defer {P : Program} {o : Oper} {ρ : Operand → Value} {w w' : World} {v : Value} (h : (execOp ρ o).run P w = .ok (.value v) w') : ∀ c, o.op ≠ .defer c := fun c hc => by
  simp [execOp, hc] at h
  cases hr : Sem.run P (resolve ρ c o.type) w with
  | ok d w' => rw [hr] at h; cases h
  | halt x w' => rw [hr] at h; cases h
/-- An operation's walk, in a round too. -/
theorem opR {r : Option Nat} {P : Program} {o : Oper} {a : Act} {w : World} {K : Act → World → Prop} {Q : Exit → Act → World → Prop} (hnd : ∀ c, o.op ≠ .defer c) (h : o.wp P a w K Q) : o.wpIn (FR r) 0 P a w K Q := by
  refine ⟨fun _ _ => trivial, ?_⟩
  rw [Oper.semAt_eq _ _ _ hnd]
  unfold Oper.wp at h
  generalize (execOp a.eval o).run P w = res at h ⊢
  cases res with
  | ok x w' =>
    cases x with
    | value v => exact h
    | skip => exact h
    | defer d => exact h
    | enter f args => exact ⟨(fun e => absurd e (by simp [FR, Fence.wide])), callsIn_FR.2 h⟩
    | row row args => exact ⟨(fun e => absurd e (by simp [FR, Fence.wide])), fun c cs _ => by
      obtain ⟨v, w', r, s⟩ := h c cs
      exact ⟨v, w', r, stepsIn_wide.2 s⟩⟩
    | _ => exact h.elim
  | halt x w' =>
    cases x with
    | panic v => exact h
    | _ => exact h.elim
variable {κ : Cx}
/-- The frame has n slots, what is deferred is known, the slots are as the environment says, and the heap has at least B blocks (B: how many there were when the function was called). -/
structure St (κ : Cx) (n B : Nat) (E : Env) (a : Act) (w : World) : Prop where
  base : B ≤ w.heap.size
  defers : a.defers = κ.df
  size : a.tmps.size = n
  of : ∀ t d, E.look t = some d → d.Of w (a.tmps.getD t undef)
theorem St.grow {n B : Nat} {E : Env} {a : Act} {w w' : World} (h : St κ n B E a w) (g : Grow w w') : St κ n B E a w' :=
  ⟨Nat.le_trans h.base g.size, h.defers, h.size, fun t d hd => (h.of t d hd).grow g⟩
theorem St.at_ {n B : Nat} {E : Env} {a : Act} {w : World} (h : St κ n B E a w) (x : Operand) (d : D) (hd : E.at x = some d) : d.Of w (a.eval x) := by
  cases x with
  | tmp t => exact h.of t d hd
  | const c => simp only [Env.at, Option.some.injEq] at hd; subst hd; rfl
  | global g => simp only [Env.at, Option.some.injEq] at hd; subst hd; rfl
  | func f => simp only [Env.at, Option.some.injEq] at hd; subst hd; rfl
theorem getD_put_here (a : Act) {t : Nat} (x : Value) (h : t < a.tmps.size) : (a.put (some t) x).tmps.getD t undef = x := by
  simp [Act.put, h]
theorem getD_put_past (a : Act) {s t : Nat} (x : Value) (h : s ≠ t) : (a.put (some s) x).tmps.getD t undef = a.tmps.getD t undef := by
  simp [Act.put, Array.getElem?_setIfInBounds_ne h]
theorem St.put {n B : Nat} {E : Env} {a : Act} {w : World} (h : St κ n B E a w) {t : Nat} {d : D} {x : Value} (ht : t < n) (hx : d.Of w x) : St κ n B ((t, d) :: E) (a.put (some t) x) w := by
  refine ⟨h.base, h.defers, by simp [Act.put, h.size], fun s e he => ?_⟩
  by_cases hs : t = s
  · subst hs
    rw [look_here] at he
    injection he with he
    subst he
    rw [getD_put_here _ _ (by rw [h.size]; exact ht)]
    exact hx
  · rw [look_past _ _ hs] at he
    rw [getD_put_past _ _ hs]
    exact h.of s e he
/-- The smaller environment says no more than the greater. -/
def Sub (E' E : Env) : Prop := ∀ p ∈ E', E.look p.1 = some p.2
theorem Sub.nil {E : Env} : Sub [] E := fun _ h => by cases h
theorem Sub.cons {E' E : Env} {t : Nat} {d : D} (h : E.look t = some d) (hs : Sub E' E) : Sub ((t, d) :: E') E := fun p hp => by
  rcases List.mem_cons.1 hp with rfl | hp
  · exact h
  · exact hs p hp
theorem look_mem {E : Env} {t : Nat} {d : D} (h : E.look t = some d) : (t, d) ∈ E := by
  induction E with
  | nil => cases h
  | cons p r ih =>
    obtain ⟨s, e⟩ := p
    by_cases hs : s = t
    · subst hs; rw [look_here] at h; injection h with h; subst h; exact List.mem_cons_self
    · rw [look_past _ _ hs] at h; exact List.mem_cons_of_mem _ (ih h)
theorem St.sub {n B : Nat} {E E' : Env} {a : Act} {w : World} (h : St κ n B E a w) (hs : Sub E' E) : St κ n B E' a w :=
  ⟨h.base, h.defers, h.size, fun t d hd => h.of t d (hs (t, d) (look_mem hd))⟩

/-! ### One operation -/
def Out (P : Program) (o : Oper) (ρ : Operand → Value) (w : World) (K : Value → World → Prop) : Prop :=
  match (execOp ρ o).run P w with
  | .ok (.value x) w' => K x w'
  | .ok (.enter f args) w' => Calls P f args w' fun e w'' => ∃ x, e = .returned x ∧ K x w''
  | _ => False
/-- Numbers from here on are no slots': under them stand facts on memory alone. -/
def vbase : Nat := 1000000
def OpOk (P : Program) (B : Nat) (o : Oper) (E : Env) (d : D) : Prop :=
  ∀ (ρ : Operand → Value) (w : World), B ≤ w.heap.size → (∀ t e, vbase ≤ t → E.look t = some e → e.Of w undef) → (∀ x, x ∈ o.op.operands → ∀ e, E.at x = some e → e.Of w (ρ x)) → Out P o ρ w fun x w' => Grow w w' ∧ d.Of w' x
def GuardIs (ops : Array Oper) (E : Env) (o : Oper) (b : Bool) : Prop :=
  match o.guard with
  | none => b = true
  | some (j, want) => ∃ t, ((ops[j]?).bind (·.dst)) = some t ∧ ((∃ c, E.look t = some (.v (.bool c)) ∧ b = (c == want)) ∨ (E.look t = some (.v undef) ∧ b = false))
def Good (P : Program) (B : Nat) (ops : Array Oper) (o : Oper) (E : Env) (d : D) : Prop :=
  (GuardIs ops E o true ∧ OpOk P B o E d) ∨ (GuardIs ops E o false ∧ d = .v undef)

/-- The region gone through in the order of the text. -/
inductive Run (P : Program) (B : Nat) (ops : Array Oper) : List Oper → Env → Env → Prop
  | nil {E : Env} : Run P B ops [] E E
  | cons {o : Oper} {rest : List Oper} {E E' : Env} {t : Nat} {d : D} (ht : o.dst = some t) (hg : Good P B ops o E d) (hr : Run P B ops rest ((t, d) :: E) E') : Run P B ops (o :: rest) E E'
theorem Run.step {P : Program} {B : Nat} {ops : Array Oper} {o : Oper} {rest : List Oper} {E E' : Env} {t : Nat} {d : D} (ht : o.dst = some t) (hg : o.guard = none) (h : OpOk P B o E d) (hr : Run P B ops rest ((t, d) :: E) E') : Run P B ops (o :: rest) E E' :=
  .cons ht (.inl ⟨by simp [GuardIs, hg], h⟩) hr
theorem Run.guarded {P : Program} {B : Nat} {ops : Array Oper} {o : Oper} {rest : List Oper} {E E' : Env} {t : Nat} {d : D} {j : Nat} {want : Bool} {s : Nat} (ht : o.dst = some t) (hg : o.guard = some (j, want)) (hj : ((ops[j]?).bind (·.dst)) = some s)
    (hE : E.look s = some (.v (.bool want))) (h : OpOk P B o E d) (hr : Run P B ops rest ((t, d) :: E) E') : Run P B ops (o :: rest) E E' :=
  .cons ht (.inl ⟨by simp only [GuardIs, hg]; exact ⟨s, hj, .inl ⟨want, hE, by cases want <;> rfl⟩⟩, h⟩) hr
theorem Run.skipped {P : Program} {B : Nat} {ops : Array Oper} {o : Oper} {rest : List Oper} {E E' : Env} {t : Nat} {j : Nat} {want c : Bool} {s : Nat} (ht : o.dst = some t) (hg : o.guard = some (j, want)) (hj : ((ops[j]?).bind (·.dst)) = some s)
    (hE : E.look s = some (.v (.bool c))) (hc : (c == want) = false) (hr : Run P B ops rest ((t, .v undef) :: E) E') : Run P B ops (o :: rest) E E' :=
  .cons ht (.inr ⟨by simp only [GuardIs, hg]; exact ⟨s, hj, .inl ⟨c, hE, hc.symm⟩⟩, rfl⟩) hr
/-- An operation whose guard was itself not carried out. -/
theorem Run.skippedU {P : Program} {B : Nat} {ops : Array Oper} {o : Oper} {rest : List Oper} {E E' : Env} {t : Nat} {j : Nat} {want : Bool} {s : Nat} (ht : o.dst = some t) (hg : o.guard = some (j, want)) (hj : ((ops[j]?).bind (·.dst)) = some s)
    (hE : E.look s = some (.v undef)) (hr : Run P B ops rest ((t, .v undef) :: E) E') : Run P B ops (o :: rest) E E' :=
  .cons ht (.inr ⟨by simp only [GuardIs, hg]; exact ⟨s, hj, .inr ⟨hE, trivial⟩⟩, rfl⟩) hr

section
variable {P : Program} {B : Nat} {ops : Array Oper} {Q : Exit → Act → World → Prop}

theorem wpListR_step {o : Oper} {rest : List Oper} {a : Act} {w : World} (h : ∀ K : Act → World → Prop, (∀ a w, wpListIn (FR κ.rd) 0 P ops Q rest a w → K a w) → if Region.wanted o (yielded ops a.tmps) = true then o.wpIn (FR κ.rd) 0 P a w K Q else K (a.put o.dst undef) w) : wpListIn (FR κ.rd) 0 P ops Q (o :: rest) a w := by
  refine wpListIn_step fun K hK => ?_
  have := h K hK
  split
  · rename_i hw; rwa [if_pos hw] at this
  · rename_i hw; rw [if_neg hw] at this; exact ⟨fun _ _ => trivial, this⟩
theorem wpOpR_step {i : Nat} {o : Oper} {K : Act → World → Prop} {a : Act} {w : World} (ho : ops[i]? = some o) (h : ∀ K' : Act → World → Prop, (∀ a w, K a w → K' a w) → if Region.wanted o (yielded ops a.tmps) = true then o.wpIn (FR κ.rd) 0 P a w K' Q else K' (a.put o.dst undef) w) : wpOpIn (FR κ.rd) 0 P ops Q i K a w := by
  have := h K (fun _ _ h => h)
  unfold wpOpIn
  rw [ho]
  show if Region.wanted o (yielded ops a.tmps) = true then _ else _
  split
  · rename_i hw; rwa [if_pos hw] at this
  · rename_i hw; rw [if_neg hw] at this; exact ⟨fun _ _ => trivial, this⟩

theorem wp_of_out {o : Oper} {a : Act} {w : World} {K : Act → World → Prop} {t : Nat} (ht : o.dst = some t) (h : Out P o a.eval w fun x w' => K (a.put (some t) x) w') : o.wpIn (FR κ.rd) 0 P a w K Q := by
  unfold Out at h
  refine opR (fun c hc => ?_) ?_
  · simp [execOp, hc] at h
    cases hr : Sem.run P (resolve a.eval c o.type) w with
    | ok d w' => rw [hr] at h; exact h.elim
    | halt x w' => rw [hr] at h; exact h.elim
  unfold Oper.wp
  split at h
  · rename_i hr; rw [hr, Oper.upon_value, ht]; exact h
  · rename_i hr
    rw [hr, Oper.upon_enter]
    refine Calls.mono h ?_
    rintro e w' ⟨x, rfl, hk⟩
    rw [ht]; exact hk
  · exact h.elim
theorem Out.mono {o : Oper} {ρ : Operand → Value} {w : World} {K K' : Value → World → Prop} (h : Out P o ρ w K) (hk : ∀ x w', K x w' → K' x w') : Out P o ρ w K' := by
  unfold Out at *
  split at h
  · exact hk _ _ h
  · exact Calls.mono h fun e w' ⟨x, he, hx⟩ => ⟨x, he, hk _ _ hx⟩
  · exact h.elim
theorem wanted_of {E : Env} {o : Oper} {a : Act} {b : Bool} (hg : GuardIs ops E o b) (hl : ∀ t d, t ∈ o.looksAt ops → E.look t = some d → ∀ w, d.Of w (a.tmps.getD t undef) ∨ ∃ F k u, d = .p F k u) (hsz : ∀ t, t ∈ o.looksAt ops → t < a.tmps.size) :
    Region.wanted o (yielded ops a.tmps) = b := by
  unfold GuardIs at hg
  unfold Region.wanted
  cases hgd : o.guard with
  | none => rw [hgd] at hg; simp only at hg; subst hg; rfl
  | some gw =>
    obtain ⟨j, want⟩ := gw
    rw [hgd] at hg
    obtain ⟨t, hj, hE⟩ := hg
    have hin : t ∈ o.looksAt ops := by simp [Oper.looksAt, hgd, hj]
    have hsz' := hsz t hin
    rcases hE with ⟨c, hE, rfl⟩ | ⟨hE, rfl⟩
    · have h1 := (hl t _ hin hE default).resolve_right (by rintro ⟨F, k, u, h⟩; cases h)
      have h2 : a.tmps[t]? = some (.bool c) := by
        have h3 : a.tmps.getD t undef = .bool c := h1
        simp [hsz'] at h3
        simp [hsz', h3]
      simp only [yielded, hj, Option.bind_some, h2]
      cases c <;> cases want <;> rfl
    · have h1 := (hl t _ hin hE default).resolve_right (by rintro ⟨F, k, u, h⟩; cases h)
      have h2 : a.tmps[t]? = some undef := by
        have h3 : a.tmps.getD t undef = undef := h1
        simp [hsz'] at h3
        simp [hsz', h3]
      simp only [yielded, hj, Option.bind_some, h2]
      cases want <;> rfl

/-- The slots that an operation looks at are in the frame. -/
def fits (n : Nat) (ops : Array Oper) : Bool := decide (n ≤ vbase) && ops.all fun o => (o.looksAt ops).all (fun t => decide (t < n)) && (match o.dst with | some t => decide (t < n) | none => true)

theorem good_wp {E : Env} {o : Oper} {a : Act} {w : World} {K : Act → World → Prop} {t : Nat} {d : D} (hB : B ≤ w.heap.size) (hvirt : ∀ t e, vbase ≤ t → E.look t = some e → e.Of w undef) (ht : o.dst = some t) (hg : Good P B ops o E d)
    (hl : ∀ s e, s ∈ o.looksAt ops → E.look s = some e → e.Of w (a.tmps.getD s undef)) (hsz : ∀ s, s ∈ o.looksAt ops → s < a.tmps.size)
    (hK : ∀ x w', Grow w w' → d.Of w' x → K (a.put (some t) x) w') :
    if Region.wanted o (yielded ops a.tmps) = true then o.wpIn (FR κ.rd) 0 P a w K Q else K (a.put o.dst undef) w := by
  have hl' : ∀ s e, s ∈ o.looksAt ops → E.look s = some e → ∀ w, e.Of w (a.tmps.getD s undef) ∨ ∃ F k u, e = .p F k u := fun s e hs he w' => by
    cases e with
    | v y => exact .inl (hl s _ hs he)
    | p F k u => exact .inr ⟨F, k, u, rfl⟩
  rcases hg with ⟨hg, hok⟩ | ⟨hg, rfl⟩
  · rw [wanted_of hg hl' hsz, if_pos rfl]
    refine wp_of_out ht ((hok a.eval w hB hvirt fun x hx e he => ?_).mono fun x w' h => hK x w' h.1 h.2)
    cases x with
    | tmp s => exact hl s e (List.mem_append_left _ (List.mem_filterMap.2 ⟨.tmp s, by simpa using hx, rfl⟩)) he
    | const c => simp only [Env.at, Option.some.injEq] at he; subst he; rfl
    | global g => simp only [Env.at, Option.some.injEq] at he; subst he; rfl
    | func f => simp only [Env.at, Option.some.injEq] at he; subst he; rfl
  · rw [wanted_of hg hl' hsz, if_neg (by simp), ht]
    exact hK undef w (Grow.refl w) rfl

/-- What the operations of the text before number i have left in the environment. -/
inductive Trace (P : Program) (B : Nat) (ops : Array Oper) : List Oper → Env → List D → Env → Prop
  | nil {E : Env} : Trace P B ops [] E [] E
  | cons {o : Oper} {rest : List Oper} {E E' : Env} {t : Nat} {d : D} {ds : List D} (ht : o.dst = some t) (hg : Good P B ops o E d) (hr : Trace P B ops rest ((t, d) :: E) ds E') : Trace P B ops (o :: rest) E (d :: ds) E'
theorem Run.trace {rest : List Oper} {E E' : Env} (h : Run P B ops rest E E') : ∃ ds, Trace P B ops rest E ds E' := by
  induction h with
  | nil => exact ⟨[], .nil⟩
  | cons ht hg _ ih => obtain ⟨ds, h⟩ := ih; exact ⟨_, .cons ht hg h⟩
/-- Number i of the rest: it is good in an environment whose every slot comes from an earlier operation, or is as at the start. -/
theorem Trace.nth {rest : List Oper} {E E' : Env} {ds : List D} (h : Trace P B ops rest E ds E') : ∀ {i : Nat} {o : Oper}, rest[i]? = some o →
    ∃ t d Ei, o.dst = some t ∧ ds[i]? = some d ∧ Good P B ops o Ei d ∧ ∀ s e, Ei.look s = some e →
      (∃ j o', j < i ∧ rest[j]? = some o' ∧ o'.dst = some s ∧ ds[j]? = some e) ∨ ((∀ j o', j < i → rest[j]? = some o' → o'.dst ≠ some s) ∧ E.look s = some e) := by
  induction h with
  | nil => intro i o hi; simp at hi
  | @cons o0 rest E E' t0 d0 ds ht hg hr ih =>
    intro i o hi
    cases i with
    | zero =>
      simp at hi; subst hi
      exact ⟨t0, d0, E, ht, rfl, hg, fun s e he => .inr ⟨fun j _ hj => by omega, he⟩⟩
    | succ i =>
      obtain ⟨t, d, Ei, h1, h2, h3, h4⟩ := ih (i := i) (by simpa using hi)
      refine ⟨t, d, Ei, h1, by simpa using h2, h3, fun s e he => ?_⟩
      rcases h4 s e he with ⟨j, o', hj, ho', hd, hds⟩ | ⟨hno, hl⟩
      · exact .inl ⟨j + 1, o', by omega, by simpa using ho', hd, by simpa using hds⟩
      · by_cases hs : t0 = s
        · subst hs
          rw [look_here] at hl
          exact .inl ⟨0, o0, by omega, rfl, ht, by simpa using hl⟩
        · rw [look_past _ _ hs] at hl
          refine .inr ⟨fun j o' hj ho' => ?_, hl⟩
          cases j with
          | zero => simp at ho'; subst ho'; rw [ht]; intro h; injection h with h; exact hs h
          | succ j => exact hno j o' (by omega) (by simpa using ho')
theorem Trace.last {rest : List Oper} {E E' : Env} {ds : List D} (h : Trace P B ops rest E ds E') : ∀ s e, E'.look s = some e →
      (∃ (j : Nat) (o' : Oper), rest[j]? = some o' ∧ o'.dst = some s ∧ ds[j]? = some e) ∨ ((∀ (j : Nat) (o' : Oper), rest[j]? = some o' → o'.dst ≠ some s) ∧ E.look s = some e) := by
  induction h with
  | nil => intro s e he; exact .inr ⟨fun j _ hj => by simp at hj, he⟩
  | @cons o0 rest E E' t0 d0 ds ht hg hr ih =>
    intro s e he
    rcases ih s e he with ⟨j, o', ho', hd, hds⟩ | ⟨hno, hl⟩
    · exact .inl ⟨j + 1, o', by simpa using ho', hd, by simpa using hds⟩
    · by_cases hs : t0 = s
      · subst hs
        rw [look_here] at hl
        exact .inl ⟨0, o0, rfl, ht, by simpa using hl⟩
      · rw [look_past _ _ hs] at hl
        refine .inr ⟨fun j o' ho' => ?_, hl⟩
        cases j with
        | zero => simp at ho'; subst ho'; rw [ht]; intro h; injection h with h; exact hs h
        | succ j => exact hno j o' (by simpa using ho')

/-- Whoever looks at a slot of the region, or writes it, is ordered against whoever writes it; edges go to what stands earlier in the text. -/
def tied (ops : Array Oper) : Bool :=
  (List.range ops.size).all fun i => match ops[i]? with
    | none => false
    | some o => o.after.all (fun e => !Region.binds .any e || decide (e.on < i)) &&
      (List.range ops.size).all fun j => match ops[j]? with
        | none => false
        | some p => match p.dst with
          | none => true
          | some t => j == i || ((o.dst != some t) && (!(o.looksAt ops).contains t ||
              (if j < i then o.after.any (fun e => Region.binds .any e && e.on == j) else p.after.any (fun e => Region.binds .any e && e.on == i))))
theorem tied_edge (h : tied ops = true) {i : Nat} {o : Oper} (hi : ops[i]? = some o) {e : Edge} (he : e ∈ o.after) (hb : Region.binds .any e = true) : e.on < i := by
  have hlt : i < ops.size := (Array.getElem?_eq_some_iff.1 hi).1
  have h1 := List.all_eq_true.1 h i (List.mem_range.2 hlt)
  simp only [hi, Bool.and_eq_true] at h1
  have h2 := Array.all_eq_true_iff_forall_mem.1 h1.1 e he
  simpa [hb] using h2
theorem tied_pair (h : tied ops = true) {i j : Nat} {o p : Oper} (hi : ops[i]? = some o) (hj : ops[j]? = some p) {t : Nat} (ht : p.dst = some t) (hne : j ≠ i) :
    o.dst ≠ some t ∧ (t ∈ o.looksAt ops → (j < i → ∃ e ∈ o.after, Region.binds .any e = true ∧ e.on = j) ∧ (i < j → ∃ e ∈ p.after, Region.binds .any e = true ∧ e.on = i)) := by
  have hlt : i < ops.size := (Array.getElem?_eq_some_iff.1 hi).1
  have hlt' : j < ops.size := (Array.getElem?_eq_some_iff.1 hj).1
  have h1 := List.all_eq_true.1 h i (List.mem_range.2 hlt)
  simp only [hi, Bool.and_eq_true] at h1
  have h2 := List.all_eq_true.1 h1.2 j (List.mem_range.2 hlt')
  simp only [hj, ht, Bool.or_eq_true, beq_iff_eq, hne, false_or, Bool.and_eq_true, bne_iff_ne, ne_eq] at h2
  refine ⟨h2.1, fun hin => ?_⟩
  have h3 := h2.2.resolve_left (by simp [hin])
  constructor
  · intro hji
    rw [if_pos hji] at h3
    obtain ⟨e, he, hb⟩ := Array.any_eq_true'.1 h3
    simp only [Bool.and_eq_true, beq_iff_eq] at hb
    exact ⟨e, he, hb.1, hb.2⟩
  · intro hij
    rw [if_neg (by omega)] at h3
    obtain ⟨e, he, hb⟩ := Array.any_eq_true'.1 h3
    simp only [Bool.and_eq_true, beq_iff_eq] at hb
    exact ⟨e, he, hb.1, hb.2⟩

def unlisted (ops : Array Oper) (listed : Array Bool) : Nat := (List.range ops.size).countP fun i => !listed.getD i true
theorem countP_lt {l : List Nat} {p q : Nat → Bool} (h : ∀ x, q x = true → p x = true) {x : Nat} (hx : x ∈ l) (px : p x = true) (nq : q x = false) : l.countP q < l.countP p := by
  induction l with
  | nil => cases hx
  | cons y l ih =>
    have hle : l.countP q ≤ l.countP p := List.countP_mono_left fun z _ hz => h z hz
    by_cases hy : x = y
    · subst hy
      rw [List.countP_cons_of_pos px, List.countP_cons_of_neg (by simp [nq])]
      omega
    · have := ih (by simpa [hy] using hx)
      rw [List.countP_cons, List.countP_cons]
      by_cases hq : q y = true
      · simp [hq, h y hq]; exact this
      · simp [hq]; split <;> omega

/-- An operation that changes memory below what it finds, from block B on; it leaves a new environment. -/
def Eff (P : Program) (n B : Nat) (ops : Array Oper) (o : Oper) (E E' : Env) : Prop :=
  ∀ (κ : Cx) (a : Act) (w : World) (K : Act → World → Prop) (Q : Exit → Act → World → Prop), St κ n B E a w → (∀ a' w', Below B w w' → St κ n B E' a' w' → K a' w') →
    if Region.wanted o (yielded ops a.tmps) = true then o.wpIn (FR κ.rd) 0 P a w K Q else K (a.put o.dst undef) w

/-- The same, where what it leaves depends on something that is new (a block's number). -/
def EffG (P : Program) (n B : Nat) (ops : Array Oper) (o : Oper) (E : Env) {ι : Type} (G : ι → Prop) (E' : ι → Env) : Prop :=
  ∀ (κ : Cx) (a : Act) (w : World) (K : Act → World → Prop) (Q : Exit → Act → World → Prop), St κ n B E a w → (∀ i a' w', G i → Below B w w' → St κ n B (E' i) a' w' → K a' w') →
    if Region.wanted o (yielded ops a.tmps) = true then o.wpIn (FR κ.rd) 0 P a w K Q else K (a.put o.dst undef) w
theorem Eff.g {n : Nat} {o : Oper} {E E' : Env} (h : Eff P n B ops o E E') : EffG P n B ops o E (fun _ : Unit => True) (fun _ => E') :=
  fun κ a w K Q hs hK => h κ a w K Q hs fun a' w' g h' => hK () a' w' trivial g h'

/-- An effect behind a guard that lets it be carried out. -/
theorem Eff.guarded {n : Nat} {dst : Option Tmp} {op : Op} {ty : TypeId} {pos : String} {after : Array Edge} {E E' : Env} {j : Nat} {want : Bool} {s : Nat} (hj : ((ops[j]?).bind (·.dst)) = some s) (hE : E.look s = some (.v (.bool want)))
    (h : Eff P n B ops ⟨dst, op, ty, pos, after, none⟩ E E') : Eff P n B ops ⟨dst, op, ty, pos, after, some (j, want)⟩ E E' := fun κ a w K Q hs hK => by
  have h0 := h κ a w K Q hs hK
  rw [if_pos (by simp [Region.wanted])] at h0
  have h1 : a.tmps.getD s undef = .bool want := hs.of s _ hE
  have h2 : a.tmps[s]? = some (.bool want) := by
    rw [Array.getD_eq_getD_getElem?] at h1
    cases hx : a.tmps[s]? with
    | none => rw [hx] at h1; cases h1
    | some v => rw [hx] at h1; exact congrArg some h1
  rw [if_pos (by simp only [Region.wanted, yielded, hj, Option.bind_some, h2]; cases want <;> rfl)]
  exact h0

/-- All that the edges put before operation i. -/
def befores (ops : Array Oper) : Array (List Nat) :=
  ops.foldl (init := #[]) fun acc o => acc.push (o.after.toList.flatMap fun e => if Region.binds .any e then e.on :: acc.getD e.on [] else [])
/-- Every other operation of the region comes before number p if it stands before p in the text, else behind it. -/
def barrier (ops : Array Oper) (p : Nat) : Bool :=
  let b := (befores ops).map List.eraseDups
  (List.range ops.size).all fun i => i == p || (if i < p then (b.getD p []).contains i else (b.getD i []).contains p)

/-- The region from number s on, with operations that change memory among its own, and what is to be shown in the environment at its end. -/
inductive RunTK (P : Program) (n B : Nat) (ops : Array Oper) (draw : Bool) (C : Env → Prop) : Nat → Env → Prop
  | last' {s : Nat} {E E' : Env} (hr : Run P B ops (ops.toList.drop s) E E') (hC : C E') : RunTK P n B ops draw C s E
  | effG {s p : Nat} {o : Oper} {E E₁ : Env} {ι : Type} {G : ι → Prop} {E₂ : ι → Env} (hsp : s ≤ p) (ho : ops[p]? = some o) (hb : draw = false ∨ barrier ops p = true) (hr : Run P B ops ((ops.toList.drop s).take (p - s)) E E₁)
      (he : EffG P n B ops o E₁ G E₂) (hrest : ∀ i, G i → RunTK P n B ops draw C (p + 1) (E₂ i)) : RunTK P n B ops draw C s E

/-- The region's text, no order drawn. -/
theorem St.virt {n B : Nat} {E : Env} {a : Act} {w : World} (h : St κ n B E a w) (hn : n ≤ vbase) : ∀ t e, vbase ≤ t → E.look t = some e → e.Of w undef := fun t e ht he => by
  have h1 := h.of t e he
  rwa [Array.getD_eq_getD_getElem?, Array.getElem?_eq_none (by rw [h.size]; omega)] at h1
theorem wp_text {n : Nat} (hn : n ≤ vbase) : ∀ {seg rest : List Oper} {E E' : Env} {a : Act} {w : World}, Run P B ops seg E E' → St κ n B E a w → (∀ o ∈ seg, (∀ t ∈ o.looksAt ops, t < n) ∧ ∀ t, o.dst = some t → t < n) →
    (∀ a' w', Grow w w' → St κ n B E' a' w' → wpListIn (FR κ.rd) 0 P ops Q rest a' w') → wpListIn (FR κ.rd) 0 P ops Q (seg ++ rest) a w := by
  intro seg rest E E' a w hr
  induction hr generalizing a w with
  | nil => intro h _ hQ; exact hQ a w (Grow.refl w) h
  | @cons o seg E E' t d ht hg hr ih =>
    intro h hf hQ
    refine wpListR_step fun K hK => ?_
    have hfo := hf o (List.mem_cons_self)
    refine good_wp h.base (h.virt hn) ht hg (fun s e _ he => h.of s e he) (fun s hs => by rw [h.size]; exact hfo.1 s hs) fun x w' g hx => hK _ _ ?_
    exact ih ((h.grow g).put (hfo.2 t ht) hx) (fun o' ho' => hf o' (List.mem_cons_of_mem _ ho')) fun a' w'' g' h' => hQ a' w'' (g.trans g') h'
theorem fits_base {n : Nat} (hfits : fits n ops = true) : n ≤ vbase := by
  unfold fits at hfits
  rw [Bool.and_eq_true, decide_eq_true_eq] at hfits
  exact hfits.1
theorem fits_mem {n : Nat} (hfits : fits n ops = true) {o : Oper} (ho : o ∈ ops.toList) : (∀ t ∈ o.looksAt ops, t < n) ∧ ∀ t, o.dst = some t → t < n := by
  unfold fits at hfits
  rw [Bool.and_eq_true] at hfits
  have hf := Array.all_eq_true_iff_forall_mem.1 hfits.2 o (by simpa using ho)
  simp only [Bool.and_eq_true, List.all_eq_true, decide_eq_true_eq] at hf
  refine ⟨hf.1, fun t ht => ?_⟩
  have := hf.2
  rw [ht] at this
  simpa using this
theorem wp_textT {n : Nat} {s : Nat} {C : Env → Prop} {E : Env} {a : Act} {w : World} (hfits : fits n ops = true) (hr : RunTK P n B ops false C s E) : St κ n B E a w → (∀ E' a' w', C E' → Below B w w' → St κ n B E' a' w' → Q .normal a' w') → wpListIn (FR κ.rd) 0 P ops Q (ops.toList.drop s) a w := by
  induction hr generalizing a w with
  | @last' s E E' hr hC =>
    intro h hQ
    have := wp_text (Q := Q) (rest := []) (fits_base hfits) hr h (fun o ho => fits_mem hfits (List.mem_of_mem_drop ho)) fun a' w' g h' => id (hQ E' a' w' hC (Below.mono g h.base) h')
    simpa using this
  | @effG s p o E E₁ ι G E₂ hsp ho hb hr he hrest ih =>
    intro h hQ
    have hsplit : ops.toList.drop s = (ops.toList.drop s).take (p - s) ++ (o :: ops.toList.drop (p + 1)) := by
      have h1 : (ops.toList.drop s).drop (p - s) = o :: ops.toList.drop (p + 1) := by
        rw [List.drop_drop, show s + (p - s) = p from by omega]
        obtain ⟨hlt, hget⟩ := Array.getElem?_eq_some_iff.1 ho
        rw [List.drop_eq_getElem_cons (by simpa using hlt)]
        simp [hget]
      conv => lhs; rw [← List.take_append_drop (p - s) (ops.toList.drop s), h1]
    rw [hsplit]
    refine wp_text (fits_base hfits) hr h (fun o' ho' => fits_mem hfits (List.mem_of_mem_drop (List.mem_of_mem_take ho'))) fun a' w' g h' => wpListR_step fun K hK => he κ a' w' K Q h' fun i a'' w'' hi g' h'' => hK _ _ (ih i hi h'' fun E' a3 w3 hC g3 h3 => hQ E' a3 w3 hC (((Below.mono g h.base).trans g').trans g3) h3)

theorem befores_spec : ∀ (l : List Oper) (acc : Array (List Nat)) (pre : List Oper), acc.size = pre.length → (∀ i j, j ∈ acc.getD i [] → ∃ o e, pre[i]? = some o ∧ e ∈ o.after ∧ Region.binds .any e = true ∧ (e.on = j ∨ j ∈ acc.getD e.on [])) →
    ∀ i j, j ∈ (l.foldl (fun acc o => acc.push (o.after.toList.flatMap fun e => if Region.binds .any e then e.on :: acc.getD e.on [] else [])) acc).getD i [] →
      ∃ o e, (pre ++ l)[i]? = some o ∧ e ∈ o.after ∧ Region.binds .any e = true ∧ (e.on = j ∨ j ∈ (l.foldl (fun acc o => acc.push (o.after.toList.flatMap fun e => if Region.binds .any e then e.on :: acc.getD e.on [] else [])) acc).getD e.on []) := by
  intro l
  induction l with
  | nil => intro acc pre _ h i j hj; simpa using h i j (by simpa using hj)
  | cons o l ih =>
    intro acc pre hs h i j hj
    have := ih (acc.push (o.after.toList.flatMap fun e => if Region.binds .any e then e.on :: acc.getD e.on [] else [])) (pre ++ [o]) (by simp [hs]) (fun i j hj => ?_) i j (by simpa using hj)
    · simpa using this
    · have hget : ∀ k, k < acc.size → (acc.push (o.after.toList.flatMap fun e => if Region.binds .any e then e.on :: acc.getD e.on [] else [])).getD k [] = acc.getD k [] := fun k hk => by
        simp [Array.getElem?_push, hk, Nat.ne_of_lt hk]
      rcases Nat.lt_trichotomy i acc.size with hi | hi | hi
      · rw [hget i hi] at hj
        obtain ⟨o', e, ho', he, hb, hor⟩ := h i j hj
        refine ⟨o', e, by rw [List.getElem?_append_left (by omega)]; exact ho', he, hb, hor.imp id fun hm => ?_⟩
        have hlt : e.on < acc.size := by
          rcases Nat.lt_or_ge e.on acc.size with h | h
          · exact h
          · simp [Array.getElem?_eq_none h] at hm
        rw [hget _ hlt]; exact hm
      · subst hi
        simp only [Array.getD_eq_getD_getElem?, Array.getElem?_push_size, Option.getD_some, List.mem_flatMap] at hj
        obtain ⟨e, he, hm⟩ := hj
        by_cases hb : Region.binds .any e = true
        · rw [if_pos hb] at hm
          refine ⟨o, e, by rw [hs]; simp, by simpa using he, hb, ?_⟩
          rcases List.mem_cons.1 hm with rfl | hm
          · exact .inl rfl
          · refine .inr ?_
            have hlt : e.on < acc.size := by
              rcases Nat.lt_or_ge e.on acc.size with h | h
              · exact h
              · simp [Array.getElem?_eq_none h] at hm
            rw [hget _ hlt]; simpa using hm
        · rw [if_neg hb] at hm; cases hm
      · exfalso
        rw [Array.getD_eq_getD_getElem?, Array.getElem?_eq_none (by simp; omega)] at hj
        simp at hj

theorem befores_step {i j : Nat} (hj : j ∈ (befores ops).getD i []) : ∃ o e, ops[i]? = some o ∧ e ∈ o.after ∧ Region.binds .any e = true ∧ (e.on = j ∨ j ∈ (befores ops).getD e.on []) := by
  have := befores_spec ops.toList #[] [] rfl (fun i j h => by simp at h) i j (by unfold befores at hj; rw [← Array.foldl_toList] at hj; exact hj)
  obtain ⟨o, e, ho, he, hb, h⟩ := this
  refine ⟨o, e, by simpa using ho, he, hb, h.imp id fun h => ?_⟩
  unfold befores
  rw [← Array.foldl_toList]
  exact h

/-- What holds while the operations from number s to p come up in some order: all before s have come up, none behind p. -/
structure Inv (κ : Cx) (n B : Nat) (ops : Array Oper) (s p : Nat) (E : Env) (ds : List D) (a₀ : Act) (w₀ : World) (listed : Array Bool) (a : Act) (w : World) : Prop where
  grow : Grow w₀ w
  base : B ≤ w.heap.size
  lsize : listed.size = ops.size
  low : ∀ i, i < s → i < ops.size → listed.getD i false = true
  high : ∀ i, p ≤ i → listed.getD i false = false
  defers : a.defers = κ.df
  size : a.tmps.size = n
  closed : ∀ i o, ops[i]? = some o → listed.getD i false = true → ∀ e ∈ o.after, Region.binds .any e = true → listed.getD e.on false = true
  facts : ∀ i o t d, s ≤ i → ops[i]? = some o → listed.getD i false = true → o.dst = some t → ds[i - s]? = some d → d.Of w (a.tmps.getD t undef)
  frame : ∀ t, (∀ i o, s ≤ i → ops[i]? = some o → listed.getD i false = true → o.dst ≠ some t) → a.tmps.getD t undef = a₀.tmps.getD t undef

theorem Inv.befores {n : Nat} {s p : Nat} {E : Env} {ds : List D} {a₀ : Act} {w₀ : World} {listed : Array Bool} {a : Act} {w : World} (htied : tied ops = true) (I : Inv κ n B ops s p E ds a₀ w₀ listed a w) : ∀ i j, (∀ o, ops[i]? = some o → ∀ e ∈ o.after, Region.binds .any e = true → listed.getD e.on false = true) → j ∈ (befores ops).getD i [] → listed.getD j false = true := by
  intro i
  induction i using Nat.strongRecOn with
  | _ i ih =>
    intro j hi hj
    obtain ⟨o, e, ho, he, hb, h⟩ := befores_step hj
    have hl := hi o ho e he hb
    rcases h with rfl | h
    · exact hl
    · exact ih e.on (tied_edge htied ho he hb) j (fun o' ho' e' he' hb' => I.closed e.on o' ho' hl e' he' hb') h

theorem wp_seg {n s p : Nat} {E E' : Env} {ds : List D} {a₀ : Act} {w₀ : World} (htied : tied ops = true) (hfits : fits n ops = true) (hsp : s ≤ p) (hpn : p ≤ ops.size) (ht : Trace P B ops ((ops.toList.drop s).take (p - s)) E ds E') (h₀ : St κ n B E a₀ w₀)
    (hbar : p = ops.size ∨ barrier ops p = true)
    (hend : p = ops.size → ∀ a' w', Grow w₀ w' → St κ n B E' a' w' → Q .normal a' w')
    (hnext : p < ops.size → ∀ fuel (listed : Array Bool) a' w', listed.size = ops.size → (∀ i, i < ops.size → listed.getD i false = decide (i < p)) → unlisted ops listed ≤ fuel + 1 → Grow w₀ w' → St κ n B E' a' w' →
      wpOpIn (FR κ.rd) 0 P ops Q p (wpAnyIn (FR κ.rd) 0 P .any ops Q fuel (listed.setIfInBounds p true)) a' w') :
    ∀ (fuel : Nat) (listed : Array Bool) (a : Act) (w : World), unlisted ops listed ≤ fuel → Inv κ n B ops s p E ds a₀ w₀ listed a w → wpAnyIn (FR κ.rd) 0 P .any ops Q fuel listed a w := by
  have hidx : ∀ (i : Nat) (o : Oper), s ≤ i → i < p → ops[i]? = some o → ((ops.toList.drop s).take (p - s))[i - s]? = some o := fun i o h1 h2 h3 => by
    rw [List.getElem?_take, if_pos (by omega), List.getElem?_drop, show s + (i - s) = i from by omega]
    simpa using h3
  have hidx' : ∀ (j : Nat) (o : Oper), ((ops.toList.drop s).take (p - s))[j]? = some o → ops[s + j]? = some o ∧ s + j < p := fun j o h => by
    rw [List.getElem?_take] at h
    split at h
    · rw [List.getElem?_drop] at h
      exact ⟨by simpa using h, by omega⟩
    · cases h
  -- all between s and p have come up: the environment at the end
  have hst : ∀ (listed : Array Bool) (a : Act) (w : World), Inv κ n B ops s p E ds a₀ w₀ listed a w → (∀ i, i < p → i < ops.size → listed.getD i false = true) → St κ n B E' a w := by
    intro listed a w I hall
    refine ⟨I.base, I.defers, I.size, fun t e he => ?_⟩
    rcases ht.last t e he with ⟨j, o, hj, hd, hds⟩ | ⟨hno, hl⟩
    · obtain ⟨hj', hlt⟩ := hidx' j o hj
      exact I.facts (s + j) o t e (by omega) hj' (hall _ hlt (Array.getElem?_eq_some_iff.1 hj').1) hd (by rw [show s + j - s = j from by omega]; exact hds)
    · rw [I.frame t fun i o hsi hi hl' => ?_]
      · exact (h₀.of t e hl).grow I.grow
      · rcases Nat.lt_or_ge i p with hip | hip
        · exact hno (i - s) o (hidx i o hsi hip hi)
        · rw [I.high i hip] at hl'; cases hl'
  have hmin : ∀ (listed : Array Bool) (a : Act) (w : World), Inv κ n B ops s p E ds a₀ w₀ listed a w → Region.ready .any ops listed = [] → ∀ i, i < ops.size → listed.getD i false = true := by
    intro listed a w I hr i
    induction i using Nat.strongRecOn with
    | _ i ih =>
      intro hi
      rcases hb : listed.getD i false with _ | _
      · exfalso
        have : i ∈ Region.ready .any ops listed := by
          rw [mem_ready]
          refine ⟨?_, ops[i], Array.getElem?_eq_getElem hi, fun e he hbd => ih e.on (tied_edge htied (Array.getElem?_eq_getElem hi) he hbd) (Nat.lt_trans (tied_edge htied (Array.getElem?_eq_getElem hi) he hbd) hi)⟩
          have : i < listed.size := by rw [I.lsize]; exact hi
          simp [this] at hb ⊢
          exact hb
        rw [hr] at this
        cases this
      · rfl
  have hends : ∀ (listed : Array Bool) (a : Act) (w : World), Inv κ n B ops s p E ds a₀ w₀ listed a w → Region.ready .any ops listed = [] → Q .normal a w := by
    intro listed a w I hr
    have hall := hmin listed a w I hr
    have hp : p = ops.size := by
      rcases Nat.lt_or_ge p ops.size with h | h
      · have h1 := hall p h
        rw [I.high p (Nat.le_refl _)] at h1
        cases h1
      · omega
    exact hend hp a w I.grow (hst listed a w I fun i _ h => hall i h)
  intro fuel
  induction fuel with
  | zero =>
    intro listed a w hc I
    have hr : Region.ready .any ops listed = [] := by
      rcases hr : Region.ready .any ops listed with _ | ⟨i, l⟩
      · rfl
      · exfalso
        have hi : i ∈ Region.ready .any ops listed := by rw [hr]; exact List.mem_cons_self
        obtain ⟨hu, o, ho, _⟩ := mem_ready.1 hi
        have hpos : 0 < unlisted ops listed := List.countP_pos_iff.2 ⟨i, List.mem_range.2 (Array.getElem?_eq_some_iff.1 ho).1, by simp only [hu]; rfl⟩
        omega
    exact ⟨hr, hends listed a w I hr⟩
  | succ fuel ih =>
    intro listed a w hc I
    refine ⟨hends listed a w I, fun i hi => ?_⟩
    obtain ⟨hu, o, ho, hall⟩ := mem_ready.1 hi
    have hlt : i < ops.size := (Array.getElem?_eq_some_iff.1 ho).1
    have huf : listed.getD i false = false := by
      have : i < listed.size := by rw [I.lsize]; exact hlt
      simp [this] at hu ⊢
      exact hu
    have hsi : s ≤ i := by
      rcases Nat.lt_or_ge i s with h | h
      · rw [I.low i h hlt] at huf; cases huf
      · exact h
    have hready : ∀ o', ops[i]? = some o' → ∀ e ∈ o'.after, Region.binds .any e = true → listed.getD e.on false = true := fun o' ho' e he hb => by
      rw [ho] at ho'; injection ho' with ho'; subst ho'; exact hall e he hb
    rcases Nat.lt_or_ge i p with hip | hip
    case inr =>
      have hp : p < ops.size := by omega
      have hb := hbar.resolve_left (by omega)
      simp only [barrier, List.all_eq_true, List.mem_range, Bool.or_eq_true, beq_iff_eq] at hb
      have hmem : ∀ k l, l ∈ (Array.map List.eraseDups (befores ops)).getD k [] → l ∈ (befores ops).getD k [] := fun k l h => by
        rw [Array.getD_eq_getD_getElem?, Array.getElem?_map] at h
        rw [Array.getD_eq_getD_getElem?]
        cases hk : (befores ops)[k]? with
        | none => rw [hk] at h; simp at h
        | some v => rw [hk] at h; simpa using h
      rcases Nat.lt_or_ge p i with hpi | hpi
      · exfalso
        have h1 := (hb i hlt).resolve_left (by omega)
        rw [if_neg (by omega)] at h1
        have h2 := I.befores htied i p hready (hmem i p (by simpa using h1))
        rw [I.high p (Nat.le_refl _)] at h2
        cases h2
      · obtain rfl : i = p := by omega
        have hlow : ∀ k, k < i → k < ops.size → listed.getD k false = true := fun k hk hk' => by
          have h1 := (hb k hk').resolve_left (by omega)
          rw [if_pos hk] at h1
          exact I.befores htied i k hready (hmem i k (by simpa using h1))
        refine hnext hlt fuel listed a w I.lsize (fun k hk => ?_) hc I.grow (hst listed a w I hlow)
        rcases Nat.lt_or_ge k i with h | h
        · rw [hlow k h hk]; simp [h]
        · rw [I.high k h]; simp; omega
    obtain ⟨t, d, Ei, hdst, hds, hgood, henv⟩ := ht.nth (i := i - s) (o := o) (hidx i o hsi hip ho)
    have hf := fits_mem hfits (o := o) (by simpa using Array.mem_of_getElem? ho)
    refine wpOpR_step ho fun K hK => good_wp I.base (fun t e hvt he => ?_) hdst hgood (fun r e hs he => ?_) (fun r hs => by rw [I.size]; exact hf.1 r hs) fun x w' g hx => hK _ _ (ih _ _ _ ?_ ?_)
    · have hnb := fits_base hfits
      rcases henv t e he with ⟨j, q, hji, hj, hpd, hpds⟩ | ⟨hno, hl⟩
      · obtain ⟨hj', _⟩ := hidx' j q hj
        have h9 : t < n := (fits_mem hfits (o := q) (by simpa using Array.mem_of_getElem? hj')).2 t hpd
        exact absurd (Nat.lt_of_lt_of_le h9 hnb) (Nat.not_lt.2 hvt)
      · have h1 := (h₀.virt hnb) t e hvt hl
        exact h1.grow I.grow
    · rcases henv r e he with ⟨j, q, hji, hj, hpd, hpds⟩ | ⟨hno, hl⟩
      · obtain ⟨hj', hjp⟩ := hidx' j q hj
        obtain ⟨ed, he1, hb, hon⟩ := ((tied_pair htied ho hj' hpd (by omega)).2 hs).1 (by omega)
        refine I.facts (s + j) q r e (by omega) hj' ?_ hpd (by rw [show s + j - s = j from by omega]; exact hpds)
        rw [← hon]
        exact hall ed he1 hb
      · rw [I.frame r]
        · exact (h₀.of r e hl).grow I.grow
        · intro j q hsj hj hlist hpd
          by_cases hji : j = i
          · subst hji; rw [huf] at hlist; cases hlist
          · rcases Nat.lt_or_ge j i with h | h
            · exact hno (j - s) q (by omega) (hidx j q hsj (by omega) hj) hpd
            · obtain ⟨ed, he1, hb, hon⟩ := ((tied_pair htied ho hj hpd hji).2 hs).2 (by omega)
              have := I.closed j q hj hlist ed he1 hb
              rw [hon, huf] at this
              cases this
    · have : unlisted ops (listed.setIfInBounds i true) < unlisted ops listed := by
        refine countP_lt (x := i) (fun y hy => ?_) (List.mem_range.2 hlt) (by simp only [hu]; rfl) ?_
        · by_cases hyi : i = y
          · subst hyi
            have : i < listed.size := by rw [I.lsize]; exact hlt
            simp [this] at hy
          · rw [getD_set_ne true hyi] at hy; exact hy
        · have : i < listed.size := by rw [I.lsize]; exact hlt
          simp [this]
      omega
    · have hset : ∀ j, (listed.setIfInBounds i true).getD j false = true → j = i ∨ listed.getD j false = true := fun j hj => by
        by_cases hji : i = j
        · exact .inl hji.symm
        · rw [getD_set_ne false hji] at hj; exact .inr hj
      refine ⟨I.grow.trans g, Nat.le_trans I.base g.size, by simp [I.lsize], fun j hj hj' => getD_set_true (I.low j hj hj'), fun j hj => ?_, I.defers, by simp [Act.put, I.size], ?_, ?_, ?_⟩
      · rw [getD_set_ne false (by omega)]; exact I.high j hj
      · intro j q hj hl e he hb
        rcases hset j hl with rfl | hl
        · rw [ho] at hj; injection hj with hj; subst hj
          exact getD_set_true (hall e he hb)
        · exact getD_set_true (I.closed j q hj hl e he hb)
      · intro j q r e hsj hj hl hpd hpds
        by_cases hji : j = i
        · subst hji
          rw [ho] at hj; injection hj with hj; subst hj
          rw [hdst] at hpd; injection hpd with hpd; subst hpd
          rw [hds] at hpds; injection hpds with hpds; subst hpds
          rw [getD_put_here _ _ (by rw [I.size]; exact hf.2 _ hdst)]
          exact hx
        · have hl' := (hset j hl).resolve_left hji
          have hne : t ≠ r := fun h => (tied_pair htied ho hj hpd hji).1 (by rw [hdst, h])
          rw [getD_put_past _ _ hne]
          exact (I.facts j q r e hsj hj hl' hpd hpds).grow g
      · intro r hs
        have hne : t ≠ r := fun h => hs i o hsi ho (by have : i < listed.size := by rw [I.lsize]; exact hlt
                                                       simp [this]) (by rw [hdst, h])
        rw [getD_put_past _ _ hne]
        refine I.frame r fun j q hsj hj hl => hs j q hsj hj (getD_set_true hl)

theorem start_inv {n s p : Nat} {E : Env} {ds : List D} {a : Act} {w : World} {listed : Array Bool} (hsp : s ≤ p) (htied : tied ops = true) (hls : listed.size = ops.size) (hl : ∀ i, i < ops.size → listed.getD i false = decide (i < s)) (h : St κ n B E a w) : Inv κ n B ops s p E ds a w listed a w := by
  have hlt : ∀ i, listed.getD i false = true → i < s := fun i hi => by
    rcases Nat.lt_or_ge i ops.size with h | h
    · rw [hl i h] at hi; simpa using hi
    · rw [Array.getD_eq_getD_getElem?, Array.getElem?_eq_none (by omega)] at hi; cases hi
  refine ⟨Grow.refl w, h.base, hls, fun i hi h' => by rw [hl i h']; simp [hi], fun i hi => ?_, h.defers, h.size, ?_, ?_, fun _ _ => rfl⟩
  · rcases hb : listed.getD i false with _ | _
    · rfl
    · have := hlt i hb; omega
  · intro i o ho hi e he hb
    have h1 := hlt i hi
    have h2 := tied_edge htied ho he hb
    have h3 := (Array.getElem?_eq_some_iff.1 ho).1
    rw [hl e.on (by omega)]
    simp; omega
  · intro i o t d hsi ho hi
    have := hlt i hi
    omega

theorem wp_anyT {n s : Nat} {C : Env → Prop} {E : Env} (htied : tied ops = true) (hfits : fits n ops = true) (hr : RunTK P n B ops true C s E) : ∀ (fuel : Nat) (listed : Array Bool) (a : Act) (w : World), s ≤ ops.size → listed.size = ops.size → (∀ i, i < ops.size → listed.getD i false = decide (i < s)) →
    unlisted ops listed ≤ fuel → St κ n B E a w → (∀ E' a' w', C E' → Below B w w' → St κ n B E' a' w' → Q .normal a' w') → wpAnyIn (FR κ.rd) 0 P .any ops Q fuel listed a w := by
  induction hr with
  | @last' s E E' hr hC =>
    intro fuel listed a w hs hls hl hfu h hQ
    obtain ⟨ds, ht⟩ := hr.trace
    have ht' : Trace P B ops ((ops.toList.drop s).take (ops.size - s)) E ds E' := by
      rw [List.take_of_length_le (by simp)]; exact ht
    exact wp_seg htied hfits hs (Nat.le_refl _) ht' h (.inl rfl) (fun _ a' w' g h' => hQ E' a' w' hC (Below.mono g h.base) h') (fun hlt => by omega) fuel listed a w hfu (start_inv hs htied hls hl h)
  | @effG s p o E E₁ ι G E₂ hsp ho hb hr he hrest ih =>
    intro fuel listed a w hs hls hl hfu h hQ
    have hb := hb.resolve_left (by simp)
    have hp : p < ops.size := (Array.getElem?_eq_some_iff.1 ho).1
    obtain ⟨ds, ht⟩ := hr.trace
    refine wp_seg htied hfits hsp (by omega) ht h (.inr hb) (fun hp' => by omega) (fun _ fuel' listed' a' w' hls' hl' hfu' g h' => ?_) fuel listed a w hfu (start_inv hsp htied hls hl h)
    refine wpOpR_step ho fun K hK => he κ a' w' K Q h' fun j a'' w'' hj g' h'' => hK _ _ (ih j hj fuel' _ a'' w'' (by omega) (by simp [hls']) (fun i hi => ?_) ?_ h'' fun E' a3 w3 hC g3 h3 => hQ E' a3 w3 hC (((Below.mono g h.base).trans g').trans g3) h3)
    · by_cases hpi : p = i
      · subst hpi
        have : p < listed'.size := by rw [hls']; exact hi
        simp [this]
      · rw [getD_set_ne false hpi, hl' i hi]
        by_cases h1 : i < p
        · simp [h1]; omega
        · simp [h1]; omega
    · have hpl : p < listed'.size := by rw [hls']; exact hp
      have : unlisted ops (listed'.setIfInBounds p true) < unlisted ops listed' := by
        refine countP_lt (x := p) (fun y hy => ?_) (List.mem_range.2 hp) ?_ ?_
        · by_cases hyi : p = y
          · subst hyi
            simp [hpl] at hy
          · rw [getD_set_ne true hyi] at hy; exact hy
        · have := hl' p hp
          simp [hpl] at this
          simp [hpl, this]
        · simp [hpl]
      omega

/-- **A REGION, IN EVERY ORDER THAT ITS EDGES ALLOW:** gone through once in the order of the text. -/
theorem wp_regT {n id : Nat} {draw : Bool} {C : Env → Prop} {E : Env} {a : Act} {w : World} (hm : P.follows .mixedOrders = true) (hfits : fits n ops = true) (htied : draw = false ∨ tied ops = true) (h : St κ n B E a w) (hr : RunTK P n B ops draw C 0 E)
    (hQ : ∀ E' a' w', C E' → Below B w w' → St κ n B E' a' w' → Q .normal a' w') : (Code.region id ops draw).wpIn (FR κ.rd) 0 P Q a w := by
  cases draw with
  | false => exact wpIn_region_list (by have := wp_textT (Q := Q) hfits hr h hQ; simpa using this)
  | true =>
    have htied := htied.resolve_left (by simp)
    have hd : Below B w w.drew := (Below.refl B w).drew
    refine wpIn_region_any hm (wp_anyT htied hfits hr _ _ _ _ (Nat.zero_le _) (by simp) (fun i hi => by simp [hi]) ?_ (h.grow (Grow.refl w).drew) fun E' a' w' hC g h' => hQ E' a' w' hC (hd.trans g) h')
    refine Nat.le_trans List.countP_le_length ?_
    simp
end
end Go.Proofs.Ytggijkmlmklneaa
namespace Go.Proofs.Ytggijkmlmklneaa
open Go Go.RowKit

/-! ### Facts -/
def Le (e d : D) : Prop := ∀ B w x, e.OfB B w x → d.OfB B w x
theorem Le.refl (d : D) : Le d d := fun _ _ _ h => h
theorem Le.trans {a b c : D} (h : Le a b) (k : Le b c) : Le a c := fun B w x hx => k B w x (h B w x hx)
theorem Le.v {x y : Value} (h : x = y) : Le (.v x) (.v y) := h ▸ Le.refl _
theorem Le.eq {d e : D} (h : d = e) : Le d e := h ▸ Le.refl _
theorem Le.of {e d : D} (h : Le e d) {w : World} {x : Value} (hx : e.Of w x) : d.Of w x := h _ _ _ hx

/-- What lay below block B when the function was called stays as it was. -/
def old (B : Nat) (d : D) : D := .p (fun B' w x => B ≤ B' ∧ d.OfB B w x) (fun _ _ _ _ g h => ⟨h.1, D.OfB.keep h.2 (g.mono h.1)⟩) (fun _ _ _ _ g h => ⟨Nat.le_trans h.1 g, h.2⟩)
theorem Le.old (B : Nat) (d : D) : Le (old B d) d := fun _ _ _ h => D.OfB.up h.2 h.1
/-- It stays while memory below B stays. -/
def Stays (B : Nat) (d : D) : Prop := ∀ w w' x, Below B w w' → B ≤ w.heap.size → d.Of w x → d.Of w' x
theorem Stays.v (B : Nat) (x : Value) : Stays B (.v x) := fun _ _ _ _ _ h => h
theorem Stays.old (B : Nat) (d : D) : Stays B (Go.Proofs.Ytggijkmlmklneaa.old B d) := fun _ _ _ g hb h => ⟨Nat.le_trans hb g.size, D.OfB.keep h.2 g⟩

/-- Slots that hold the values vs, from an address on, below block B. -/
def RowIn (B : Nat) (w : World) (A : Option Addr) (vs : List Value) : Prop := ∀ (j : Nat) (u : Value), vs[j]? = some u → ∃ ad, A = some ad ∧ ad.block < B ∧ w.cell? (ad.add j) = some u
theorem block_of_add (a : Addr) (n : Nat) : (a.add n).block = a.block := by unfold Addr.add; split <;> rfl
theorem add_of_add (a : Addr) (i j : Nat) : (a.add i).add j = a.add (i + j) := by
  unfold Addr.add
  by_cases hi : i = 0 <;> by_cases hj : j = 0 <;> simp [hi, hj, Nat.add_assoc]
theorem RowIn.keep {B : Nat} {w w' : World} {A : Option Addr} {vs : List Value} (h : RowIn B w A vs) (g : Below B w w') : RowIn B w' A vs := fun j u hu => by
  obtain ⟨ad, h1, h2, h3⟩ := h j u hu
  exact ⟨ad, h1, h2, (g.cell (p := ad.add j) (by rw [block_of_add]; exact h2)).trans h3⟩
theorem RowIn.up {B B' : Nat} {w : World} {A : Option Addr} {vs : List Value} (h : RowIn B w A vs) (g : B ≤ B') : RowIn B' w A vs := fun j u hu => by
  obtain ⟨ad, h1, h2, h3⟩ := h j u hu
  exact ⟨ad, h1, by omega, h3⟩
theorem RowIn.nil {B : Nat} {w : World} {A : Option Addr} : RowIn B w A [] := fun j u h => by simp at h
theorem RowIn.cell {B : Nat} {w : World} {ad : Addr} {vs : List Value} (h : RowIn B w (some ad) vs) : ∀ (j : Nat) (u : Value), vs[j]? = some u → w.cell? (ad.add j) = some u := fun j u hu => by
  obtain ⟨ad', h1, _, h3⟩ := h j u hu
  injection h1 with h1; subst h1; exact h3

/-- A slice of c places whose elements, of one cell each, are as ds says. -/
def ListF (ds : List D) (c B : Nat) (w : World) (x : Value) : Prop :=
  ∃ (A : Option Addr) (vs : List Value), x = .slice A ds.length c ∧ ds.length ≤ c ∧ c ≤ maxLen ∧ vs.length = ds.length ∧ RowIn B w A vs ∧ ∀ (j : Nat) (d : D) (u : Value), ds[j]? = some d → vs[j]? = some u → d.OfB B w u
theorem ListF.keep {ds : List D} {c B : Nat} {w w' : World} {x : Value} (g : Below B w w') : ListF ds c B w x → ListF ds c B w' x :=
  fun ⟨A, vs, h1, h2, h3, h4, h5, h6⟩ => ⟨A, vs, h1, h2, h3, h4, h5.keep g, fun j d u hd hu => (h6 j d u hd hu).keep g⟩
theorem ListF.up {ds : List D} {c B B' : Nat} {w : World} {x : Value} (g : B ≤ B') : ListF ds c B w x → ListF ds c B' w x :=
  fun ⟨A, vs, h1, h2, h3, h4, h5, h6⟩ => ⟨A, vs, h1, h2, h3, h4, h5.up g, fun j d u hd hu => (h6 j d u hd hu).up g⟩
def list (ds : List D) (c : Nat) : D := .p (ListF ds c) (fun _ _ _ _ g h => h.keep g) (fun _ _ _ _ g h => h.up g)
def byteV (b : UInt8) : Value := .int .u8 (b.toNat : Int)
def byteD (b : UInt8) : D := .v (byteV b)
/-- A slice of bytes, of c places. -/
def bytes (l : List UInt8) (c : Nat) : D := list (l.map byteD) c
/-- The same, of whatever capacity. -/
def lst (ds : List D) : D := .p (fun B w x => ∃ c, ListF ds c B w x) (fun _ _ _ _ g ⟨c, h⟩ => ⟨c, h.keep g⟩) (fun _ _ _ _ g ⟨c, h⟩ => ⟨c, h.up g⟩)
def byt (l : List UInt8) : D := lst (l.map byteD)
theorem le_lst (ds : List D) (c : Nat) : Le (list ds c) (lst ds) := fun _ _ _ h => ⟨c, h⟩
/-- An address at which the one cell is as d says. -/
def ElemF (d : D) (B : Nat) (w : World) (x : Value) : Prop := ∃ (ad : Addr) (u : Value), x = .pointer (some ad) ∧ ad.block < B ∧ w.cell? ad = some u ∧ d.OfB B w u
theorem ElemF.keep {d : D} {B : Nat} {w w' : World} {x : Value} (g : Below B w w') : ElemF d B w x → ElemF d B w' x := fun ⟨ad, u, h1, h2, h3, h4⟩ => ⟨ad, u, h1, h2, (g.cell h2).trans h3, h4.keep g⟩
theorem ElemF.up {d : D} {B B' : Nat} {w : World} {x : Value} (g : B ≤ B') : ElemF d B w x → ElemF d B' w x := fun ⟨ad, u, h1, h2, h3, h4⟩ => ⟨ad, u, h1, by omega, h3, h4.up g⟩
/-- Several results at once. -/
def TupF (ds : List D) (B : Nat) (w : World) (x : Value) : Prop := ∃ xs : List Value, x = .tuple xs.toArray ∧ xs.length = ds.length ∧ ∀ (j : Nat) (d : D) (u : Value), ds[j]? = some d → xs[j]? = some u → d.OfB B w u
theorem TupF.keep {ds : List D} {B : Nat} {w w' : World} {x : Value} (g : Below B w w') : TupF ds B w x → TupF ds B w' x := fun ⟨xs, h1, h2, h3⟩ => ⟨xs, h1, h2, fun j d u hd hu => (h3 j d u hd hu).keep g⟩
theorem TupF.up {ds : List D} {B B' : Nat} {w : World} {x : Value} (g : B ≤ B') : TupF ds B w x → TupF ds B' w x := fun ⟨xs, h1, h2, h3⟩ => ⟨xs, h1, h2, fun j d u hd hu => (h3 j d u hd hu).up g⟩
def tup (ds : List D) : D := .p (TupF ds) (fun _ _ _ _ g h => h.keep g) (fun _ _ _ _ g h => h.up g)
/-- Block b is a row of the cells xs (of no slot: it stands in the environment under a number that is no slot's). -/
def blk (b : Nat) (e : TypeId) (xs : List Value) : D :=
  .p (fun B w _ => b < B ∧ w.heap[b]? = some (.cells xs.toArray e (0, 0))) (fun _ _ _ _ g h => ⟨h.1, (g.block b h.1).trans h.2⟩) (fun _ _ _ _ g h => ⟨by omega, h.2⟩)
/-- A slice of n elements at the head of a block of the call's own. -/
def fresh (base : Nat) (e : TypeId) (xs : List Value) (n : Nat) : D :=
  .p (fun B w x => ∃ b, x = .slice (some ⟨b, 0, none⟩) n xs.length ∧ base ≤ b ∧ b < B ∧ w.heap[b]? = some (.cells xs.toArray e (0, 0)))
    (fun _ _ _ _ g ⟨b, h1, h2, h3, h4⟩ => ⟨b, h1, h2, h3, (g.block b h3).trans h4⟩) (fun _ _ _ _ g ⟨b, h1, h2, h3, h4⟩ => ⟨b, h1, h2, by omega, h4⟩)
/-- A slice that owns the cells xs: nil, or at the head of a block of the call's own, with or without room behind. -/
def own (base : Nat) (e : TypeId) (n : Nat) (xs : List Value) : D :=
  .p (fun B w x => w.ownsRow base e 1 x n xs ∧ ∀ g, x.ownBlock = some g → g < B)
    (fun B w w' x g ⟨h1, h2⟩ => ⟨by
      obtain ⟨h3, h4⟩ := h1
      refine ⟨h3, h4.imp id ?_⟩
      rintro ⟨k, cap, cur, rfl, hk, hh, hr⟩
      exact ⟨k, cap, cur, rfl, hk, (g.block k (h2 k (by simp [Value.ownBlock]))).trans hh, hr⟩, h2⟩)
    (fun _ _ _ _ g ⟨h1, h2⟩ => ⟨h1, fun k hk => Nat.lt_of_lt_of_le (h2 k hk) g⟩)
theorem byt_nil_le : Le (.v (.slice none 0 0)) (byt []) := fun B w x h => ⟨0, none, [], by simpa [D.OfB] using h, Nat.zero_le _, Nat.zero_le _, rfl, RowIn.nil, fun j d u hd => by simp at hd⟩
/-- The values of a slice of bytes. -/
theorem bytes_open {l : List UInt8} {c B : Nat} {w : World} {x : Value} (h : (bytes l c).OfB B w x) : ∃ A, x = .slice A l.length c ∧ l.length ≤ c ∧ c ≤ maxLen ∧ RowIn B w A (l.map byteV) := by
  obtain ⟨A, vs, h1, h2, h3, h4, h5, h6⟩ := h
  simp only [List.length_map] at h1 h2 h4
  refine ⟨A, h1, h2, h3, ?_⟩
  have : vs = l.map byteV := by
    apply List.ext_getElem?
    intro j
    rcases Nat.lt_or_ge j l.length with hj | hj
    · have hu : vs[j]? = some vs[j] := List.getElem?_eq_getElem (by omega)
      have := h6 j (byteD l[j]) vs[j] (by simp [hj]) hu
      rw [hu, this]; simp [hj]
    · rw [List.getElem?_eq_none (by omega), List.getElem?_eq_none (by simpa using hj)]
  rw [← this]; exact h5
theorem bytes_mk {l : List UInt8} {c B : Nat} {w : World} {A : Option Addr} (h1 : l.length ≤ c) (h2 : c ≤ maxLen) (h : RowIn B w A (l.map byteV)) : (bytes l c).OfB B w (.slice A l.length c) :=
  ⟨A, l.map byteV, by simp, by simpa using h1, h2, by simp, h, fun j d u hd hu => by
    simp only [List.getElem?_map] at hd hu
    cases hj : l[j]? with
    | none => rw [hj] at hd; cases hd
    | some b => rw [hj] at hd hu; simp at hd hu; subst hd; subst hu; rfl⟩
theorem blk_row {b B : Nat} {e : TypeId} {xs : List Value} {w : World} (hb : b < B) (h : w.heap[b]? = some (.cells xs.toArray e (0, 0))) (n : Nat) : RowIn B w (some ⟨b, 0, none⟩) (xs.take n) := fun j u hu => by
  refine ⟨_, rfl, hb, ?_⟩
  rw [List.getElem?_take] at hu
  split at hu
  · have : (⟨b, 0, none⟩ : Addr).add j = ⟨b, j, none⟩ := by unfold Addr.add; split <;> simp_all
    rw [this]
    simp [World.cell?, h, hu]
  · cases hu

/-- The row of an element type in the table of types: its zero value, one cell, its bytes. -/
def InfoIs (P : Program) (e : TypeId) (z : Value) (nb : Nat) : Prop := (P.info? e).map (fun i => (i.zero, i.size, i.bytes)) = some (some z, 1, nb)
theorem InfoIs.get {P : Program} {e : TypeId} {z : Value} {nb : Nat} (h : InfoIs P e z nb) : ∃ i, P.info? e = some i ∧ i.zero = some z ∧ i.size = 1 ∧ i.bytes = nb := by
  unfold InfoIs at h
  cases hi : P.info? e with
  | none => rw [hi] at h; cases h
  | some i => rw [hi] at h; simp only [Option.map_some, Option.some.injEq, Prod.mk.injEq] at h; exact ⟨i, rfl, h.1, h.2.1, h.2.2⟩

/-! ### Operations by facts -/
section
variable {P : Program} {B : Nat} {E : Env} {dst : Option Tmp} {ty : TypeId} {pos : String} {after : Array Edge} {guard : Option (Nat × Bool)}

theorem out_val {o : Oper} {ρ : Operand → Value} {w : World} {K : Value → World → Prop} {x : Value} {w' : World} (h : (execOp ρ o).run P w = .ok (.value x) w') (hK : K x w') : Out P o ρ w K := by
  unfold Out; rw [h]; exact hK
theorem OpOk.le {o : Oper} {d d' : D} (h : OpOk P B o E d) (hd : Le d d') : OpOk P B o E d' := fun ρ w hB hv hρ => (h ρ w hB hv hρ).mono fun _ _ hx => ⟨hx.1, hd.of hx.2⟩
theorem ok_move {x : Operand} {d : D} (h : E.at x = some d) : OpOk P B ⟨dst, .move x, ty, pos, after, guard⟩ E d := fun ρ w _ _ hρ =>
  out_val (by simp [execOp]) ⟨Grow.refl w, hρ x (by simp [Op.operands]) d h⟩
theorem ok_assign {x : Operand} {d : D} (h : E.at x = some d) : OpOk P B ⟨dst, .assign x, ty, pos, after, guard⟩ E d := fun ρ w _ _ hρ =>
  out_val (by simp [execOp]) ⟨Grow.refl w, hρ x (by simp [Op.operands]) d h⟩
theorem ok_pick {c x y : Operand} {b : Bool} {d : D} (hc : E.at c = some (.v (.bool b))) (h : E.at (cond b x y) = some d) : OpOk P B ⟨dst, .pick c x y, ty, pos, after, guard⟩ E d := fun ρ w _ _ hρ => by
  have h1 : ρ c = .bool b := hρ c (by simp [Op.operands]) _ hc
  refine out_val (x := ρ (cond b x y)) (w' := w) (by simp [execOp, h1, asBool]; cases b <;> rfl) ⟨Grow.refl w, hρ _ ?_ d h⟩
  cases b <;> simp [Op.operands]
/-- The value of an operation on numbers, strings, bools: as the model reckons it. -/
def binV (op : BinOp) (x y : Value) : Option Value :=
  match op, x, y with
  | .add, .int k a, .int k' b => if k = k' then some (.int k (k.wrap (a + b))) else none
  | .sub, .int k a, .int k' b => if k = k' then some (.int k (k.wrap (a - b))) else none
  | .mul, .int k a, .int k' b => if k = k' then some (.int k (k.wrap (a * b))) else none
  | .eql, .int k a, .int k' b => if k = k' then some (.bool (a == b)) else none
  | .neq, .int k a, .int k' b => if k = k' then some (.bool (a != b)) else none
  | .lss, .int k a, .int k' b => if k = k' then some (.bool (decide (a < b))) else none
  | .leq, .int k a, .int k' b => if k = k' then some (.bool (decide (a ≤ b))) else none
  | .gtr, .int k a, .int k' b => if k = k' then some (.bool (decide (a > b))) else none
  | .geq, .int k a, .int k' b => if k = k' then some (.bool (decide (a ≥ b))) else none
  | .and, .int k a, .int k' b => if k = k' then some (.int k (k.wrap (BitVec.ofInt k.bits a &&& BitVec.ofInt k.bits b).toNat)) else none
  | .or, .int k a, .int k' b => if k = k' then some (.int k (k.wrap (BitVec.ofInt k.bits a ||| BitVec.ofInt k.bits b).toNat)) else none
  | .xor, .int k a, .int k' b => if k = k' then some (.int k (k.wrap (BitVec.ofInt k.bits a ^^^ BitVec.ofInt k.bits b).toNat)) else none
  | .andNot, .int k a, .int k' b => if k = k' then some (.int k (k.wrap (BitVec.ofInt k.bits a &&& ~~~ BitVec.ofInt k.bits b).toNat)) else none
  | .eql, .string a, .string b => some (.bool (a.toList == b.toList))
  | .neq, .string a, .string b => some (.bool (!(a.toList == b.toList)))
  | .lss, .string a, .string b => some (.bool (Op.bytesLess a.toList b.toList))
  | _, _, _ => none
theorem binV_run {op : BinOp} {x y c : Value} (h : binV op x y = some c) (t : TypeId) (w : World) : (binOp op t x y).run P w = .ok c w := by
  unfold binV at h
  split at h <;> first
    | (cases h; done)
    | (split at h
       · rename_i hk; subst hk; injection h with h; subst h
         simp [binOp, Op.intArith, Op.intCmp, Op.intBits]
       · cases h)
    | (injection h with h; subst h; simp [binOp, Op.stringOp])
theorem eqGuard_scalar {op : BinOp} {a b : Value} (h : ∃ c, binV op a b = some c) (t : TypeId) (x y : Operand) (w : World) : (eqGuard op t x y a b).run P w = .ok () w := by
  obtain ⟨c, h⟩ := h
  unfold binV at h
  split at h <;> first
    | (cases h; done)
    | (simp [eqGuard]; done)
theorem ok_bin {op : BinOp} {t t' : TypeId} {x y : Operand} {a b c : Value} (hx : E.at x = some (.v a)) (hy : E.at y = some (.v b)) (h : binV op a b = some c) : OpOk P B ⟨dst, .binOp op t x y t', ty, pos, after, guard⟩ E (.v c) := fun ρ w _ _ hρ => by
  have h1 : ρ x = a := hρ x (by simp [Op.operands]) _ hx
  have h2 : ρ y = b := hρ y (by simp [Op.operands]) _ hy
  exact out_val (x := c) (w' := w) (by simp [execOp, h1, h2, eqGuard_scalar ⟨c, h⟩, binV_run h]) ⟨Grow.refl w, rfl⟩
theorem ok_rem {t t' : TypeId} {x y : Operand} {k : IntKind} {a b : Int} (hx : E.at x = some (.v (.int k a))) (hy : E.at y = some (.v (.int k b))) (h : b ≠ 0) : OpOk P B ⟨dst, .binOp .rem t x y t', ty, pos, after, guard⟩ E (.v (.int k (a.tmod b))) := fun ρ w _ _ hρ => by
  have h1 := hρ x (by simp [Op.operands]) _ hx
  have h2 := hρ y (by simp [Op.operands]) _ hy
  exact out_val (w' := w) (by simp [execOp, (show ρ x = _ from h1), (show ρ y = _ from h2), eqGuard, binOp, Op.intDiv, h]) ⟨Grow.refl w, rfl⟩
theorem ok_not {t : TypeId} {x : Operand} {a : Bool} (hx : E.at x = some (.v (.bool a))) : OpOk P B ⟨dst, .unOp .not t x, ty, pos, after, guard⟩ E (.v (.bool (!a))) := fun ρ w _ _ hρ => by
  have h1 := hρ x (by simp [Op.operands]) _ hx
  exact out_val (w' := w) (by simp [execOp, (show ρ x = _ from h1), Op.unary]) ⟨Grow.refl w, rfl⟩
theorem ok_conv {s t : TypeId} {x : Operand} {k k' : IntKind} {a : Int} (hs : P.underlying s = some (.int k')) (ht : P.underlying t = some (.int k)) (hx : E.at x = some (.v (.int k' a))) : OpOk P B ⟨dst, .convert s t x, ty, pos, after, guard⟩ E (.v (.int k (k.wrap a))) := fun ρ w _ _ hρ => by
  have h1 := hρ x (by simp [Op.operands]) _ hx
  exact out_val (w' := w) (by simp [execOp, (show ρ x = _ from h1), convert, run_underlying hs, run_underlying ht, Conv.intToInt]) ⟨Grow.refl w, rfl⟩
theorem ok_lenV {t e : TypeId} {x : Operand} {A : Option Addr} {n c : Nat} (ht : P.underlying t = some (.slice e)) (hx : E.at x = some (.v (.slice A n c))) :
    OpOk P B ⟨dst, .call { callee := .builtin .len, args := #[x], argTypes := #[t] }, ty, pos, after, guard⟩ E (.v (.int .i64 (n : Int))) := fun ρ w _ _ hρ => by
  have h1 : ρ x = .slice A n c := hρ x (by simp [Op.operands, Call.operands]) _ hx
  exact out_val (w' := w) (by simp [execOp, resolve, invoke, builtin, Builtin.len_, run_underlying ht, h1, goInt]) ⟨Grow.refl w, rfl⟩
theorem ok_extract {x : Operand} {i : Nat} {ds : List D} {d : D} (hx : E.at x = some (tup ds)) (hi : ds[i]? = some d) : OpOk P B ⟨dst, .extract x i, ty, pos, after, guard⟩ E d := fun ρ w _ _ hρ => by
  obtain ⟨xs, h1, h2, h3⟩ := hρ x (by simp [Op.operands]) _ hx
  have hlt : i < xs.length := by have := (List.getElem?_eq_some_iff.1 hi).1; omega
  have hu : xs[i]? = some xs[i] := List.getElem?_eq_getElem hlt
  exact out_val (x := xs[i]) (w' := w) (by simp [execOp, h1, Instr.extract, hu]) ⟨Grow.refl w, h3 i d _ hi hu⟩
def plainTD : TypeDesc → Bool
  | .struct _ | .array _ _ => false
  | _ => true
theorem run_load_plain {t : TypeId} {td : TypeDesc} (ht : P.underlying t = some td) (hp : plainTD td = true) {w : World} {ad : Addr} {u : Value} (hc : w.cell? ad = some u) : (Instr.loadAt t (.pointer (some ad))).run P w = .ok u w := by
  have : (isAgg t).run P w = .ok false w := by
    unfold isAgg
    simp only [Sem.run_bind, run_underlying ht, Result.andThen_ok]
    cases td <;> simp_all [plainTD]
  simp [Instr.loadAt, Instr.sureAddr, loadVar, this, run_load, hc]
/-- A load out of a block that is known whole. -/
theorem ok_loadV {t : TypeId} {td : TypeDesc} {x : Operand} {b o s : Nat} {e : TypeId} {xs : List Value} {u : Value} (hsl : vbase ≤ s) (ht : P.underlying t = some td) (hp : plainTD td = true) (hx : E.at x = some (.v (.pointer (some ⟨b, o, none⟩)))) (hblk : E.look s = some (blk b e xs)) (hu : xs[o]? = some u) :
    OpOk P B ⟨dst, .load t x, ty, pos, after, guard⟩ E (.v u) := fun ρ w _ hv hρ => by
  have h1 : ρ x = _ := hρ x (by simp [Op.operands]) _ hx
  obtain ⟨_, hh⟩ := hv s _ hsl hblk
  have hc : w.cell? ⟨b, o, none⟩ = some u := by simp [World.cell?, hh, hu]
  exact out_val (x := u) (w' := w) (by simp [execOp, h1, run_load_plain ht hp hc]) ⟨Grow.refl w, rfl⟩
/-- A slice literal. -/
def Parts (E : Env) (vs : List D) (ps : List (Nat × Operand)) (k : Nat) : Prop :=
  match vs, ps with
  | [], [] => True
  | d :: vs, (i, x) :: ps => i = k ∧ E.at x = some d ∧ Parts E vs ps (k + 1)
  | _, _ => False
theorem Parts.length {vs : List D} {ps : List (Nat × Operand)} {k : Nat} (h : Parts E vs ps k) : vs.length = ps.length := by
  induction vs generalizing ps k with
  | nil => cases ps <;> simp_all [Parts]
  | cons d vs ih =>
    cases ps with
    | nil => simp [Parts] at h
    | cons p ps => obtain ⟨i, x⟩ := p; simp [ih h.2.2]
theorem Parts.nth {vs : List D} {ps : List (Nat × Operand)} {k : Nat} (h : Parts E vs ps k) : ∀ {j : Nat} {d : D}, vs[j]? = some d → ∃ x, ps[j]? = some (k + j, x) ∧ E.at x = some d := by
  induction vs generalizing ps k with
  | nil => intro j d hj; simp at hj
  | cons d0 vs ih =>
    cases ps with
    | nil => simp [Parts] at h
    | cons p ps =>
      obtain ⟨i, x⟩ := p
      obtain ⟨rfl, h1, h2⟩ := h
      intro j d hj
      cases j with
      | zero => simp at hj; subst hj; exact ⟨x, by simp, h1⟩
      | succ j =>
        obtain ⟨y, h3, h4⟩ := ih h2 (by simpa using hj)
        exact ⟨y, by rw [List.getElem?_cons_succ, h3]; congr 2; omega, h4⟩
theorem fill_dense : ∀ (us : List Value) (pre suf : List Value) (k : Nat), (∀ u ∈ us, u.oneCell' = true) → pre.length = k → us.length ≤ suf.length →
    Instr.fill (fun i => some (i * 1, 1)) (pre ++ suf).toArray ((us.zipIdx k).map fun x => (x.2, x.1)) = some (pre ++ us ++ suf.drop us.length).toArray := by
  intro us
  induction us with
  | nil => intro pre suf k _ _ _; simp [Instr.fill]
  | cons u us ih =>
    intro pre suf k h1 hk hl
    have hu : u.cells = #[u] := by
      have := h1 u List.mem_cons_self
      cases u <;> simp_all [Value.oneCell', Value.cells]
    cases suf with
    | nil => simp at hl
    | cons s suf =>
      have hset : (pre ++ s :: suf).toArray.setIfInBounds k u = (pre ++ [u] ++ suf).toArray := by
        apply Array.ext'
        simp [hk]
      simp only [List.zipIdx_cons, List.map_cons, Instr.fill, hu]
      rw [if_neg (by simp; omega)]
      have := ih (pre ++ [u]) suf (k + 1) (fun v hv => h1 v (List.mem_cons_of_mem _ hv)) (by simp [hk]) (by simpa using hl)
      simp only [Nat.mul_one] at this ⊢
      simp at hset ⊢
      rw [hset]
      simpa using this
theorem ok_build {t e : TypeId} {n : Nat} {ps : Array (Nat × Operand)} {z : Value} {nb : Nat} (ds : List D) (ht : P.underlying t = some (.slice e)) (hinfo : InfoIs P e z nb) (hz1 : z.cells = #[z])
    (hn : 0 < n) (hn' : n ≤ 65536) (hl : ds.length = n) (hp : Parts E ds ps.toList 0) (h1 : ∀ d ∈ ds, ∀ w x, d.Of w x → x.oneCell' = true) :
    OpOk P B ⟨dst, .buildSlice t n ps, ty, pos, after, guard⟩ E (list ds n) := fun ρ w _ _ hρ => by
  obtain ⟨i, hi, hz, hs, _⟩ := hinfo.get
  let us : List Value := ps.toList.map fun p => ρ p.2
  have hul : us.length = n := by simp only [us, List.length_map]; rw [← hp.length, hl]
  have hof : ∀ (j : Nat) (d : D), ds[j]? = some d → ∃ u, us[j]? = some u ∧ d.Of w u := fun j d hd => by
    obtain ⟨x, hx, he⟩ := hp.nth hd
    refine ⟨ρ x, by simp only [us, List.getElem?_map, hx]; rfl, hρ x ?_ d he⟩
    simp only [Op.operands, List.mem_toArray, List.mem_map]
    exact ⟨_, List.mem_of_getElem? hx, rfl⟩
  have hus : ∀ u ∈ us, u.oneCell' = true := fun u hu => by
    obtain ⟨j, hj⟩ := List.mem_iff_getElem?.1 hu
    have hlt : j < ds.length := by have := (List.getElem?_eq_some_iff.1 hj).1; omega
    obtain ⟨u', hu', hd⟩ := hof j ds[j] (List.getElem?_eq_getElem hlt)
    rw [hj] at hu'; injection hu' with hu'; subst hu'
    exact h1 _ (List.getElem_mem hlt) w u hd
  have hparts : (ps.map fun (i, x) => (i, ρ x)).toList = (us.zipIdx 0).map fun x => (x.2, x.1) := by
    apply List.ext_getElem?
    intro j
    rcases Nat.lt_or_ge j ds.length with hj | hj
    · obtain ⟨x, hx, _⟩ := hp.nth (List.getElem?_eq_getElem hj)
      have hx' : ps[j]? = some (0 + j, x) := by simpa using hx
      simp [us, List.getElem?_zipIdx, hx']
    · rw [List.getElem?_eq_none (by simp; have := hp.length; simp at this; omega), List.getElem?_eq_none (by simp; omega)]
  have hz' : (Array.range (n * i.size)).map (z.cells[· % z.cells.size]!) = ([] ++ List.replicate n z).toArray := by
    rw [hs, hz1, Nat.mul_one]
    apply Array.ext
    · simp
    · intro j h1 h2; simp [Nat.mod_one]
  have hfill : Instr.fill (fun j => some (j * i.size, i.size)) ((Array.range (n * i.size)).map (z.cells[· % z.cells.size]!)) (ps.map fun (i, x) => (i, ρ x)).toList = some us.toArray := by
    rw [hz', hparts, hs, fill_dense us [] (List.replicate n z) 0 hus rfl (by simp [hul])]
    simp [hul]
  have hr := run_buildSlice (P := P) w t e n (ps.map fun (i, x) => (i, ρ x)) us.toArray i z ht hi hz (by rw [hs]; omega) (by rw [hs]; omega) hfill
  refine out_val (x := .slice (some ⟨w.heap.size, 0, none⟩) n n) (w' := w.alloc (.cells us.toArray e)) (by simp [execOp, hr]) ⟨Grow.alloc w _, ?_⟩
  have hg := Grow.alloc w (.cells us.toArray e)
  refine ⟨some ⟨w.heap.size, 0, none⟩, us, by rw [hl], by omega, by simp only [maxLen]; omega, by omega, ?_, fun j d u hd hu => ?_⟩
  · have := blk_row (B := (w.alloc (.cells us.toArray e)).heap.size) (by simp) (heap_alloc_new w (.cells us.toArray e)) us.length
    rwa [List.take_length] at this
  · obtain ⟨u', hu', hd'⟩ := hof j d hd
    rw [hu] at hu'; injection hu' with hu'; subst hu'
    exact hd'.grow hg

/-! ### A function's contract -/
def PostOf (w₀ : World) (d : D) (e : Ending) (w' : World) : Prop := ∃ x, e = .returned x ∧ Grow w₀ w' ∧ d.Of w' x
/-- Called with values of which ds is known, the function returns a value of which d is known; memory at most grows. -/
structure Fn (P : Program) (f : FuncId) (ds : List D) (d : D) : Prop where
  body : ∃ fn, P.funcs[f]? = some fn ∧ (fn.name == "runtime.NumGoroutine") = false ∧ fn.body.isNone = false
  calls : ∀ (vs : List Value) (w : World), vs.length = ds.length → (∀ (j : Nat) (e : D) (u : Value), ds[j]? = some e → vs[j]? = some u → e.Of w u) → Calls P f vs.toArray w (PostOf w d)
theorem Fn.le {f : FuncId} {ds : List D} {d d' : D} (h : Fn P f ds d) (hd : Le d d') : Fn P f ds d' :=
  ⟨h.body, fun vs w h1 h2 => (h.calls vs w h1 h2).mono fun _ _ ⟨x, he, g, hx⟩ => ⟨x, he, g, hd.of hx⟩⟩
def Args (E : Env) (ds : List D) (xs : List Operand) : Prop :=
  match ds, xs with
  | [], [] => True
  | d :: ds, x :: xs => (∃ e, E.at x = some e ∧ Le e d) ∧ Args E ds xs
  | _, _ => False
theorem Args.nil : Args E [] [] := trivial
theorem Args.cons {d e : D} {ds : List D} {x : Operand} {xs : List Operand} (h : E.at x = some e) (hl : Le e d) (hr : Args E ds xs) : Args E (d :: ds) (x :: xs) := ⟨⟨e, h, hl⟩, hr⟩
theorem Args.length {ds : List D} {xs : List Operand} (h : Args E ds xs) : ds.length = xs.length := by
  induction ds generalizing xs with
  | nil => cases xs <;> simp_all [Args]
  | cons d ds ih => cases xs with
    | nil => simp [Args] at h
    | cons x xs => simp [ih h.2]
theorem Args.nth {ds : List D} {xs : List Operand} (h : Args E ds xs) : ∀ {j : Nat} {d : D} {x : Operand}, ds[j]? = some d → xs[j]? = some x → ∃ e, E.at x = some e ∧ Le e d := by
  induction ds generalizing xs with
  | nil => intro j d x hj; simp at hj
  | cons d0 ds ih => cases xs with
    | nil => simp [Args] at h
    | cons x0 xs =>
      intro j d x hj hx
      cases j with
      | zero => simp at hj hx; subst hj; subst hx; exact h.1
      | succ j => exact ih h.2 (by simpa using hj) (by simpa using hx)
theorem ok_call {f : FuncId} {args : Array Operand} {argTypes : Array TypeId} {ds : List D} {d : D} (hf : Fn P f ds d) (ha : Args E ds args.toList) :
    OpOk P B ⟨dst, .call { callee := .value (.func f), args := args, argTypes := argTypes }, ty, pos, after, guard⟩ E d := fun ρ w _ _ hρ => by
  obtain ⟨fn, h1, h2, h3⟩ := hf.body
  have hfun : ρ (.func f) = .func (.func f) #[] #[] := hρ (.func f) (by simp [Op.operands, Call.operands]) _ rfl
  have hrun : (execOp ρ ⟨dst, .call { callee := .value (.func f), args := args, argTypes := argTypes }, ty, pos, after, guard⟩).run P w = .ok (.enter f (args.map ρ)) w := by
    have h2' : ¬ fn.name = "runtime.NumGoroutine" := by simpa using h2
    have h3' : ¬ fn.body = none := by intro h; rw [h] at h3; cases h3
    simp [execOp, resolve, Deferred.ofValue, hfun, invoke, callFunc, h1, h2', h3']
  unfold Out
  rw [hrun]
  have := hf.calls (args.toList.map ρ) w (by rw [List.length_map, ha.length]) fun j e u he hu => by
    rw [List.getElem?_map] at hu
    cases hx : args.toList[j]? with
    | none => rw [hx] at hu; cases hu
    | some x =>
      rw [hx] at hu; injection hu with hu; subst hu
      obtain ⟨e', h4, h5⟩ := ha.nth he hx
      exact h5.of (hρ x (by simp [Op.operands, Call.operands]; exact .inr (by simpa using List.mem_of_getElem? hx)) _ h4)
  have harr : (args.toList.map ρ).toArray = args.map ρ := by apply Array.ext'; simp
  rw [harr] at this
  exact this.mono fun e w' ⟨x, he, g, hx⟩ => ⟨x, he, g, hx⟩
end

/-! ### Operations that change memory -/
section
variable {P : Program} {n B : Nat} {ops : Array Oper} {E : Env} {ty : TypeId} {pos : String} {after : Array Edge}
/-- What is left of an environment when memory from block B on may have changed. -/
def Left (B : Nat) (E' E : Env) : Prop := ∀ p ∈ E', E.look p.1 = some p.2 ∧ Stays B p.2
theorem Left.nil : Left B [] E := fun _ h => by cases h
theorem Left.cons {E' : Env} {t : Nat} {d : D} (h : E.look t = some d) (hs : Stays B d) (hr : Left B E' E) : Left B ((t, d) :: E') E := fun p hp => by
  rcases List.mem_cons.1 hp with rfl | hp
  · exact ⟨h, hs⟩
  · exact hr p hp
end

theorem Sub.eq {E' E : Env} {t : Nat} {d : D} (e : D) (h : E.look t = some e) (he : e = d) (hs : Sub E' E) : Sub ((t, d) :: E') E := Sub.cons (he ▸ h) hs

/-! ### Code by facts -/
/-- In a function that was called in the world w₀, whose frame has n slots: the code, begun where the slots are as E says, comes to Q. -/
def A (κ : Cx) (P : Program) (w₀ : World) (n : Nat) (c : Code) (E : Env) (Q : Exit → Act → World → Prop) : Prop :=
  ∀ (a : Act) (w : World), Below w₀.heap.size w₀ w → St κ n w₀.heap.size E a w → c.wpIn (FR κ.rd) 0 P Q a w
/-- What holds at the code's end, whatever it is that stands behind. -/
def End (κ : Cx) (w₀ : World) (n : Nat) (E : Env) (R : Act → World → Prop) : Prop := ∀ (a : Act) (w : World), Below w₀.heap.size w₀ w → St κ n w₀.heap.size E a w → R a w
section
variable {κ : Cx} {P : Program} {w₀ : World} {n : Nat} {E E₁ E₂ : Env} {Q : Exit → Act → World → Prop} {x y c : Code} {K : Act → World → Prop}

theorem A.seq (h : A κ P w₀ n x E (Exit.then (y.wpIn (FR κ.rd) 0 P Q) Q)) : A κ P w₀ n (x.seq y) E Q := fun a w g hs => wpIn_seq (h a w g hs)
theorem A.sub (hs : Sub E₁ E) (h : A κ P w₀ n c E₁ Q) : A κ P w₀ n c E Q := fun a w g hst => h a w g (hst.sub hs)
/-- The region's text from here on, and what is to be shown in the environment at its end. -/
def RunK (P : Program) (B : Nat) (ops : Array Oper) (rest : List Oper) (E : Env) (C : Env → Prop) : Prop := ∃ E₁, Run P B ops rest E E₁ ∧ C E₁
section
variable {B : Nat} {ops : Array Oper} {o : Oper} {rest : List Oper} {C : Env → Prop} {t : Nat} {d : D} {draw : Bool}
theorem RunK.nil (h : C E) : RunK P B ops [] E C := ⟨E, .nil, h⟩
theorem RunK.step (ht : o.dst = some t) (hg : o.guard = none) (h : OpOk P B o E d) (hr : RunK P B ops rest ((t, d) :: E) C) : RunK P B ops (o :: rest) E C := by
  obtain ⟨E₁, h1, h2⟩ := hr; exact ⟨E₁, .step ht hg h h1, h2⟩
theorem RunK.guarded {j : Nat} {want : Bool} {s : Nat} (ht : o.dst = some t) (hg : o.guard = some (j, want)) (hj : ((ops[j]?).bind (·.dst)) = some s) (hE : E.look s = some (.v (.bool want))) (h : OpOk P B o E d) (hr : RunK P B ops rest ((t, d) :: E) C) : RunK P B ops (o :: rest) E C := by
  obtain ⟨E₁, h1, h2⟩ := hr; exact ⟨E₁, .guarded ht hg hj hE h h1, h2⟩
theorem RunK.skipped {j : Nat} {want c : Bool} {s : Nat} (ht : o.dst = some t) (hg : o.guard = some (j, want)) (hj : ((ops[j]?).bind (·.dst)) = some s) (hE : E.look s = some (.v (.bool c))) (hc : (c == want) = false) (hr : RunK P B ops rest ((t, .v undef) :: E) C) : RunK P B ops (o :: rest) E C := by
  obtain ⟨E₁, h1, h2⟩ := hr; exact ⟨E₁, .skipped ht hg hj hE hc h1, h2⟩
theorem RunK.skippedU {j : Nat} {want : Bool} {s : Nat} (ht : o.dst = some t) (hg : o.guard = some (j, want)) (hj : ((ops[j]?).bind (·.dst)) = some s) (hE : E.look s = some (.v undef)) (hr : RunK P B ops rest ((t, .v undef) :: E) C) : RunK P B ops (o :: rest) E C := by
  obtain ⟨E₁, h1, h2⟩ := hr; exact ⟨E₁, .skippedU ht hg hj hE h1, h2⟩
/-- The newest slot's value told otherwise. -/
theorem RunK.as (x : Value) {y : Value} (h : y = x) (hr : RunK P B ops rest ((t, .v x) :: E) C) : RunK P B ops rest ((t, .v y) :: E) C := h ▸ hr
theorem RunTK.last {s : Nat} (h : RunK P B ops (ops.toList.drop s) E C) : RunTK P n B ops draw C s E := by
  obtain ⟨E₁, h1, h2⟩ := h; exact .last' h1 h2
theorem RunTK.eff {s : Nat} (p : Nat) (hsp : s ≤ p) (ho : ops[p]? = some o) (hb : draw = false ∨ barrier ops p = true) (h : RunK P B ops ((ops.toList.drop s).take (p - s)) E (fun E₁ => ∃ E₂, Eff P n B ops o E₁ E₂ ∧ RunTK P n B ops draw C (p + 1) E₂)) : RunTK P n B ops draw C s E := by
  obtain ⟨E₁, h1, E₂, h2, h3⟩ := h; exact .effG hsp ho hb h1 h2.g fun _ _ => h3
/-- An operation that leaves something new: a block's number, say. -/
theorem RunTK.new {s : Nat} (p : Nat) (hsp : s ≤ p) (ho : ops[p]? = some o) (hb : draw = false ∨ barrier ops p = true) (h : RunK P B ops ((ops.toList.drop s).take (p - s)) E (fun E₁ => ∃ (G : Nat → Prop) (E₂ : Nat → Env), EffG P n B ops o E₁ G E₂ ∧ ∀ b, G b → RunTK P n B ops draw C (p + 1) (E₂ b))) : RunTK P n B ops draw C s E := by
  obtain ⟨E₁, h1, G, E₂, h2, h3⟩ := h; exact .effG hsp ho hb h1 h2 h3
end
/-- A region at the end of its code. -/
theorem A.reg {id : Nat} {ops : Array Oper} {draw : Bool} (hm : P.follows .mixedOrders = true) (hf : fits n ops = true) (ht : draw = false ∨ tied ops = true) (hr : RunTK P n w₀.heap.size ops draw (fun E₁ => End κ w₀ n E₁ (Q .normal)) 0 E) : A κ P w₀ n (.region id ops draw) E Q := fun _ _ g hst =>
  wp_regT hm hf ht hst hr fun _ a' w' h2 g' h' => h2 a' w' (g.trans g') h'
theorem A.regs {id : Nat} {ops : Array Oper} {draw : Bool} (hm : P.follows .mixedOrders = true) (hf : fits n ops = true) (ht : draw = false ∨ tied ops = true) (hr : RunTK P n w₀.heap.size ops draw (fun E₁ => A κ P w₀ n y E₁ Q) 0 E) : A κ P w₀ n (.seq (.region id ops draw) y) E Q := A.seq (A.reg hm hf ht hr)
theorem A.cond {o : Operand} {b : Bool} (ho : E.at o = some (.v (.bool b))) (ht : b = true → A κ P w₀ n x E Q) (hf : b = false → A κ P w₀ n y E Q) : A κ P w₀ n (.cond o x y) E Q := fun a w g hs => by
  have h1 : a.eval o = .bool b := hs.at_ o _ ho
  cases b with
  | true => exact wpIn_cond h1 (ht rfl a w g hs)
  | false => exact wpIn_cond h1 (hf rfl a w g hs)
theorem A.yes {o : Operand} (ho : E.at o = some (.v (.bool true))) (h : A κ P w₀ n x E Q) : A κ P w₀ n (.cond o x y) E Q := A.cond ho (fun _ => h) (fun h => by cases h)
theorem A.no {o : Operand} (ho : E.at o = some (.v (.bool false))) (h : A κ P w₀ n y E Q) : A κ P w₀ n (.cond o x y) E Q := A.cond ho (fun h => by cases h) (fun _ => h)
theorem A.skip (h : End κ w₀ n E (Q .normal)) : A κ P w₀ n .skip E Q := fun a w g hs => wpIn_skip (h a w g hs)
theorem A.block {id : Nat} (h : A κ P w₀ n c E (Exit.inBlock id Q)) : A κ P w₀ n (.block id c) E Q := fun a w g hs => wpIn_block (h a w g hs)
theorem A.exit {id : Nat} (h : End κ w₀ n E (Q (.exit id))) : A κ P w₀ n (.exit id) E Q := fun a w g hs => wpIn_exit (h a w g hs)
theorem A.ret (h : End κ w₀ n E (Q .ret)) : A κ P w₀ n .ret E Q := fun a w g hs => wpIn_ret (h a w g hs)
theorem End.exit_then {id : Nat} (h : End κ w₀ n E (Q (.exit id))) : End κ w₀ n E (Exit.then K Q (.exit id)) := h
theorem End.exit_here {id : Nat} (h : End κ w₀ n E (Q .normal)) : End κ w₀ n E (Exit.inBlock id Q (.exit id)) := fun a w g hs => by
  show if id = id then Q .normal a w else Q (.exit id) a w
  rw [if_pos rfl]; exact h a w g hs
theorem End.exit_past {id id' : Nat} (hne : id' ≠ id) (h : End κ w₀ n E (Q (.exit id'))) : End κ w₀ n E (Exit.inBlock id Q (.exit id')) := fun a w g hs => by
  show if id' = id then Q .normal a w else Q (.exit id') a w
  rw [if_neg hne]; exact h a w g hs
theorem End.ret_then (h : End κ w₀ n E (Q .ret)) : End κ w₀ n E (Exit.then K Q .ret) := h
theorem End.ret_block {id : Nat} (h : End κ w₀ n E (Q .ret)) : End κ w₀ n E (Exit.inBlock id Q .ret) := h
theorem End.normal_then (h : End κ w₀ n E K) : End κ w₀ n E (Exit.then K Q .normal) := h
theorem End.normal_block {id : Nat} (h : End κ w₀ n E (Q .normal)) : End κ w₀ n E (Exit.inBlock id Q .normal) := h
theorem End.code (h : A κ P w₀ n y E Q) : End κ w₀ n E (y.wpIn (FR κ.rd) 0 P Q) := h
theorem End.sub {R : Act → World → Prop} (hs : Sub E₁ E) (h : End κ w₀ n E₁ R) : End κ w₀ n E R := fun a w g hst => h a w g (hst.sub hs)
/-- What a round of a loop comes to: a state of the loop that is measured lower. -/
def Again (κ : Cx) (w₀ : World) (n : Nat) {ι : Type} (G : ι → Prop) (I : ι → Env) (μ : ι → Nat) (i : ι) (a : Act) (w : World) : Prop := ∃ j, G j ∧ μ j < μ i ∧ Below w₀.heap.size w₀ w ∧ St κ n w₀.heap.size (I j) a w
theorem End.again {ι : Type} {G : ι → Prop} {I : ι → Env} {μ : ι → Nat} {i : ι} (j : ι) (hG : G j) (hμ : μ j < μ i) (hs : Sub (I j) E) : End κ w₀ n E (Again κ w₀ n G I μ i) :=
  fun _ _ g hst => ⟨j, hG, hμ, g, hst.sub hs⟩

theorem least_of {p : Nat → Prop} : ∀ {m : Nat}, p m → ∃ k, p k ∧ ∀ j, p j → k ≤ j := by
  intro m
  induction m using Nat.strongRecOn with
  | _ m ih =>
    intro hm
    by_cases h : ∃ j, j < m ∧ p j
    · obtain ⟨j, hj, hp⟩ := h; exact ih j hj hp
    · exact ⟨m, hm, fun j hj => by
        rcases Nat.lt_or_ge j m with hlt | hge
        · exact absurd ⟨j, hlt, hj⟩ h
        · exact hge⟩
/-- A loop: the environments I i, one for each state i of the loop with G i, and a measure that every round lowers. -/
theorem A.loop {ι : Type} (G : ι → Prop) (I : ι → Env) (μ : ι → Nat) (i₀ : ι) (hG : G i₀) (h0 : Sub (I i₀) E)
    (round : ∀ i, G i → A κ P w₀ n c (I i) (Exit.then (Again κ w₀ n G I μ i) Q)) : A κ P w₀ n (.loop c) E Q := fun a w g hs => by
  have hex : ∀ p : Act × World, ∃ k : Nat, (∃ j, G j ∧ Below w₀.heap.size w₀ p.2 ∧ St κ n w₀.heap.size (I j) p.1 p.2) → ∃ j, (G j ∧ Below w₀.heap.size w₀ p.2 ∧ St κ n w₀.heap.size (I j) p.1 p.2) ∧ μ j = k ∧ ∀ j', (G j' ∧ Below w₀.heap.size w₀ p.2 ∧ St κ n w₀.heap.size (I j') p.1 p.2) → k ≤ μ j' := by
    intro p
    by_cases h : ∃ j, G j ∧ Below w₀.heap.size w₀ p.2 ∧ St κ n w₀.heap.size (I j) p.1 p.2
    · obtain ⟨j, hj⟩ := h
      obtain ⟨k, ⟨j', hj', hk⟩, hmin⟩ := least_of (p := fun k => ∃ j, (G j ∧ Below w₀.heap.size w₀ p.2 ∧ St κ n w₀.heap.size (I j) p.1 p.2) ∧ μ j = k) ⟨j, hj, rfl⟩
      exact ⟨k, fun _ => ⟨j', hj', hk, fun j'' h'' => hmin _ ⟨j'', h'', rfl⟩⟩⟩
    · exact ⟨0, fun h' => absurd h' h⟩
  obtain ⟨m, hm⟩ := Classical.axiomOfChoice hex
  refine wpIn_loop (fun a w => ∃ j, G j ∧ Below w₀.heap.size w₀ w ∧ St κ n w₀.heap.size (I j) a w) (fun a w => m (a, w)) ⟨i₀, hG, g, hs.sub h0⟩ fun a w hI => ?_
  obtain ⟨j, ⟨hGj, hg, hst⟩, hμ, _⟩ := hm (a, w) hI
  refine wpIn_mono (round j hGj a w hg hst) fun e a' w' hq => ?_
  cases e with
  | normal =>
    obtain ⟨j', hG', hlt, hg', hst'⟩ := hq
    refine ⟨⟨j', hG', hg', hst'⟩, ?_⟩
    obtain ⟨_, _, _, hmin⟩ := hm (a', w') ⟨j', hG', hg', hst'⟩
    have := hmin j' ⟨hG', hg', hst'⟩
    show m (a', w') < m (a, w)
    omega
  | exit id => exact hq
  | goto l => exact hq
  | ret => exact hq
  | panic ch => exact hq
  | outgrown => exact hq

/-- What a function's body must come to. -/
abbrev BP (P : Program) (fn : Func) (R : Ending → World → Prop) : Exit → Act → World → Prop := bodyPostM (FR none) 0 P fn R
/-- Slots at a function's beginning. -/
def Start (B : Nat) (ds : List D) (E : Env) : Prop := ∀ p ∈ E, ∃ d, ds[p.1]? = some d ∧ (p.2 = d ∨ p.2 = old B d)
theorem Start.nil {B : Nat} {ds : List D} : Start B ds [] := fun _ h => by cases h
theorem Start.v {B : Nat} {ds : List D} {t : Nat} {d : D} {E : Env} (h : ds[t]? = some d) (hr : Start B ds E) : Start B ds ((t, d) :: E) := fun p hp => by
  rcases List.mem_cons.1 hp with rfl | hp
  · exact ⟨d, h, .inl rfl⟩
  · exact hr p hp
theorem Start.old {B : Nat} {ds : List D} {t : Nat} {d : D} {E : Env} (h : ds[t]? = some d) (hr : Start B ds E) : Start B ds ((t, Go.Proofs.Ytggijkmlmklneaa.old B d) :: E) := fun p hp => by
  rcases List.mem_cons.1 hp with rfl | hp
  · exact ⟨d, h, .inr rfl⟩
  · exact hr p hp
theorem Fn.of {f : FuncId} {fn : Func} {c : Code} {ds : List D} {d : D} (hf : P.funcs[f]? = some fn) (hb : fn.body = some c) (hname : (fn.name == "runtime.NumGoroutine") = false) (hn : fn.ntmps = n) (hds : ds.length ≤ n) (E : World → Env)
    (hE : ∀ w, Start w.heap.size ds (E w)) (h : ∀ w₀, A Cx.top P w₀ n c (E w₀) (BP P fn (PostOf w₀ d))) : Fn P f ds d := by
  refine ⟨⟨fn, hf, hname, by rw [hb]; rfl⟩, fun vs w hl hv => callsIn_FR.1 (callsIn_of_wp_marks (F := FR none) (n := 0) hf hb trivial (h w _ w (Below.refl _ _) ⟨Nat.le_refl _, rfl, ?_, fun t e he => ?_⟩))⟩
  · simp [hl, hn]; omega
  · obtain ⟨d', hd', hor⟩ := hE w _ (look_mem he)
    have hlt : t < vs.length := by have := (List.getElem?_eq_some_iff.1 hd').1; simp at this; omega
    have hget : (vs.toArray ++ Array.replicate (fn.ntmps - vs.toArray.size) undef).getD t undef = vs[t] := by
      rw [Array.getD_eq_getD_getElem?, Array.getElem?_append_left (by simpa using hlt)]
      simp [hlt]
    show e.Of w ((vs.toArray ++ Array.replicate (fn.ntmps - vs.toArray.size) undef).getD t undef)
    rw [hget]
    have h1 := hv t d' vs[t] hd' (List.getElem?_eq_getElem hlt)
    rcases hor with h2 | h2
    · simp only at h2; rw [h2]; exact h1
    · simp only at h2; rw [h2]; exact ⟨Nat.le_refl _, h1⟩

/-- return, where nothing is deferred. -/
theorem BP.ret {fn : Func} {R : Ending → World → Prop} {a : Act} {w : World} (hd : a.defers = []) (h : ∃ v, (results fn a.tmps).run P w = .ok v w ∧ R (.returned v) w) : BP P fn R .ret a w := by
  show LeavesInM (FR none) 0 P fn a.tmps R a.defers .returning w
  rw [hd]; exact h
/-- return, with one result. -/
theorem End.ret1 {fn : Func} {r : Nat} {d e : D} (hr : fn.results = #[.tmp r]) (he : E.look r = some e) (hl : Le e d) : End Cx.top w₀ n E (BP P fn (PostOf w₀ d) .ret) := fun a w g hs =>
  BP.ret hs.defers ⟨a.tmps.getD r undef, by simp [results, hr], _, rfl, g, hl.of (hs.of r e he)⟩
theorem End.ret2 {fn : Func} {r s : Nat} {d₁ d₂ e₁ e₂ : D} (hr : fn.results = #[.tmp r, .tmp s]) (he₁ : E.look r = some e₁) (hl₁ : Le e₁ d₁) (he₂ : E.look s = some e₂) (hl₂ : Le e₂ d₂) : End Cx.top w₀ n E (BP P fn (PostOf w₀ (tup [d₁, d₂])) .ret) := fun a w g hs =>
  BP.ret hs.defers ⟨.tuple #[a.tmps.getD r undef, a.tmps.getD s undef], by simp [results, hr], _, rfl, g, [a.tmps.getD r undef, a.tmps.getD s undef], rfl, rfl, fun j d u hd hu => by
    match j, hd, hu with
    | 0, hd, hu => simp only [List.getElem?_cons_zero, Option.some.injEq] at hd hu; subst hd; subst hu; exact hl₁.of (hs.of r e₁ he₁)
    | 1, hd, hu => simp only [List.getElem?_cons_succ, List.getElem?_cons_zero, Option.some.injEq] at hd hu; subst hd; subst hu; exact hl₂.of (hs.of s e₂ he₂)
    | j + 2, hd, _ => simp at hd⟩

/-- A slice that the call has just made gets a name for its block; the block's cells stand in the environment under number k. -/
theorem A.open {t k : Nat} {e : TypeId} {xs : List Value} {m : Nat} (ht : E.look t = some (fresh w₀.heap.size e xs m)) (h : ∀ b, w₀.heap.size ≤ b → A κ P w₀ n c ((t, .v (.slice (some ⟨b, 0, none⟩) m xs.length)) :: (k, blk b e xs) :: E) Q) : A κ P w₀ n c E Q := fun a w g hs => by
  obtain ⟨b, h1, h2, h3, h4⟩ := hs.of t _ ht
  refine h b h2 a w g ⟨hs.base, hs.defers, hs.size, fun s d hd => ?_⟩
  by_cases hts : t = s
  · subst hts
    rw [look_here] at hd; injection hd with hd; subst hd; exact h1
  · rw [look_past _ _ hts] at hd
    by_cases hks : k = s
    · subst hks
      rw [look_here] at hd; injection hd with hd; subst hd; exact ⟨h3, h4⟩
    · rw [look_past _ _ hks] at hd
      exact hs.of s d hd
/-- A slice of bytes of the call's own, whose cells are known, reads as their list. -/
theorem End.bytes {R : Act → World → Prop} (t k : Nat) {b : Nat} {e : TypeId} {xs : List Value} (l : List UInt8) {m c : Nat} (ht : E.look t = some (.v (.slice (some ⟨b, 0, none⟩) m c))) (hm : m = l.length) (hk : E.look k = some (blk b e xs)) (hl : xs.take l.length = l.map byteV) (h1 : l.length ≤ c) (h2 : c ≤ maxLen)
    (h : End κ w₀ n ((t, bytes l c) :: E) R) : End κ w₀ n E R := fun a w g hs => by
  subst hm
  refine h a w g ⟨hs.base, hs.defers, hs.size, fun s d hd => ?_⟩
  by_cases hts : t = s
  · subst hts
    rw [look_here] at hd; injection hd with hd; subst hd
    have h3 : a.tmps.getD t undef = .slice (some ⟨b, 0, none⟩) l.length c := hs.of t _ ht
    obtain ⟨h4, h5⟩ := hs.of k _ hk
    rw [h3]
    exact bytes_mk h1 h2 (hl ▸ blk_row h4 h5 l.length)
  · rw [look_past _ _ hts] at hd
    exact hs.of s d hd
end
end Go.Proofs.Ytggijkmlmklneaa
namespace Go.Proofs.Ytggijkmlmklneaa
open Go Go.RowKit
variable {κ : Cx}

/-! ### Weaker environments -/
def SubL (E' E : Env) : Prop := ∀ p ∈ E', ∃ e, E.look p.1 = some e ∧ Le e p.2
theorem SubL.nil {E : Env} : SubL [] E := fun _ h => by cases h
theorem SubL.cons {E' E : Env} {t : Nat} {d e : D} (h : E.look t = some e) (hl : Le e d) (hs : SubL E' E) : SubL ((t, d) :: E') E := fun p hp => by
  rcases List.mem_cons.1 hp with rfl | hp
  · exact ⟨e, h, hl⟩
  · exact hs p hp
theorem St.subL {n B : Nat} {E E' : Env} {a : Act} {w : World} (h : St κ n B E a w) (hs : SubL E' E) : St κ n B E' a w :=
  ⟨h.base, h.defers, h.size, fun t d hd => by
    obtain ⟨e, he, hl⟩ := hs (t, d) (look_mem hd)
    exact hl.of (h.of t e he)⟩
theorem A.subL {P : Program} {w₀ : World} {n : Nat} {c : Code} {E E₁ : Env} {Q : Exit → Act → World → Prop} (hs : SubL E₁ E) (h : A κ P w₀ n c E₁ Q) : A κ P w₀ n c E Q := fun a w g hst => h a w g (hst.subL hs)
theorem End.subL {w₀ : World} {n : Nat} {E E₁ : Env} {R : Act → World → Prop} (hs : SubL E₁ E) (h : End κ w₀ n E₁ R) : End κ w₀ n E R := fun a w g hst => h a w g (hst.subL hs)

/-! ### A region with a base of its own: what is known at its beginning stays, whatever the region writes into memory that it makes -/
def OldOf (B : Nat) (E' E : Env) : Prop := ∀ p ∈ E', ∃ d, E.look p.1 = some d ∧ (p.2 = d ∧ (∃ x, d = .v x) ∨ p.2 = old B d)
theorem OldOf.nil {B : Nat} {E : Env} : OldOf B [] E := fun _ h => by cases h
theorem OldOf.v {B : Nat} {E E' : Env} {t : Nat} {x : Value} (h : E.look t = some (.v x)) (hr : OldOf B E' E) : OldOf B ((t, .v x) :: E') E := fun p hp => by
  rcases List.mem_cons.1 hp with rfl | hp
  · exact ⟨_, h, .inl ⟨rfl, _, rfl⟩⟩
  · exact hr p hp
theorem OldOf.p {B : Nat} {E E' : Env} {t : Nat} {d : D} (h : E.look t = some d) (hr : OldOf B E' E) : OldOf B ((t, old B d) :: E') E := fun p hp => by
  rcases List.mem_cons.1 hp with rfl | hp
  · exact ⟨d, h, .inr rfl⟩
  · exact hr p hp
/-! ### A contract whose result is told over the heap's size at the call -/
structure FnB (P : Program) (f : FuncId) (ds : List D) (d : Nat → D) : Prop where
  body : ∃ fn, P.funcs[f]? = some fn ∧ (fn.name == "runtime.NumGoroutine") = false ∧ fn.body.isNone = false
  calls : ∀ (vs : List Value) (w : World), vs.length = ds.length → (∀ (j : Nat) (e : D) (u : Value), ds[j]? = some e → vs[j]? = some u → e.Of w u) → Calls P f vs.toArray w (PostOf w (d w.heap.size))
theorem FnB.fn {P : Program} {f : FuncId} {ds : List D} {d : Nat → D} {d' : D} (h : FnB P f ds d) (hd : ∀ B, Le (d B) d') : Fn P f ds d' :=
  ⟨h.body, fun vs w h1 h2 => (h.calls vs w h1 h2).mono fun _ _ ⟨x, he, g, hx⟩ => ⟨x, he, g, (hd _).of hx⟩⟩
theorem ok_callB {P : Program} {B : Nat} {E : Env} {dst : Option Tmp} {ty : TypeId} {pos : String} {after : Array Edge} {guard : Option (Nat × Bool)} {f : FuncId} {args : Array Operand} {argTypes : Array TypeId} {ds : List D} {d : Nat → D} (hf : FnB P f ds d) (hd : ∀ B B', B ≤ B' → Le (d B') (d B)) (ha : Args E ds args.toList) :
    OpOk P B ⟨dst, .call { callee := .value (.func f), args := args, argTypes := argTypes }, ty, pos, after, guard⟩ E (d B) := fun ρ w hB _ hρ => by
  obtain ⟨fn, h1, h2, h3⟩ := hf.body
  have hfun : ρ (.func f) = .func (.func f) #[] #[] := hρ (.func f) (by simp [Op.operands, Call.operands]) _ rfl
  have hrun : (execOp ρ ⟨dst, .call { callee := .value (.func f), args := args, argTypes := argTypes }, ty, pos, after, guard⟩).run P w = .ok (.enter f (args.map ρ)) w := by
    have h2' : ¬ fn.name = "runtime.NumGoroutine" := by simpa using h2
    have h3' : ¬ fn.body = none := by intro h; rw [h] at h3; cases h3
    simp [execOp, resolve, Deferred.ofValue, hfun, invoke, callFunc, h1, h2', h3']
  unfold Out
  rw [hrun]
  have := hf.calls (args.toList.map ρ) w (by rw [List.length_map, ha.length]) fun j e u he hu => by
    rw [List.getElem?_map] at hu
    cases hx : args.toList[j]? with
    | none => rw [hx] at hu; cases hu
    | some x =>
      rw [hx] at hu; injection hu with hu; subst hu
      obtain ⟨e', h4, h5⟩ := ha.nth he hx
      exact h5.of (hρ x (by simp [Op.operands, Call.operands]; exact .inr (by simpa using List.mem_of_getElem? hx)) _ h4)
  have harr : (args.toList.map ρ).toArray = args.map ρ := by apply Array.ext'; simp
  rw [harr] at this
  exact this.mono fun e w' ⟨x, he, g, hx⟩ => ⟨x, he, g, (hd _ _ hB).of hx⟩
theorem FnB.of {P : Program} {n : Nat} {f : FuncId} {fn : Func} {c : Code} {ds : List D} {d : Nat → D} (hf : P.funcs[f]? = some fn) (hb : fn.body = some c) (hname : (fn.name == "runtime.NumGoroutine") = false) (hn : fn.ntmps = n) (hds : ds.length ≤ n) (E : World → Env)
    (hE : ∀ w, Start w.heap.size ds (E w)) (h : ∀ w₀, A Cx.top P w₀ n c (E w₀) (BP P fn (PostOf w₀ (d w₀.heap.size)))) : FnB P f ds d := by
  refine ⟨⟨fn, hf, hname, by rw [hb]; rfl⟩, fun vs w hl hv => callsIn_FR.1 (callsIn_of_wp_marks (F := FR none) (n := 0) hf hb trivial (h w _ w (Below.refl _ _) ⟨Nat.le_refl _, rfl, ?_, fun t e he => ?_⟩))⟩
  · simp [hl, hn]; omega
  · obtain ⟨d', hd', hor⟩ := hE w _ (look_mem he)
    have hlt : t < vs.length := by have := (List.getElem?_eq_some_iff.1 hd').1; simp at this; omega
    have hget : (vs.toArray ++ Array.replicate (fn.ntmps - vs.toArray.size) undef).getD t undef = vs[t] := by
      rw [Array.getD_eq_getD_getElem?, Array.getElem?_append_left (by simpa using hlt)]
      simp [hlt]
    show e.Of w ((vs.toArray ++ Array.replicate (fn.ntmps - vs.toArray.size) undef).getD t undef)
    rw [hget]
    have h1 := hv t d' vs[t] hd' (List.getElem?_eq_getElem hlt)
    rcases hor with h2 | h2
    · simp only at h2; rw [h2]; exact h1
    · simp only at h2; rw [h2]; exact ⟨Nat.le_refl _, h1⟩
theorem End.fresh {w₀ : World} {n : Nat} {E : Env} {fn : Func} {P : Program} {r k : Nat} {b : Nat} {e : TypeId} {xs ys : List Value} {m c : Nat} (hr : fn.results = #[.tmp r]) (hb : w₀.heap.size ≤ b) (ht : E.look r = some (.v (.slice (some ⟨b, 0, none⟩) m c))) (hc : c = ys.length) (hk : E.look k = some (blk b e xs)) (hx : xs = ys) :
    End Cx.top w₀ n E (BP P fn (PostOf w₀ (Go.Proofs.Ytggijkmlmklneaa.fresh w₀.heap.size e ys m)) .ret) := fun a w g hs => by
  subst hx; subst hc
  obtain ⟨h4, h5⟩ := hs.of k _ hk
  exact BP.ret hs.defers ⟨a.tmps.getD r undef, by simp [results, hr], _, rfl, g, b, hs.of r _ ht, hb, h4, h5⟩

/-! ### More operations -/
section
variable {P : Program} {B : Nat} {E : Env} {dst : Option Tmp} {ty : TypeId} {pos : String} {after : Array Edge} {guard : Option (Nat × Bool)}
end
theorem own_nil {B : Nat} {e : TypeId} : Le (.v (.slice none 0 0)) (own B e 0 []) := fun _ _ _ h => by
  have h : _ = _ := h
  subst h
  exact ⟨⟨rfl, .inl ⟨rfl, rfl⟩⟩, fun g hg => by simp [Value.ownBlock] at hg⟩
theorem v_one {y : Value} (hy : y.oneCell' = true) {w : World} {x : Value} (h : (D.v y).Of w x) : x.oneCell' = true := by
  have h : x = y := h
  subst h; exact hy
end Go.Proofs.Ytggijkmlmklneaa
namespace Go.Proofs.Ytggijkmlmklneaa
open Go Go.RowKit
variable {κ : Cx}

/-! ### One block is written -/
/-- At most block g, whose cells are of type T, has changed of what was there; g is B or above. -/
structure Wrote (B : Nat) (T : TypeId) (g : Nat) (w w' : World) : Prop where
  base : B ≤ g
  os : w'.os = w.os
  tape : w'.tape = w.tape
  output : w'.output = w.output
  size : w.heap.size ≤ w'.heap.size
  cel : ∀ o, w.heap[g]? = some o → ∃ cs fr, o = .cells cs T fr
  other : ∀ k, k < w.heap.size → k ≠ g → w'.heap[k]? = w.heap[k]?
theorem Wrote.row {B T g : Nat} {w w' : World} (h : Wrote B T g w w') (cs : Array Value) (e : TypeId) (fr : Nat × Nat) (hh : w.heap[g]? = some (.cells cs e fr)) : e = T := by
  obtain ⟨_, _, hx⟩ := h.cel _ hh
  injection hx
theorem Wrote.under {B T g : Nat} {w w' : World} (h : Wrote B T g w w') {k : Nat} (hg : k ≤ g) (hk : k ≤ w.heap.size) : Below k w w' :=
  ⟨h.os, h.tape, h.output, h.size, fun j hj => h.other j (by omega) (by omega)⟩
/-- The fact survives it. -/
def Surv (B T g : Nat) (d : D) : Prop := ∀ w w' x, Wrote B T g w w' → d.Of w x → d.Of w' x
theorem Surv.v {B T g : Nat} (y : Value) : Surv B T g (.v y) := fun _ _ _ _ h => h
theorem Surv.old {B T g B' : Nat} {d : D} (h : B' ≤ g) : Surv B T g (Go.Proofs.Ytggijkmlmklneaa.old B' d) := fun _ _ _ k ⟨h1, h2⟩ => ⟨Nat.le_trans h1 k.size, D.OfB.keep h2 (k.under h h1)⟩
theorem Surv.blk {B T g b : Nat} {e : TypeId} {xs : List Value} (h : b ≠ g) : Surv B T g (Go.Proofs.Ytggijkmlmklneaa.blk b e xs) := fun _ _ _ k ⟨h1, h2⟩ => ⟨Nat.lt_of_lt_of_le h1 k.size, (k.other b h1 h).trans h2⟩
theorem Surv.blkT {B T g b : Nat} {e : TypeId} {xs : List Value} (h : e ≠ T) : Surv B T g (Go.Proofs.Ytggijkmlmklneaa.blk b e xs) := fun w w' x k hx => by
  refine Surv.blk (B := B) (T := T) (fun hb => h ?_) w w' x k hx
  subst hb; exact k.row _ _ _ hx.2
theorem Surv.own {B T g base n : Nat} {e : TypeId} {xs : List Value} (h : e ≠ T) : Surv B T g (Go.Proofs.Ytggijkmlmklneaa.own base e n xs) := fun w w' x k ⟨h1, h2⟩ => by
  obtain ⟨h3, h4⟩ := h1
  refine ⟨⟨h3, h4.imp id ?_⟩, fun j hj => Nat.lt_of_lt_of_le (h2 j hj) k.size⟩
  rintro ⟨j, cap, cur, rfl, hj, hh, hr⟩
  have hne : j ≠ g := fun hb => h (by subst hb; exact k.row _ _ _ hh)
  exact ⟨j, cap, cur, rfl, hj, (k.other j (h2 j (by simp [Value.ownBlock])) hne).trans hh, hr⟩
theorem Surv.fresh {B T g base n : Nat} {e : TypeId} {xs : List Value} (h : e ≠ T) : Surv B T g (Go.Proofs.Ytggijkmlmklneaa.fresh base e xs n) := fun w w' x k ⟨b, h1, h2, h3, h4⟩ => by
  have hne : b ≠ g := fun hb => h (by subst hb; exact k.row _ _ _ h4)
  exact ⟨b, h1, h2, Nat.lt_of_lt_of_le h3 k.size, (k.other b h3 hne).trans h4⟩
def LeftS (B T g : Nat) (E' E : Env) : Prop := ∀ p ∈ E', E.look p.1 = some p.2 ∧ Surv B T g p.2
theorem LeftS.nil {B T g : Nat} {E : Env} : LeftS B T g [] E := fun _ h => by cases h
theorem LeftS.cons {B T g : Nat} {E E' : Env} {t : Nat} {d : D} (h : E.look t = some d) (hs : Surv B T g d) (hr : LeftS B T g E' E) : LeftS B T g ((t, d) :: E') E := fun p hp => by
  rcases List.mem_cons.1 hp with rfl | hp
  · exact ⟨h, hs⟩
  · exact hr p hp
theorem LeftS.st {n B T g : Nat} {E E' : Env} {a : Act} {w w' : World} (hl : LeftS B T g E' E) (h : St κ n B E a w) (k : Wrote B T g w w') : St κ n B E' a w' :=
  ⟨Nat.le_trans h.base k.size, h.defers, h.size, fun t d hd => by
    obtain ⟨h1, h2⟩ := hl _ (look_mem hd)
    exact h2 _ _ _ k (h.of t d h1)⟩
theorem Wrote.setRow {B g : Nat} {w : World} {old : Array Value} {T : TypeId} (hb : B ≤ g) (hh : w.heap[g]? = some (.cells old T (0, 0))) (cs : Array Value) : Wrote B T g w (w.setRow g cs) :=
  ⟨hb, rfl, rfl, rfl, by simp, fun o h => by rw [hh] at h; injection h with h; exact ⟨_, _, h.symm⟩, fun k _ hk => setRow_other w g k cs hk⟩
theorem Wrote.below {B T g : Nat} {w w' : World} (h : Wrote B T g w w') (hB : B ≤ w.heap.size) : Below B w w' := h.under h.base hB

/-! ### The row of a type whose values have several cells -/
def SizeIs (P : Program) (T : TypeId) (m : Nat) : Prop := (P.info? T).map (·.size) = some m
def ZeroIs (P : Program) (T : TypeId) (zs : List Value) : Prop := (P.info? T).bind (fun i => i.zero.map (fun z => z.cells.toList)) = some zs
theorem ZeroIs.get {P : Program} {T : TypeId} {zs : List Value} (h : ZeroIs P T zs) : ∃ i z, P.info? T = some i ∧ i.zero = some z ∧ z.cells = zs.toArray := by
  unfold ZeroIs at h
  cases hi : P.info? T with
  | none => rw [hi] at h; cases h
  | some i =>
    rw [hi] at h
    cases hz : i.zero with
    | none => simp [hz] at h
    | some z => simp [hz] at h; exact ⟨i, z, rfl, hz, by rw [← h]⟩
theorem SizeIs.of {P : Program} {T : TypeId} {m m' : Nat} (h : SizeIs P T m) (e : m' = m) : SizeIs P T m' := e ▸ h
def aggV (xs : List Value) : Value := .agg xs.toArray

section
variable {P : Program} {n B : Nat} {ops : Array Oper} {E : Env} {dst : Option Tmp} {ty : TypeId} {pos : String} {after : Array Edge} {guard : Option (Nat × Bool)}

/-- The number of a new block: at or above the base, above every block that the environment knows whole. -/
def NewB (B : Nat) (E : Env) (b : Nat) : Prop := B ≤ b ∧ ∀ s b' e xs, E.look s = some (blk b' e xs) → b' < b
theorem eff_new {o : Oper} {d k : Nat} {T : TypeId} {xs : List Value} (hd : o.dst = some d) (hg : o.guard = none)
    (hrun : ∀ (κ : Cx) a w, St κ n B E a w → (execOp a.eval o).run P w = .ok (.value (.pointer (some ⟨w.heap.size, 0, none⟩))) (w.alloc (.cells xs.toArray T))) (hdn : d < n) :
    EffG P n B ops o E (NewB B E) (fun b => (d, .v (.pointer (some ⟨b, 0, none⟩))) :: (k, blk b T xs) :: E) := by
  intro κ a w K Q h hK
  rw [if_pos (by simp [Region.wanted, hg])]
  refine opR (not_defer (hrun κ a w h)) ?_
  unfold Oper.wp
  rw [hrun κ a w h, Oper.upon_value, hd]
  have hbel : Below B w (w.alloc (.cells xs.toArray T)) := (Below.refl B w).alloc h.base _
  refine hK w.heap.size _ _ ⟨h.base, fun s b' e ys hs => (h.of s _ hs).1⟩ hbel (St.put ?_ hdn rfl)
  have hst := h.grow (Grow.alloc w (.cells xs.toArray T))
  refine ⟨hst.base, hst.defers, hst.size, fun s e he => ?_⟩
  by_cases hks : k = s
  · subst hks
    rw [look_here] at he; injection he with he; subst he
    exact ⟨by simp, heap_alloc_new w _⟩
  · rw [look_past _ _ hks] at he
    exact hst.of s e he
/-- A variable of its zero value. -/
theorem eff_alloc {T : TypeId} {zs : List Value} {d k : Nat} (hz : ZeroIs P T zs) (hdn : d < n) :
    EffG P n B ops ⟨some d, .alloc T, ty, pos, after, none⟩ E (NewB B E) (fun b => (d, .v (.pointer (some ⟨b, 0, none⟩))) :: (k, blk b T zs) :: E) :=
  eff_new rfl rfl (fun _ a w _ => by
    obtain ⟨i, z, hi, hz, hc⟩ := hz.get
    simp [execOp, Instr.alloc, zeroValue, typeInfo, hi, hz, newVar, newRow, hc]) hdn
/-- A variable that is given a value of several cells. -/
theorem eff_box {T : TypeId} {x : Operand} {xs : List Value} {d k : Nat} (hx : E.at x = some (.v (aggV xs))) (hdn : d < n) :
    EffG P n B ops ⟨some d, .box T x, ty, pos, after, none⟩ E (NewB B E) (fun b => (d, .v (.pointer (some ⟨b, 0, none⟩))) :: (k, blk b T xs) :: E) :=
  eff_new rfl rfl (fun _ a w h => by
    have h1 : a.eval x = aggV xs := h.at_ x _ hx
    simp [execOp, Instr.box, newVar, newRow, h1, aggV, Value.cells]) hdn
/-- A store of one cell into a block that is known whole. -/
theorem eff_storeS {t : TypeId} {z : Value} {nb : Nat} {p x : Operand} {b o s : Nat} {e : TypeId} {xs : List Value} {u : Value} {E' : Env} (hinfo : InfoIs P t z nb) (hp : E.at p = some (.v (.pointer (some ⟨b, o, none⟩)))) (hx : E.at x = some (.v u)) (hu : u.oneCell' = true)
    (hb : B ≤ b) (hblk : E.look s = some (blk b e xs)) (ho : o < xs.length) (hl : LeftS B e b E' E) :
    Eff P n B ops ⟨none, .store t p x, ty, pos, after, none⟩ E ((s, blk b e (xs.set o u)) :: E') := by
  obtain ⟨i, hi, _, hs, _⟩ := hinfo.get
  intro κ a w K Q h hK
  have hp' : a.eval p = _ := h.at_ p _ hp
  have hx' : a.eval x = _ := h.at_ x _ hx
  obtain ⟨hlt, hh⟩ := h.of s _ hblk
  have hcell : w.cell? ⟨b, o, none⟩ = some xs[o] := by simp [World.cell?, hh, ho]
  have hfr : w.frozen? ⟨b, o, none⟩ = false := by simp [World.frozen?, hh]
  have hcu : u.cells = #[u] := by cases u <;> simp_all [Value.oneCell', Value.cells]
  have hadd : (⟨b, o, none⟩ : Addr).add 0 = ⟨b, o, none⟩ := rfl
  have hset := setCell_eq_setRow w b o xs.toArray e (0, 0) u hh
  have hrun : (execOp a.eval ⟨none, .store t p x, ty, pos, after, none⟩).run P w = .ok .skip (w.setRow b (xs.toArray.setIfInBounds o u)) := by
    rw [← hset]
    simp [execOp, hp', hx', Instr.storeAt, Instr.sureAddr, storeVar, hcu, sizeOf, typeInfo, hi, hs, storeCells, hadd, run_store P w ⟨b, o, none⟩ u .plain hu, hcell, hfr]
  rw [if_pos (by simp [Region.wanted])]
  refine opR (by nofun) ?_
  unfold Oper.wp
  rw [hrun, Oper.upon_skip]
  have hwr := Wrote.setRow hb hh (xs.toArray.setIfInBounds o u)
  have hst := hl.st h hwr
  refine hK _ _ (hwr.below h.base) ⟨hst.base, hst.defers, hst.size, fun t' d hd => ?_⟩
  by_cases hts : s = t'
  · subst hts
    rw [look_here] at hd; injection hd with hd; subst hd
    exact ⟨by simpa using hlt, by rw [setRow_heap w b _ _ e _ hh]; simp⟩
  · rw [look_past _ _ hts] at hd
    exact hst.of t' d hd
/-- A store of a whole array or struct. -/
theorem eff_storeA {T : TypeId} {p x : Operand} {b s : Nat} {e : TypeId} {xs ys : List Value} {E' : Env} (hsz : SizeIs P T ys.length) (hp : E.at p = some (.v (.pointer (some ⟨b, 0, none⟩)))) (hx : E.at x = some (.v (aggV ys))) (h1 : ys.all (·.oneCell') = true)
    (hb : B ≤ b) (hblk : E.look s = some (blk b e xs)) (ho : xs.length = ys.length) (hl : LeftS B e b E' E) :
    Eff P n B ops ⟨none, .store T p x, ty, pos, after, none⟩ E ((s, blk b e ys) :: E') := by
  intro κ a w K Q h hK
  have hp' : a.eval p = _ := h.at_ p _ hp
  have hx' : a.eval x = _ := h.at_ x _ hx
  obtain ⟨hlt, hh⟩ := h.of s _ hblk
  have hrun : (execOp a.eval ⟨none, .store T p x, ty, pos, after, none⟩).run P w = .ok .skip (w.setRow b ys.toArray) := by
    have := run_storeVar_row (P := P) w b e T xs.toArray ys.toArray hh (by simpa [SizeIs] using hsz) (by simpa using ho) (by simpa using h1)
    simp [execOp, hp', hx', Instr.storeAt, Instr.sureAddr, aggV, this]
  rw [if_pos (by simp [Region.wanted])]
  refine opR (by nofun) ?_
  unfold Oper.wp
  rw [hrun, Oper.upon_skip]
  have hwr := Wrote.setRow hb hh ys.toArray
  have hst := hl.st h hwr
  refine hK _ _ (hwr.below h.base) ⟨hst.base, hst.defers, hst.size, fun t' d hd => ?_⟩
  by_cases hts : s = t'
  · subst hts
    rw [look_here] at hd; injection hd with hd; subst hd
    exact ⟨by simpa using hlt, setRow_heap w b _ _ e _ hh⟩
  · rw [look_past _ _ hts] at hd
    exact hst.of t' d hd
/-- append to a row of the call's own. -/
theorem eff_appendS {t e : TypeId} {z : Value} {nb : Nat} {r x : Operand} {k dst : Nat} {xs : List Value} {f : D} {vs : List Value} {E' : Env} (ht : P.underlying t = some (.slice e)) (hinfo : InfoIs P e z nb) (hnb : nb ≤ 64) (hz1 : z.cells.size = 1)
    (hr : E.at r = some (own B e k xs)) (hx : E.at x = some f) (hf : Le f (lst (vs.map .v))) (h1 : ∀ u ∈ vs, u.oneCell' = true) (hk : k + vs.length ≤ 1099511627776) (hdst : dst < n) (hl : ∀ g, B ≤ g → LeftS B e g E' E) :
    Eff P n B ops ⟨some dst, .call { callee := .builtin .append, args := #[r, x], argTypes := #[t, t] }, ty, pos, after, none⟩ E ((dst, own B e (k + vs.length) (xs ++ vs)) :: E') := by
  obtain ⟨i, hi, hz, hs, hby⟩ := hinfo.get
  intro κ a w K Q h hK
  obtain ⟨hown, hob⟩ := h.at_ r _ hr
  obtain ⟨c, A, us, hxe, hle, hcm, hul, hrow, hus⟩ := hf.of (h.at_ x _ hx)
  have huv : us = vs := by
    apply List.ext_getElem?
    intro j
    simp only [List.length_map] at hul
    rcases Nat.lt_or_ge j vs.length with hj | hj
    · have hu : us[j]? = some us[j] := List.getElem?_eq_getElem (by omega)
      have h2 : us[j] = vs[j] := hus j (.v vs[j]) us[j] (by simp [hj]) hu
      rw [hu, h2, List.getElem?_eq_getElem hj]
    · rw [List.getElem?_eq_none (by omega), List.getElem?_eq_none hj]
  subst huv
  simp only [List.length_map] at hxe hle hul
  have hrun : ∃ v' w', (Builtin.append_ #[t, t] ty #[a.eval r, .slice A us.length c]).run P w = .ok v' w' ∧ w'.ownsRow B e 1 v' (k + us.length) (xs ++ us) ∧ w.grownBy w' (a.eval r).ownBlock ∧
      (v'.ownBlock = (a.eval r).ownBlock ∨ v'.ownBlock = some w.heap.size) := by
    have hbb : (k + us.length) * i.bytes ≤ (k + us.length) * 64 := Nat.mul_le_mul_left _ (by omega)
    have hnil : us = [] → ∀ c', (Builtin.append_ #[t, t] ty #[a.eval r, .slice none 0 c']).run P w = .ok (a.eval r) w := by
      intro _ c'
      rcases hown.2 with ⟨hv, hn0⟩ | ⟨g, cap, cur, hv, _, _, hnc, _⟩
      · rw [hv]; simp [Builtin.append_, run_underlying ht, sizeOf, typeInfo, hi, Builtin.lenOf, Builtin.firstCells]
      · rw [hv]; simp [Builtin.append_, run_underlying ht, sizeOf, typeInfo, hi, Builtin.lenOf, Builtin.firstCells, hnc, storeCells]
    cases A with
    | none =>
      have hz : us = [] := by
        cases us with
        | nil => rfl
        | cons b l => obtain ⟨ad, h, _⟩ := hrow 0 b rfl; cases h
      subst hz
      exact ⟨a.eval r, w, hnil rfl c, by simpa using hown, World.grownBy.refl w _, .inl rfl⟩
    | some ad =>
      obtain ⟨v', w', h2, h3, h4, _, h6⟩ := run_append_own_at (P := P) w B t ty e i z 1 i.bytes ht hi hz hs rfl hz1 (by omega) (a.eval r) k xs hown ad us.length c us (by simp) hrow.cell h1 (by simp only [maxLen]; omega) (by omega) h.base
      exact ⟨v', w', h2, h3, h4, h6⟩
  obtain ⟨v', w', hrun, h3, h4, h5⟩ := hrun
  have hexec : (execOp a.eval ⟨some dst, .call { callee := .builtin .append, args := #[r, x], argTypes := #[t, t] }, ty, pos, after, none⟩).run P w = .ok (.value v') w' := by
    simp [execOp, resolve, invoke, builtin, hxe, hrun]
  rw [if_pos (by simp [Region.wanted])]
  refine opR (by nofun) ?_
  unfold Oper.wp
  rw [hexec, Oper.upon_value]
  have hbase : ∀ g, (a.eval r).ownBlock = some g → B ≤ g := fun g hg => by
    rcases hown.2 with ⟨hv, _⟩ | ⟨g', cap, cur, hv, hb, _⟩
    · rw [hv] at hg; simp [Value.ownBlock] at hg
    · rw [hv] at hg; simp [Value.ownBlock] at hg; omega
  have hbel : Below B w w' := (Below.refl B w).grown h4 h.base hbase
  have hlt : ∀ g, v'.ownBlock = some g → g < w'.heap.size := fun g hg => by
    rcases h3.2 with ⟨hv, _⟩ | ⟨g', cap, cur, hv, _, hh, _⟩
    · rw [hv] at hg; simp [Value.ownBlock] at hg
    · rw [hv] at hg; simp [Value.ownBlock] at hg; subst hg
      rcases Nat.lt_or_ge g' w'.heap.size with h | h
      · exact h
      · rw [Array.getElem?_eq_none h] at hh; cases hh
  have hwr : ∃ g, B ≤ g ∧ Wrote B e g w w' := by
    rcases hown.2 with ⟨hv, _⟩ | ⟨g', cap, cur, hv, hb, hh, _⟩
    · refine ⟨w.heap.size, h.base, h.base, h4.os, h4.tape, h4.output, h4.size, fun o hx => ?_, fun k hk _ => h4.block k hk (by rw [hv]; simp [Value.ownBlock])⟩
      rw [Array.getElem?_eq_none (Nat.le_refl _)] at hx; cases hx
    · refine ⟨g', hb, hb, h4.os, h4.tape, h4.output, h4.size, fun o hx => ?_, fun k hk hne => h4.block k hk (by rw [hv]; simp [Value.ownBlock]; omega)⟩
      rw [hh] at hx; injection hx with hx; exact ⟨_, _, hx.symm⟩
  obtain ⟨g, hg, hwr⟩ := hwr
  have hst : St κ n B E' a w' := (hl g hg).st h hwr
  exact hK _ _ hbel (hst.put hdst ⟨h3, hlt⟩)
/-- A load of a whole array or struct. -/
theorem ok_loadA {T : TypeId} {td : TypeDesc} {x : Operand} {b s : Nat} {e : TypeId} {xs : List Value} (hsl : vbase ≤ s) (ht : P.underlying T = some td) (hp : (match td with | .struct _ | .array _ _ => true | _ => false) = true) (hsz : SizeIs P T xs.length)
    (hx : E.at x = some (.v (.pointer (some ⟨b, 0, none⟩)))) (hblk : E.look s = some (blk b e xs)) : OpOk P B ⟨dst, .load T x, ty, pos, after, guard⟩ E (.v (aggV xs)) := fun ρ w _ hv hρ => by
  have h1 : ρ x = _ := hρ x (by simp [Op.operands]) _ hx
  obtain ⟨_, hh⟩ := hv s _ hsl hblk
  have := run_loadVar_row (P := P) w b e T xs.toArray (0, 0) td hh ht hp (by simpa [SizeIs] using hsz)
  exact out_val (w' := w) (by simp [execOp, h1, Instr.loadAt, Instr.sureAddr, this, aggV]) ⟨Grow.refl w, rfl⟩
/-- An element's address in an array behind a pointer. -/
theorem ok_indexA {t e : TypeId} {len : Nat} {z : Value} {nb : Nat} {x i : Operand} {b o : Nat} {k : IntKind} {j : Int} (m : Nat) (ht : P.underlying t = some (.array len e)) (hs : InfoIs P e z nb) (hx : E.at x = some (.v (.pointer (some ⟨b, o, none⟩)))) (hi : E.at i = some (.v (.int k j)))
    (h0 : j = (m : Int)) (hn : m < len) : OpOk P B ⟨dst, .indexAddr t x i, ty, pos, after, guard⟩ E (.v (.pointer (some ⟨b, o + m, none⟩))) := fun ρ w _ _ hρ => by
  have h1 : ρ x = _ := hρ x (by simp [Op.operands]) _ hx
  have hi' : ρ i = .int k j := hρ i (by simp [Op.operands]) _ hi
  obtain ⟨info, hinfo, _, hsize, _⟩ := hs.get
  refine out_val (w' := w) ?_ ⟨Grow.refl w, rfl⟩
  subst h0
  have hadd : (⟨b, o, none⟩ : Addr).add m = ⟨b, o + m, none⟩ := by unfold Addr.add; split <;> simp_all
  simp [execOp, h1, hi', Instr.indexAt, Instr.sureAddr, asIntOf, run_underlying ht, sizeOf, typeInfo, hinfo, hsize, hadd]
  intro hle
  omega
theorem ok_index0 {t e : TypeId} {len : Nat} {z : Value} {nb : Nat} {x i : Operand} {b : Nat} {k : IntKind} {j : Int} (m : Nat) (ht : P.underlying t = some (.array len e)) (hs : InfoIs P e z nb) (hx : E.at x = some (.v (.pointer (some ⟨b, 0, none⟩)))) (hi : E.at i = some (.v (.int k j)))
    (h0 : j = (m : Int)) (hn : m < len) : OpOk P B ⟨dst, .indexAddr t x i, ty, pos, after, guard⟩ E (.v (.pointer (some ⟨b, m, none⟩))) := by
  have := ok_indexA (P := P) (B := B) (dst := dst) (ty := ty) (pos := pos) (after := after) (guard := guard) m ht hs hx hi h0 hn
  rwa [Nat.zero_add] at this
/-- A literal of an array or a struct. -/
theorem ok_lit {t : TypeId} {ps : Array (Nat × Operand)} (us : List (Nat × Value)) (ys : List Value) (hp : ∀ ρ : Operand → Value, (∀ x, x ∈ (ps.toList.map (·.2)) → ∀ v, E.at x = some (.v v) → ρ x = v) → ps.toList.map (fun p => (p.1, ρ p.2)) = us) (hb : P.built t us = some ys.toArray) :
    OpOk P B ⟨dst, .build t ps, ty, pos, after, guard⟩ E (.v (aggV ys)) := fun ρ w _ _ hρ => by
  have h1 := hp ρ fun x hx v hv => hρ x (by simp [Op.operands]; simpa using hx) _ hv
  have h2 : (ps.map fun (i, x) => (i, ρ x)).toList = us := by rw [← h1]; simp
  have := run_build (P := P) w t (ps.map fun (i, x) => (i, ρ x)) ys.toArray (by rw [h2]; exact hb)
  exact out_val (w' := w) (by simp [execOp, this, aggV]) ⟨Grow.refl w, rfl⟩
/-- A literal of an array whose elements have one cell, from the first on. -/
def LitD (E : Env) : List Value → List (Nat × Operand) → Nat → Prop
  | [], [], _ => True
  | u :: us, (i, x) :: ps, k => i = k ∧ E.at x = some (.v u) ∧ LitD E us ps (k + 1)
  | _, _, _ => False
theorem LitD.map {ρ : Operand → Value} : ∀ {us : List Value} {ps : List (Nat × Operand)} {k : Nat}, LitD E us ps k → (∀ x, x ∈ ps.map (·.2) → ∀ v, E.at x = some (.v v) → ρ x = v) → ps.map (fun p => (p.1, ρ p.2)) = (us.zipIdx k).map fun x => (x.2, x.1)
  | [], [], _, _, _ => rfl
  | [], _ :: _, _, h, _ => h.elim
  | _ :: _, [], _, h, _ => h.elim
  | u :: us, (i, x) :: ps, k, ⟨h1, h2, h3⟩, hρ => by
    subst h1
    simp only [List.map_cons, List.zipIdx_cons, hρ x (by simp) u h2]
    rw [LitD.map h3 fun y hy v hv => hρ y (by simp only [List.map_cons, List.mem_cons]; exact .inr hy) v hv]
theorem ok_litP {t e : TypeId} {ps : Array (Nat × Operand)} {z : Value} {nb len : Nat} (us : List Value) (ht : P.underlying t = some (.array len e)) (hinfo : InfoIs P e z nb) (hz : ZeroIs P t (List.replicate len z)) (hn : us.length ≤ len) (hl : LitD E us ps.toList 0) (h1 : us.all (·.oneCell') = true) :
    OpOk P B ⟨dst, .build t ps, ty, pos, after, guard⟩ E (.v (aggV (us ++ List.replicate (len - us.length) z))) := fun ρ w _ _ hρ => by
  obtain ⟨it, zv, hi, hzv, hc⟩ := hz.get
  obtain ⟨ie, hie, _, hs, _⟩ := hinfo.get
  have h3 := hl.map (ρ := ρ) fun x hx v hv => hρ x (by simp [Op.operands]; simpa using hx) _ hv
  have h2 : (ps.map fun (i, x) => (i, ρ x)).toList = (us.zipIdx 0).map fun x => (x.2, x.1) := by rw [← h3]; simp
  have hb : P.built t (ps.map fun (i, x) => (i, ρ x)).toList = some (us ++ List.replicate (len - us.length) z).toArray := by
    have hf := fill_dense us [] (List.replicate len z) 0 (fun u hu => by simpa using (List.all_eq_true.1 h1) u hu) rfl (by simpa using hn)
    simp only [Nat.mul_one, List.nil_append, List.drop_replicate] at hf
    simp only [Program.built, hi, ht, hzv, hie, hc, h2, hs, Nat.mul_one]
    exact hf
  have := run_build (P := P) w t (ps.map fun (i, x) => (i, ρ x)) _ hb
  exact out_val (w' := w) (by simp [execOp, this, aggV]) ⟨Grow.refl w, rfl⟩
end

/-! ### Results that are read from variables -/
section
variable {P : Program} {w₀ : World} {n : Nat} {E : Env}
theorem End.cell1 {fn : Func} {r s b : Nat} {T e : TypeId} {td : TypeDesc} {xs : List Value} {d : D} (hr : fn.results = #[.cell r T]) (ht : P.underlying T = some td) (hp : (match td with | .struct _ | .array _ _ => true | _ => false) = true) (hsz : SizeIs P T xs.length)
    (h1 : E.look r = some (.v (.pointer (some ⟨b, 0, none⟩)))) (h2 : E.look s = some (blk b e xs)) (hl : Le (.v (aggV xs)) d) : End Cx.top w₀ n E (BP P fn (PostOf w₀ d) .ret) := fun a w g hs => by
  have h3 : a.tmps[r]?.getD undef = .pointer (some ⟨b, 0, none⟩) := by rw [← Array.getD_eq_getD_getElem?]; exact hs.of r _ h1
  obtain ⟨_, hh⟩ := hs.of s _ h2
  have := run_loadVar_row (P := P) w b e T xs.toArray (0, 0) td hh ht hp (by simpa [SizeIs] using hsz)
  exact BP.ret hs.defers ⟨aggV xs, by simp [results, hr, h3, asAddr, this, aggV], _, rfl, g, hl.of rfl⟩
end
end Go.Proofs.Ytggijkmlmklneaa
namespace Go.Proofs.Ytggijkmlmklneaa
open Go Go.RowKit
variable {κ : Cx}

/-! ### Contracts that read tables -/
theorem Stays.blk {B b : Nat} {e : TypeId} {xs : List Value} (h : b < B) : Stays B (Go.Proofs.Ytggijkmlmklneaa.blk b e xs) := fun _ _ _ g _ ⟨h1, h2⟩ => ⟨Nat.lt_of_lt_of_le h1 g.size, (g.block b h).trans h2⟩
/-- Called in a memory in which M holds, with values of which ds is known. -/
structure FnM (P : Program) (f : FuncId) (M : Env) (ds : List D) (d : D) : Prop where
  body : ∃ fn, P.funcs[f]? = some fn ∧ (fn.name == "runtime.NumGoroutine") = false ∧ fn.body.isNone = false
  calls : ∀ (vs : List Value) (w : World), (∀ p ∈ M, p.2.Of w undef) → vs.length = ds.length → (∀ (j : Nat) (e : D) (u : Value), ds[j]? = some e → vs[j]? = some u → e.Of w u) → Calls P f vs.toArray w (PostOf w d)
theorem Fn.m {P : Program} {f : FuncId} {M : Env} {ds : List D} {d : D} (h : Fn P f ds d) : FnM P f M ds d := ⟨h.body, fun vs w _ h1 h2 => h.calls vs w h1 h2⟩
theorem FnM.le {P : Program} {f : FuncId} {M : Env} {ds : List D} {d d' : D} (h : FnM P f M ds d) (hd : Le d d') : FnM P f M ds d' :=
  ⟨h.body, fun vs w h0 h1 h2 => (h.calls vs w h0 h1 h2).mono fun _ _ ⟨x, he, g, hx⟩ => ⟨x, he, g, hd.of hx⟩⟩
section
variable {P : Program} {B : Nat} {E : Env} {dst : Option Tmp} {ty : TypeId} {pos : String} {after : Array Edge} {guard : Option (Nat × Bool)}
end
/-- Slots, and facts on memory, at a function's beginning. -/
def StartM (B : Nat) (ds : List D) (M : Env) (E : Env) : Prop := ∀ p ∈ E, (p ∈ M ∧ vbase ≤ p.1) ∨ ∃ d, ds[p.1]? = some d ∧ (p.2 = d ∨ p.2 = old B d)
theorem StartM.nil {B : Nat} {ds : List D} {M : Env} : StartM B ds M [] := fun _ h => by cases h
theorem StartM.m {B : Nat} {ds : List D} {M : Env} {t : Nat} {d : D} {E : Env} (h : (t, d) ∈ M) (ht : vbase ≤ t) (hr : StartM B ds M E) : StartM B ds M ((t, d) :: E) := fun p hp => by
  rcases List.mem_cons.1 hp with rfl | hp
  · exact .inl ⟨h, ht⟩
  · exact hr p hp
theorem StartM.v {B : Nat} {ds : List D} {M : Env} {t : Nat} {d : D} {E : Env} (h : ds[t]? = some d) (hr : StartM B ds M E) : StartM B ds M ((t, d) :: E) := fun p hp => by
  rcases List.mem_cons.1 hp with rfl | hp
  · exact .inr ⟨d, h, .inl rfl⟩
  · exact hr p hp
theorem StartM.old {B : Nat} {ds : List D} {M : Env} {t : Nat} {d : D} {E : Env} (h : ds[t]? = some d) (hr : StartM B ds M E) : StartM B ds M ((t, Go.Proofs.Ytggijkmlmklneaa.old B d) :: E) := fun p hp => by
  rcases List.mem_cons.1 hp with rfl | hp
  · exact .inr ⟨d, h, .inr rfl⟩
  · exact hr p hp
theorem FnM.of {P : Program} {n : Nat} {f : FuncId} {fn : Func} {c : Code} {M : Env} {ds : List D} {d : D} (hf : P.funcs[f]? = some fn) (hb : fn.body = some c) (hname : (fn.name == "runtime.NumGoroutine") = false) (hn : fn.ntmps = n) (hds : ds.length ≤ n) (hnv : n ≤ vbase) (E : World → Env)
    (hE : ∀ w, StartM w.heap.size ds M (E w)) (h : ∀ w₀, (∀ p ∈ M, p.2.Of w₀ undef) → A Cx.top P w₀ n c (E w₀) (BP P fn (PostOf w₀ d))) : FnM P f M ds d := by
  refine ⟨⟨fn, hf, hname, by rw [hb]; rfl⟩, fun vs w hM hl hv => callsIn_FR.1 (callsIn_of_wp_marks (F := FR none) (n := 0) hf hb trivial (h w hM _ w (Below.refl _ _) ⟨Nat.le_refl _, rfl, ?_, fun t e he => ?_⟩))⟩
  · simp [hl, hn]; omega
  · show e.Of w ((vs.toArray ++ Array.replicate (fn.ntmps - vs.toArray.size) undef).getD t undef)
    rcases hE w _ (look_mem he) with ⟨hm, ht⟩ | ⟨d', hd', hor⟩
    · have h1 := hM _ hm
      rwa [Array.getD_eq_getD_getElem?, Array.getElem?_eq_none (by simp [hl, hn]; simp only at ht; omega)]
    · have hlt : t < vs.length := by have := (List.getElem?_eq_some_iff.1 hd').1; simp at this; omega
      have hget : (vs.toArray ++ Array.replicate (fn.ntmps - vs.toArray.size) undef).getD t undef = vs[t] := by
        rw [Array.getD_eq_getD_getElem?, Array.getElem?_append_left (by simpa using hlt)]
        simp [hlt]
      rw [hget]
      have h1 := hv t d' vs[t] hd' (List.getElem?_eq_getElem hlt)
      rcases hor with h2 | h2
      · simp only at h2; rw [h2]; exact h1
      · simp only at h2; rw [h2]; exact ⟨Nat.le_refl _, h1⟩

/-! ### Structs -/
def FieldIs (P : Program) (T : TypeId) (i off m : Nat) : Prop := (P.underlying T).bind (fun d => match d with | .struct fs => (fs[i]?).bind fun f => (P.info? f.type).map fun t => (f.offset, t.size) | _ => none) = some (off, m)
theorem add_lit0 (b o j : Nat) : (⟨b, o, none⟩ : Addr).add j = ⟨b, o + j, none⟩ := by unfold Addr.add; split <;> simp_all
section
variable {P : Program} {n B : Nat} {ops : Array Oper} {E : Env} {dst : Option Tmp} {ty : TypeId} {pos : String} {after : Array Edge} {guard : Option (Nat × Bool)}
/-- A field's address. -/
theorem ok_field {t : TypeId} {x : Operand} {i off m b o : Nat} (hf : FieldIs P t i off m) (hm : 0 < m) (hx : E.at x = some (.v (.pointer (some ⟨b, o, none⟩)))) :
    OpOk P B ⟨dst, .fieldAddr t x i, ty, pos, after, guard⟩ E (.v (.pointer (some ⟨b, o + off, none⟩))) := fun ρ w _ _ hρ => by
  have h1 : ρ x = _ := hρ x (by simp [Op.operands]) _ hx
  unfold FieldIs at hf
  cases hu : P.underlying t with
  | none => rw [hu] at hf; cases hf
  | some d =>
    rw [hu] at hf
    cases d with
    | struct fs =>
      simp only [Option.bind_some] at hf
      cases hfi : fs[i]? with
      | none => rw [hfi] at hf; cases hf
      | some f =>
        rw [hfi] at hf
        simp only [Option.bind_some] at hf
        cases hi : P.info? f.type with
        | none => rw [hi] at hf; cases hf
        | some inf =>
          rw [hi] at hf
          simp only [Option.map_some, Option.some.injEq, Prod.mk.injEq] at hf
          obtain ⟨h2, h3⟩ := hf
          refine out_val (w' := w) ?_ ⟨Grow.refl w, rfl⟩
          have : ¬ inf.size = 0 := by omega
          simp [execOp, h1, Instr.fieldAt, run_underlying hu, hfi, Instr.sureAddr, fieldPlace, sizeOf, typeInfo, hi, this, add_lit0, h2]
    | _ => simp at hf
/-- Part of a named block, an array's or a struct's, by value. -/
theorem ok_loadP {T : TypeId} {td : TypeDesc} {x : Operand} {b o m s : Nat} {e : TypeId} {xs ys : List Value} (hsl : vbase ≤ s) (ht : P.underlying T = some td) (hp : td.isRow = true) (hsz : SizeIs P T m)
    (hx : E.at x = some (.v (.pointer (some ⟨b, o, none⟩)))) (hblk : E.look s = some (blk b e xs)) (hle : o + m ≤ xs.length) (hys : (xs.drop o).take m = ys) : OpOk P B ⟨dst, .load T x, ty, pos, after, guard⟩ E (.v (aggV ys)) := fun ρ w _ hv hρ => by
  have h1 : ρ x = _ := hρ x (by simp [Op.operands]) _ hx
  obtain ⟨_, hh⟩ := hv s _ hsl hblk
  subst hys
  have hr : w.rangeAt b o ((xs.drop o).take m) := fun j v hj => by
    rw [List.getElem?_take] at hj
    split at hj
    · rw [List.getElem?_drop] at hj
      simp [World.cell?, hh, hj]
    · cases hj
  have := run_loadAt_mid (P := P) w b o T _ td hr ht hp (by simp only [SizeIs] at hsz; rw [hsz]; simp; omega)
  exact out_val (w' := w) (by simp [execOp, h1, this, aggV]) ⟨Grow.refl w, rfl⟩
theorem heap_setCells (b : Nat) (e : TypeId) : ∀ (vs : List Value) (o : Nat) (w : World) (xs : List Value), w.heap[b]? = some (.cells xs.toArray e (0, 0)) → o + vs.length ≤ xs.length → (w.setCells b o vs).heap[b]? = some (.cells (xs.take o ++ vs ++ xs.drop (o + vs.length)).toArray e (0, 0))
  | [], o, w, xs, h, _ => by simpa [World.setCells] using h
  | v :: r, o, w, xs, h, hle => by
    simp only [List.length_cons] at hle
    have h1 : (w.setCell ⟨b, o, none⟩ v).heap[b]? = some (.cells (xs.set o v).toArray e (0, 0)) := by
      simp [World.setCell, Array.getElem?_modify, h]
    have := heap_setCells b e r (o + 1) _ (xs.set o v) h1 (by simp; omega)
    rw [World.setCells, this]
    congr 3
    rw [List.take_set, List.drop_set]
    have hlt : o < xs.length := by omega
    rw [List.set_eq_take_append_cons_drop, if_pos (by simp; omega), List.take_take, Nat.min_eq_left (Nat.le_succ o), List.drop_take]
    simp only [Nat.sub_self, List.take_zero, List.append_assoc, List.cons_append, List.nil_append, List.length_cons]
    rw [if_pos (by omega), show o + 1 + r.length = o + (r.length + 1) from by omega]
theorem setCells_other (b : Nat) : ∀ (vs : List Value) (o : Nat) (w : World), (w.setCells b o vs).os = w.os ∧ (w.setCells b o vs).tape = w.tape ∧ (w.setCells b o vs).output = w.output ∧ (w.setCells b o vs).heap.size = w.heap.size ∧ ∀ k, k ≠ b → (w.setCells b o vs).heap[k]? = w.heap[k]?
  | [], _, _ => ⟨rfl, rfl, rfl, rfl, fun _ _ => rfl⟩
  | v :: r, o, w => by
    obtain ⟨h1, h2, h3, h4, h5⟩ := setCells_other b r (o + 1) (w.setCell ⟨b, o, none⟩ v)
    refine ⟨h1, h2, h3, h4.trans (by simp [World.setCell]), fun k hk => (h5 k hk).trans ?_⟩
    simp [World.setCell, Array.getElem?_modify, Ne.symm hk]
theorem Wrote.setCells {B g : Nat} {w : World} {xs : List Value} {T : TypeId} (hb : B ≤ g) (hh : w.heap[g]? = some (.cells xs.toArray T (0, 0))) (o : Nat) (vs : List Value) : Wrote B T g w (w.setCells g o vs) := by
  obtain ⟨h1, h2, h3, h4, h5⟩ := setCells_other g vs o w
  exact ⟨hb, h1, h2, h3, by omega, fun o h => by rw [hh] at h; injection h with h; exact ⟨_, _, h.symm⟩, fun k _ hk => h5 k hk⟩
/-- Part of a named block is written, by value. -/
theorem eff_storeP {T : TypeId} {p x : Operand} {b o s : Nat} {e : TypeId} {xs ys : List Value} {E' : Env} (hsz : SizeIs P T ys.length) (hp : E.at p = some (.v (.pointer (some ⟨b, o, none⟩)))) (hx : E.at x = some (.v (aggV ys))) (h1 : ys.all (·.oneCell') = true)
    (hb : B ≤ b) (hblk : E.look s = some (blk b e xs)) (ho : o + ys.length ≤ xs.length) (hl : LeftS B e b E' E) :
    Eff P n B ops ⟨none, .store T p x, ty, pos, after, none⟩ E ((s, blk b e (xs.take o ++ ys ++ xs.drop (o + ys.length))) :: E') := by
  intro κ a w K Q h hK
  have hp' : a.eval p = _ := h.at_ p _ hp
  have hx' : a.eval x = _ := h.at_ x _ hx
  obtain ⟨hlt, hh⟩ := h.of s _ hblk
  have hthere : w.there b o ys.toArray.size := fun j hj => by
    simp only [List.size_toArray] at hj
    have : o + j < xs.length := by omega
    simp [World.cell?, World.frozen?, hh, this]
  have hrun : (execOp a.eval ⟨none, .store T p x, ty, pos, after, none⟩).run P w = .ok .skip (w.setCells b o ys) := by
    have := run_storeAt_mid (P := P) w b o T ys.toArray hthere (by simpa [SizeIs] using hsz) (by simpa using h1)
    simp [execOp, hp', hx', aggV, this]
  rw [if_pos (by simp [Region.wanted])]
  refine opR (by nofun) ?_
  unfold Oper.wp
  rw [hrun, Oper.upon_skip]
  have hwr := Wrote.setCells hb hh o ys
  have hst := hl.st h hwr
  refine hK _ _ (hwr.below h.base) ⟨hst.base, hst.defers, hst.size, fun t' d hd => ?_⟩
  by_cases hts : s = t'
  · subst hts
    rw [look_here] at hd; injection hd with hd; subst hd
    exact ⟨Nat.lt_of_lt_of_le hlt hwr.size, heap_setCells b e ys o w xs hh ho⟩
  · rw [look_past _ _ hts] at hd
    exact hst.of t' d hd

/-! ### Slices told exactly -/
/-- A bound of a slice expression: given, or not. -/
def Bnd (E : Env) (x : Option Operand) (v : Nat) (dflt : Nat) : Prop := (∃ o k, x = some o ∧ E.at o = some (.v (.int k (v : Int)))) ∨ (x = none ∧ v = dflt)
theorem Bnd.get {ρ : Operand → Value} {x : Option Operand} {v dflt : Nat} (h : Bnd E x v dflt) (hρ : ∀ o, x = some o → ∀ u, E.at o = some (.v u) → ρ o = u) : (∃ k, x.map ρ = some (.int k (v : Int))) ∨ (x.map ρ = none ∧ v = dflt) := by
  rcases h with ⟨o, k, rfl, ho⟩ | ⟨rfl, hv⟩
  · exact .inl ⟨k, by simp [hρ o rfl _ ho]⟩
  · exact .inr ⟨rfl, hv⟩
theorem sliceBounds_run {sl : Bool} {len cap l h m : Nat} {L H M : Option Value} (w : World) (hL : (∃ k, L = some (.int k (l : Int))) ∨ (L = none ∧ l = 0)) (hH : (∃ k, H = some (.int k (h : Int))) ∨ (H = none ∧ M = none ∧ h = len))
    (hM : (∃ k, M = some (.int k (m : Int))) ∨ (M = none ∧ m = cap)) (hlh : l ≤ h) (hhm : h ≤ m) (hml : m ≤ cap) : (Instr.sliceBounds sl len cap L H M).run P w = .ok (l, h, m) w := by
  rcases hL with ⟨k1, rfl⟩ | ⟨rfl, rfl⟩ <;> rcases hH with ⟨k2, rfl⟩ | ⟨rfl, hx, rfl⟩ <;> rcases hM with ⟨k3, rfl⟩ | ⟨rfl, rfl⟩ <;>
    first
      | (cases hx; done)
      | (simp [Instr.sliceBounds, Instr.sliceBound, asIntOf, hlh, hhm, hml]; done)
      | simp [Instr.sliceBounds, Instr.sliceBound, asIntOf, hhm]
/-- Part of an array behind a pointer into a block. -/
theorem ok_sliceX {t e : TypeId} {len : Nat} {z : Value} {nb : Nat} {x : Operand} {lo hi mx : Option Operand} {b o l h m : Nat} (ht : P.underlying t = some (.array len e)) (hs : InfoIs P e z nb) (hx : E.at x = some (.v (.pointer (some ⟨b, o, none⟩))))
    (hlo : Bnd E lo l 0) (hhi : (∃ ho k, hi = some ho ∧ E.at ho = some (.v (.int k (h : Int)))) ∨ (hi = none ∧ mx = none ∧ h = len)) (hmx : Bnd E mx m len) (hlh : l ≤ h) (hhm : h ≤ m) (hml : m ≤ len) (hne : l < m ∨ l = 0) :
    OpOk P B ⟨dst, .slice t x lo hi mx, ty, pos, after, guard⟩ E (.v (.slice (some ⟨b, o + l, none⟩) (h - l) (m - l))) := fun ρ w _ _ hρ => by
  have h1 : ρ x = _ := hρ x (by simp [Op.operands]) _ hx
  obtain ⟨info, hinfo, _, hsize, _⟩ := hs.get
  have hlo' := hlo.get (ρ := ρ) fun o ho u hu => hρ o (by simp [Op.operands, ho]) _ hu
  have hmx' := hmx.get (ρ := ρ) fun o ho u hu => hρ o (by simp [Op.operands, ho]) _ hu
  have hhi' : (∃ k, hi.map ρ = some (.int k (h : Int))) ∨ (hi.map ρ = none ∧ mx.map ρ = none ∧ h = len) := by
    rcases hhi with ⟨ho, k, rfl, hh⟩ | ⟨rfl, rfl, hh⟩
    · exact .inl ⟨k, by simp [show ρ ho = _ from hρ ho (by simp [Op.operands]) _ hh]⟩
    · exact .inr ⟨rfl, rfl, hh⟩
  have haddr : (if m = l then (⟨b, o, none⟩ : Addr) else (⟨b, o, none⟩ : Addr).add (l * 1)) = ⟨b, o + l, none⟩ := by
    rw [add_lit0, Nat.mul_one]
    split
    · rcases hne with h | h
      · omega
      · rw [h, Nat.add_zero]
    · rfl
  have hr : (Instr.sliceAt t (.pointer (some ⟨b, o, none⟩)) (lo.map ρ) (hi.map ρ) (mx.map ρ)).run P w = .ok (.slice (some ⟨b, o + l, none⟩) (h - l) (m - l)) w := by
    rw [← haddr]
    have hb := sliceBounds_run (P := P) (sl := false) w hlo' hhi' hmx' hlh hhm hml
    simp [Instr.sliceAt, run_underlying ht, Instr.sureAddr, hb, sizeOf, typeInfo, hinfo, hsize]
  exact out_val (w' := w) (by simp only [execOp, h1, Sem.run_bind, hr, Result.andThen_ok, Sem.run_pure]) ⟨Grow.refl w, rfl⟩
/-- An element of an array's value, the elements of one cell each. -/
theorem ok_indexV1 {t e : TypeId} {len : Nat} {td : TypeDesc} {z : Value} {nb : Nat} {x i : Operand} {xs : List Value} {k : IntKind} {j : Int} {u : Value} (m : Nat) (ht : P.underlying t = some (.array len e)) (he : P.underlying e = some td) (hp : plainTD td = true) (hs : InfoIs P e z nb)
    (hx : E.at x = some (.v (aggV xs))) (hi : E.at i = some (.v (.int k j))) (hj : j = (m : Int)) (hm : m < len) (hu : xs[m]? = some u) : OpOk P B ⟨dst, .index t x i, ty, pos, after, guard⟩ E (.v u) := fun ρ w _ _ hρ => by
  have h1 : ρ x = _ := hρ x (by simp [Op.operands]) _ hx
  have h2 : ρ i = _ := hρ i (by simp [Op.operands]) _ hi
  obtain ⟨info, hinfo, _, hsize, _⟩ := hs.get
  subst hj
  have hagg : (isAgg e).run P w = .ok false w := by
    unfold isAgg
    rw [Sem.run_bind, run_underlying he w]
    cases td <;> simp_all [plainTD]
  refine out_val (w' := w) ?_ ⟨Grow.refl w, rfl⟩
  simp [execOp, h1, h2, aggV, Instr.index, asIntOf, run_underlying ht, hm, sizeOf, typeInfo, hinfo, hsize, part, hagg, hu]
end
end Go.Proofs.Ytggijkmlmklneaa
namespace Go.Proofs.Ytggijkmlmklneaa
open Go Go.RowKit
set_option linter.unusedVariables false
variable {κ : Cx}
abbrev nI (n : Nat) : Value := .int .i64 (n : Int)
abbrev nB (n : Nat) : Value := .int .u8 (n : Int)
section
variable {P : Program} {B n : Nat} {ops : Array Oper} {E E' : Env} {C : Env → Prop} {rest : List Oper} {t : Nat} {d : D} {ty : TypeId} {pos : String} {after : Array Edge} {o : Oper} {x y c : Operand} {s : Nat}
theorem KC (t : Nat) {d : D} (h : E.look t = some d) (hs : Sub E' E) : Sub ((t, d) :: E') E := Sub.cons h hs
theorem KE (t : Nat) {d e : D} (h : E.look t = some e) (he : e = d) (hs : Sub E' E) : Sub ((t, d) :: E') E := Sub.eq e h he hs
theorem KN : Sub [] E := Sub.nil
section
variable {T g : Nat}
theorem LV (t : Nat) {v : Value} (h : E.look t = some (.v v)) (hr : LeftS B T g E' E) : LeftS B T g ((t, .v v) :: E') E := LeftS.cons h (Surv.v _) hr
theorem LT (t : Nat) {b : Nat} {e : TypeId} {xs : List Value} (h : E.look t = some (blk b e xs)) (hr : LeftS B T g E' E) (hne : e ≠ T := by decide) : LeftS B T g ((t, blk b e xs) :: E') E := LeftS.cons h (Surv.blkT hne) hr
theorem LB (t : Nat) {b : Nat} {e : TypeId} {xs : List Value} (h : E.look t = some (blk b e xs)) (hr : LeftS B T g E' E) (hne : b ≠ g := by omega) : LeftS B T g ((t, blk b e xs) :: E') E := LeftS.cons h (Surv.blk hne) hr
theorem LO (t : Nat) {B' : Nat} {d : D} (h : E.look t = some (old B' d)) (hr : LeftS B T g E' E) (hle : B' ≤ g := by omega) : LeftS B T g ((t, old B' d) :: E') E := LeftS.cons h (Surv.old hle) hr
theorem LN : LeftS B T g [] E := LeftS.nil
end
/-- The next operation's value. -/
theorem RS (h : OpOk P B o E d) (hr : RunK P B ops rest ((t, d) :: E) C) (ht : o.dst = some t := by exact rfl) (hg : o.guard = none := by exact rfl) : RunK P B ops (o :: rest) E C := RunK.step ht hg h hr
theorem RM (h : E.at x = some d) (hr : RunK P B ops rest ((t, d) :: E) C) : RunK P B ops (⟨some t, .move x, ty, pos, after, none⟩ :: rest) E C := RunK.step rfl rfl (ok_move h) hr
theorem RB {op : BinOp} {u u' : TypeId} {a b v : Value} (hx : E.at x = some (.v a)) (hy : E.at y = some (.v b)) (h : binV op a b = some v) (hr : RunK P B ops rest ((t, .v v) :: E) C) : RunK P B ops (⟨some t, .binOp op u x y u', ty, pos, after, none⟩ :: rest) E C := RunK.step rfl rfl (ok_bin hx hy h) hr
theorem RP {b : Bool} (hc : E.at c = some (.v (.bool b))) (h : E.at (cond b x y) = some d) (hr : RunK P B ops rest ((t, d) :: E) C) : RunK P B ops (⟨some t, .pick c x y, ty, pos, after, none⟩ :: rest) E C := RunK.step rfl rfl (ok_pick hc h) hr
theorem RQ {j : Nat} {want : Bool} (h : OpOk P B o E d) (hr : RunK P B ops rest ((t, d) :: E) C) (ht : o.dst = some t := by exact rfl) (hg : o.guard = some (j, want) := by exact rfl) (hj : ((ops[j]?).bind (·.dst)) = some s := by exact rfl) (hE : E.look s = some (.v (.bool want)) := by exact rfl) : RunK P B ops (o :: rest) E C := RunK.guarded ht hg hj hE h hr
theorem RZ (x : Value) {y : Value} (h : y = x) (hr : RunK P B ops rest ((t, .v x) :: E) C) : RunK P B ops rest ((t, .v y) :: E) C := RunK.as x h hr
theorem RN (h : C E) : RunK P B ops [] E C := RunK.nil h
theorem TL {draw : Bool} {s : Nat} (h : RunK P B ops (ops.toList.drop s) E C) : RunTK P n B ops draw C s E := RunTK.last h
theorem TF {s : Nat} (p : Nat) (h : RunK P B ops ((ops.toList.drop s).take (p - s)) E (fun E₁ => ∃ E₂, Eff P n B ops o E₁ E₂ ∧ RunTK P n B ops false C (p + 1) E₂)) (hsp : s ≤ p := by decide) (ho : ops[p]? = some o := by exact rfl) : RunTK P n B ops false C s E := RunTK.eff p hsp ho (.inl rfl) h
theorem TD {s : Nat} (p : Nat) (h : RunK P B ops ((ops.toList.drop s).take (p - s)) E (fun E₁ => ∃ E₂, Eff P n B ops o E₁ E₂ ∧ RunTK P n B ops true C (p + 1) E₂)) (hsp : s ≤ p := by decide) (ho : ops[p]? = some o := by exact rfl) (hb : barrier ops p = true := by kernel_rfl) : RunTK P n B ops true C s E := RunTK.eff p hsp ho (.inr hb) h
theorem TN {s : Nat} (p : Nat) (h : RunK P B ops ((ops.toList.drop s).take (p - s)) E (fun E₁ => ∃ (G : Nat → Prop) (E₂ : Nat → Env), EffG P n B ops o E₁ G E₂ ∧ ∀ b, G b → RunTK P n B ops false C (p + 1) (E₂ b))) (hsp : s ≤ p := by decide) (ho : ops[p]? = some o := by exact rfl) : RunTK P n B ops false C s E := RunTK.new p hsp ho (.inl rfl) h
theorem A1 {a : D} {xs : Operand} (h : E.at xs = some a) : Args E [a] [xs] := Args.cons h (Le.refl _) Args.nil
theorem A2 {a b : D} {x y : Operand} (h : E.at x = some a) (k : E.at y = some b) : Args E [a, b] [x, y] := Args.cons h (Le.refl _) (A1 k)
end
section
variable {P : Program} {n : Nat} {w₀ : World} {E E₁ : Env} {y c : Code} {Q : Exit → Act → World → Prop} {id : Nat} {ops : Array Oper}
theorem GS (hr : RunTK P n w₀.heap.size ops false (fun E₁ => A κ P w₀ n y E₁ Q) 0 E) (hm : P.follows .mixedOrders = true := by kernel_rfl) (hf : fits n ops = true := by kernel_rfl) : A κ P w₀ n (.seq (.region id ops false) y) E Q := A.regs hm hf (.inl rfl) hr
theorem GD (hr : RunTK P n w₀.heap.size ops true (fun E₁ => A κ P w₀ n y E₁ Q) 0 E) (hm : P.follows .mixedOrders = true := by kernel_rfl) (hf : fits n ops = true := by kernel_rfl) (ht : tied ops = true := by kernel_rfl) : A κ P w₀ n (.seq (.region id ops true) y) E Q := A.regs hm hf (.inr ht) hr
theorem EN (h : A κ P w₀ n y E Q) : End κ w₀ n E (Exit.then (y.wpIn (FR κ.rd) 0 P Q) Q .normal) := End.normal_then (End.code h)
theorem GE (hr : RunTK P n w₀.heap.size ops false (fun E₁ => End κ w₀ n E₁ (Q .normal)) 0 E) (hm : P.follows .mixedOrders = true := by kernel_rfl) (hf : fits n ops = true := by kernel_rfl) : A κ P w₀ n (.region id ops false) E Q := A.reg hm hf (.inl rfl) hr
end
end Go.Proofs.Ytggijkmlmklneaa
namespace Go.Proofs.Ytggijkmlmklneaa
open Go Go.RowKit

/-- A law that is known by facts returns true, and writes nothing that was there. -/
theorem Fn.law {P : Program} {f : FuncId} {ds : List D} (h : Fn P f ds (.v (.bool true))) (vs : List Value) (w : World) (hl : vs.length = ds.length) (hv : ∀ (j : Nat) (e : D) (u : Value), ds[j]? = some e → vs[j]? = some u → e.Of w u) :
    Calls P f vs.toArray w fun e w' => e = .returned (.bool true) ∧ Below w.heap.size w w' :=
  (h.calls vs w hl hv).mono fun e w' ⟨x, he, g, hx⟩ => ⟨by have hx : x = .bool true := hx; rw [he, hx], g⟩
theorem facts_nil {w : World} : ∀ (j : Nat) (e : D) (u : Value), ([] : List D)[j]? = some e → ([] : List Value)[j]? = some u → e.Of w u := fun j e u h => by simp at h
theorem facts_cons {w : World} {d : D} {v : Value} {ds : List D} {vs : List Value} (h : d.Of w v) (hr : ∀ (j : Nat) (e : D) (u : Value), ds[j]? = some e → vs[j]? = some u → e.Of w u) : ∀ (j : Nat) (e : D) (u : Value), (d :: ds)[j]? = some e → (v :: vs)[j]? = some u → e.Of w u := fun j e u he hu => by
  cases j with
  | zero => simp at he hu; subst he; subst hu; exact h
  | succ j => exact hr j e u (by simpa using he) (by simpa using hu)
theorem block_of_cell {w : World} {a : Addr} {v : Value} (h : w.cell? a = some v) : a.block < w.heap.size := by
  rcases Nat.lt_or_ge a.block w.heap.size with hlt | hge
  · exact hlt
  · simp [World.cell?, Array.getElem?_eq_none hge] at h
/-- A slice of bytes that came in reads as a list. -/
theorem byt_of_cells {w : World} {a : Option Addr} {len cap : Nat} {zs : List Int}
    (h : (a = none ∧ len = 0 ∧ cap = 0 ∧ zs = []) ∨ ∃ x, a = some x ∧ len ≤ cap ∧ cap ≤ maxLen ∧ zs.length = cap ∧ (∀ i, i < zs.length → w.cell? (x.add i) = some (.int .u8 (zs.getD i 0))) ∧ ∀ n ∈ zs, (Lit.int .u8 n).wf = true) :
    ∃ l : List UInt8, l.length = len ∧ (byt l).Of w (.slice a len cap) := by
  rcases h with ⟨rfl, rfl, rfl, rfl⟩ | ⟨x, rfl, hl, hm, hz, hc, hw⟩
  · exact ⟨[], rfl, byt_nil_le.of (w := w) (x := .slice none 0 0) rfl⟩
  · refine ⟨(zs.take len).map fun n => UInt8.ofNat n.toNat, by simp; omega, cap, ?_⟩
    have hlen : ((zs.take len).map fun n => UInt8.ofNat n.toNat).length = len := by simp; omega
    have hrow : RowIn w.heap.size w (some x) (((zs.take len).map fun n => UInt8.ofNat n.toNat).map byteV) := fun j u hu => by
      simp only [List.map_map, List.getElem?_map] at hu
      cases hj : (zs.take len)[j]? with
      | none => rw [hj] at hu; cases hu
      | some n =>
        rw [hj] at hu
        simp only [Option.map_some, Option.some.injEq, Function.comp_def] at hu
        rw [List.getElem?_take] at hj
        split at hj
        · have hlt : j < zs.length := (List.getElem?_eq_some_iff.1 hj).1
          have hn : zs.getD j 0 = n := by rw [List.getD_eq_getElem?_getD, hj]; rfl
          have h1 := hc j hlt
          rw [hn] at h1
          have h2 := hw n (List.mem_of_getElem? hj)
          simp [Lit.wf, IntKind.min, IntKind.max, IntKind.signed, IntKind.bits] at h2
          have h3 : byteV (UInt8.ofNat n.toNat) = .int .u8 n := by
            unfold byteV
            congr 1
            simp
            omega
          rw [h3] at hu
          subst hu
          refine ⟨x, rfl, ?_, h1⟩
          have := block_of_cell h1
          rwa [block_of_add] at this
        · cases hj
    have := bytes_mk (c := cap) (by omega) hm hrow
    rw [hlen] at this
    exact this
end Go.Proofs.Ytggijkmlmklneaa
namespace Go.Proofs.Ytggijkmlmklneaa
open Go Go.RowKit

/-- The k lowest bytes of v, the most significant one first. -/
def be (k v : Nat) : List UInt8 := (List.range k).map fun i => UInt8.ofNat (v / 256 ^ (k - 1 - i))
/-! ### Numbers of Go -/
theorem wrap_i64 {n : Int} (h0 : -9223372036854775808 ≤ n) (h : n ≤ 9223372036854775807) : IntKind.i64.wrap n = n := by
  rw [IntKind.wrap_i64]; omega
theorem wrapN_i64 {n : Nat} (h : n < 9223372036854775808) : IntKind.i64.wrap (n : Int) = n := wrap_i64 (by omega) (by omega)
theorem wrap_u8_nat (n : Nat) : IntKind.u8.wrap (n : Int) = ((UInt8.ofNat n).toNat : Int) := by
  simp only [IntKind.wrap, IntKind.bits, IntKind.signed, Bool.false_and, Bool.false_eq_true, if_false]
  simp
theorem fill_step {l : List UInt8} {f : UInt8 → Value} {z : Value} {i : Nat} {c : UInt8} (h : l[i]? = some c) :
    ((l.take i).map f ++ List.replicate (l.length - i) z).set i (f c) = (l.take (i + 1)).map f ++ List.replicate (l.length - (i + 1)) z := by
  have hi : i < l.length := (List.getElem?_eq_some_iff.1 h).1
  have h1 : l.length - i = (l.length - (i + 1)) + 1 := by omega
  rw [List.take_add_one, h, h1, List.replicate_succ, List.set_append_right _ _ (by simp; omega)]
  simp [Nat.min_eq_left (Nat.le_of_lt hi)]
theorem tmod_lit (a : Nat) {k : Int} (hk : 0 < k) : (a : Int).tmod k = ((a % k.toNat : Nat) : Int) := by
  rw [Int.tmod_eq_emod_of_nonneg (by omega), Int.natCast_emod, Int.toNat_of_nonneg (by omega)]
/-! ### Rotations -/
def rotB (v : Nat) (s : Nat) : Nat := ((BitVec.ofNat 32 v).rotateLeft s).toNat
def nb (l : List Nat) : Nat := l.foldl (fun v b => 2 * v + b) 0
/-! ### Exclusive or -/
end Go.Proofs.Ytggijkmlmklneaa
namespace Go.Proofs.Ytggijkmlmklneaa
open Go Go.RowKit

/-! ### Numbers of 32 bits -/
def u32V (x : UInt32) : Value := .int .u32 (x.toNat : Int)
/-- n places to the right. -/
def rotr32 (x : UInt32) (n : Nat) : UInt32 := UInt32.ofNat (rotB x.toNat (32 - n))
section
variable {P : Program} {B : Nat} {E : Env} {dst : Option Tmp} {ty : TypeId} {pos : String} {after : Array Edge} {guard : Option (Nat × Bool)} {t t' : TypeId} {x y : Operand} {a b : UInt32}
end

/-! ### SHA-256 -/
structure R8 where
  (a b c d e f g h : UInt32)
def R8.list (s : R8) : List UInt32 := [s.a, s.b, s.c, s.d, s.e, s.f, s.g, s.h]
def R8.add (s t : R8) : R8 := ⟨s.a + t.a, s.b + t.b, s.c + t.c, s.d + t.d, s.e + t.e, s.f + t.f, s.g + t.g, s.h + t.h⟩
theorem R8.size (s : R8) : (s.list.map u32V).length = 8 := rfl
def big0 (x : UInt32) : UInt32 := rotr32 x 2 ^^^ rotr32 x 13 ^^^ rotr32 x 22
def big1 (x : UInt32) : UInt32 := rotr32 x 6 ^^^ rotr32 x 11 ^^^ rotr32 x 25
def choice (e f g : UInt32) : UInt32 := (e &&& f) ^^^ (~~~e &&& g)
def most (a b c : UInt32) : UInt32 := (a &&& b) ^^^ (a &&& c) ^^^ (b &&& c)
def round8 (s : R8) (k w : UInt32) : R8 :=
  let t1 := s.h + big1 s.e + choice s.e s.f s.g + k + w
  ⟨t1 + (big0 s.a + most s.a s.b s.c), s.a, s.b, s.c, s.d + t1, s.e, s.f, s.g⟩
def rounds (s : R8) (ks ws : List UInt32) : Nat → R8
  | 0 => s
  | t + 1 => round8 (rounds s ks ws t) (ks.getD t 0) (ws.getD t 0)
/-- The words of the table so far, zeros behind. -/
def table (ws : List UInt32) (m : Nat) : List Value := (ws ++ List.replicate (m - ws.length) 0).map u32V
/-! ### The digest's bytes -/
theorem all_bytes (xs : List UInt8) : (xs.map byteV).all (·.oneCell') = true := by simp [byteV, Value.oneCell']
end Go.Proofs.Ytggijkmlmklneaa
namespace Go.Proofs.Ytggijkmlmklneaa
open Go Go.RowKit Go.ChangeShapes Go.WideShapes

theorem FnM.law {P : Program} {f : FuncId} {M : Env} {ds : List D} (h : FnM P f M ds (.v (.bool true))) (vs : List Value) (w : World) (hM : ∀ p ∈ M, p.2.Of w undef) (hl : vs.length = ds.length) (hv : ∀ (j : Nat) (e : D) (u : Value), ds[j]? = some e → vs[j]? = some u → e.Of w u) :
    Calls P f vs.toArray w fun e w' => e = .returned (.bool true) ∧ Below w.heap.size w w' :=
  (h.calls vs w hM hl hv).mono fun e w' ⟨x, he, g, hx⟩ => ⟨by have hx : x = .bool true := hx; rw [he, hx], g⟩

section
variable {H : Type} {enc : TypeId × Value → H} {P : Program} {w : World} {base : Nat} {spare : Nat → Bool} {held : Bool}
/-- A slice of bytes, read. -/
theorem trod_byt {t e : TypeId} {fuel : Nat} {cs : List Value} {x : DataW H × List MemPlace} (ht : P.underlying t = some (.slice e)) (he : P.underlying e = some (.int .u8)) (hc : P.cellsOf e = 1) (hsp : ∀ b, spare b = true)
    (h : DataW.trod enc P w base spare held fuel t cs = some x) : ∃ v l, cs = [v] ∧ (byt l).Of w v := by
  rcases open_ints ht he hc h with ⟨rfl, _⟩ | ⟨a, len, cap, zs, rfl, _, hl, hm, hz, _, hcell, hwf⟩
  · obtain ⟨l, _, h1⟩ := byt_of_cells (w := w) (a := none) (len := 0) (cap := 0) (zs := []) (.inl ⟨rfl, rfl, rfl, rfl⟩)
    exact ⟨_, l, rfl, h1⟩
  · obtain ⟨l, _, h1⟩ := byt_of_cells (w := w) (a := some a) (len := len) (cap := cap) (zs := zs) (.inr ⟨a, rfl, hl, hm, by rw [hz, hsp, if_pos rfl], hcell, hwf⟩)
    exact ⟨_, l, rfl, h1⟩
theorem okWide_arr' {r : Reach} {b0 n : Nat} {t e : TypeId} {v : Value} (ht : P.underlying t = some (.array n e)) (h : Value.okWide P w r b0 t v) : ∃ cs, v = .agg cs := by
  unfold Value.okWide at h
  rw [ht] at h
  obtain ⟨cs, h, _⟩ := h
  exact ⟨cs, h⟩
theorem wf_u8 {m : Int} (h : (Lit.int .u8 m).wf = true) : Value.int .u8 m = byteV (UInt8.ofNat m.toNat) := by
  simp [Lit.wf, IntKind.min, IntKind.max, IntKind.signed, IntKind.bits] at h
  unfold byteV
  congr 1
  simp
  omega
theorem arg_i64 {t : TypeId} {v : Value} (ht : P.underlying t = some (.int .i64)) {r : Reach} {b0 : Nat} (hk : Value.okWide P w r b0 t v) : ∃ n : Int, v = .int .i64 n := by
  obtain ⟨n, rfl⟩ := okWide_int ht hk
  exact ⟨n, rfl⟩
end

/-! ### Listed tables -/
end Go.Proofs.Ytggijkmlmklneaa
namespace Go.Proofs.Ytggijkmlmklneaa
open Go Go.RowKit
variable {κ : Cx}

/-! ### Facts on memory -/
/-- Block b is the object o; there are at least m blocks. -/
def recD (b : Nat) (o : Obj) (m : Nat) : D := .p (fun B w _ => b < B ∧ m ≤ B ∧ w.heap[b]? = some o) (fun _ _ _ _ g ⟨h1, h2, h3⟩ => ⟨h1, h2, (g.block b h1).trans h3⟩) (fun _ _ _ _ g ⟨h1, h2, h3⟩ => ⟨Nat.lt_of_lt_of_le h1 g, Nat.le_trans h2 g, h3⟩)
theorem Surv.rec {B T g b m : Nat} {o : Obj} (h : o.isCells = false) : Surv B T g (recD b o m) := fun w _ _ k ⟨h1, h2, h3⟩ => by
  refine ⟨Nat.lt_of_lt_of_le h1 k.size, Nat.le_trans h2 k.size, (k.other b h1 fun hb => ?_).trans h3⟩
  subst hb
  obtain ⟨cs, fr, hx⟩ := k.cel _ h3
  subst hx; cases h
/-- A property of memory that stays while memory grows, as a fact. -/
def jD (J : World → Prop) : D := .p (fun B w _ => ∃ v : World, J v ∧ v.heap.size ≤ B ∧ Below v.heap.size v w) (fun _ _ _ _ g ⟨v, h1, h2, h3⟩ => ⟨v, h1, h2, h3.trans (g.mono h2)⟩) (fun _ _ _ _ g ⟨v, h1, h2, h3⟩ => ⟨v, h1, Nat.le_trans h2 g, h3⟩)
theorem jD_get {J : World → Prop} (hst : ∀ a b, J a → Grow a b → J b) {w : World} {x : Value} (h : (jD J).Of w x) : J w := by
  obtain ⟨v, h1, _, h3⟩ := h
  exact hst v w h1 h3
theorem below_two {B : Nat} {w₀ w w' : World} (h : Below B w₀ w) (h' : Below B w₀ w') (hs : w.heap.size ≤ w'.heap.size) : Below B w w' :=
  ⟨h'.os.trans h.os.symm, h'.tape.trans h.tape.symm, h'.output.trans h.output.symm, hs, fun k hk => (h'.block k hk).trans (h.block k hk).symm⟩
/-- The fact survives a turn of block l, which is no cells before and after. -/
def Firm (l : Nat) (d : D) : Prop := ∀ (w : World) (o o' : Obj) (x : Value), w.heap[l]? = some o → o.isCells = false → d.Of w x → d.Of (w.putObj l o') x
theorem Firm.v (l : Nat) (x : Value) : Firm l (.v x) := fun _ _ _ _ _ _ h => h
theorem below_putObj {B l : Nat} (w : World) (o' : Obj) (h : B ≤ l) : Below B w (w.putObj l o') := ⟨rfl, rfl, rfl, by simp, fun _ hk => World.putObj_heap_other (by omega)⟩
theorem Firm.old {l B : Nat} {d : D} (h : B ≤ l) : Firm l (Go.Proofs.Ytggijkmlmklneaa.old B d) := fun w _ o' _ _ _ ⟨h1, h2⟩ => ⟨by simpa using h1, D.OfB.keep h2 (below_putObj w o' h)⟩
theorem Firm.blk {l b : Nat} {e : TypeId} {xs : List Value} : Firm l (Go.Proofs.Ytggijkmlmklneaa.blk b e xs) := fun w o o' _ hl ho ⟨h1, h2⟩ => ⟨by simpa using h1, (World.putObj_heap_other (fun hb => by
  subst hb; rw [h2] at hl; injection hl with hl; subst hl; cases ho)).trans h2⟩
/-- Facts on memory that hold in w, which is above w₀. -/
def Holds (w₀ : World) (V : Env) (w : World) : Prop := Below w₀.heap.size w₀ w ∧ w₀.heap.size ≤ w.heap.size ∧ ∀ p ∈ V, p.2.Of w undef
theorem Holds.grow {w₀ w w' : World} {V : Env} (h : Holds w₀ V w) (g : Grow w w') : Holds w₀ V w' := ⟨h.1.trans (g.mono h.2.1), Nat.le_trans h.2.1 g.size, fun p hp => (h.2.2 p hp).grow g⟩
theorem Holds.putObj {w₀ w : World} {V : Env} {l : Nat} {o : Obj} (o' : Obj) (h : Holds w₀ V w) (hl : w.heap[l]? = some o) (ho : o.isCells = false) (hB : w₀.heap.size ≤ l) (hf : ∀ p ∈ V, Firm l p.2) : Holds w₀ V (w.putObj l o') :=
  ⟨h.1.trans (below_putObj w o' hB), by simpa using h.2.1, fun p hp => hf p hp w o o' _ hl ho (h.2.2 p hp)⟩

/-! ### The call of yield -/
section
variable {P : Program} {n : Nat} {w₀ : World} {ops : Array Oper} {E : Env} {ty : TypeId} {pos : String} {after : Array Edge}
/-- What yield does at each round: it goes on, and the property of memory moves on by one. -/
def Yields (P : Program) (N : Nat) (l : Nat) (arg : Nat → D) (J : Nat → World → Prop) : Prop :=
  ∀ (i : Nat) (W : World) (u : Value), i < N → J i W → (arg i).Of W u → YieldAt (FR none) 0 P l #[u] W fun e W' => e = .returned (.bool true) ∧ J (i + 1) W' ∧ W.heap.size ≤ W'.heap.size
structure Seqs (P : Program) (w₀ : World) (N : Nat) (l : Nat) (arg : Nat → D) (V : Nat → Env) (J : Nat → World → Prop) : Prop where
  grow : ∀ i a b, J i a → Grow a b → J i b
  holds : ∀ i W, J i W → Holds w₀ (V i) W
  yields : Yields P N l arg J
theorem Seqs.sub {N l : Nat} {arg : Nat → D} {V V' : Nat → Env} {J : Nat → World → Prop} (h : Seqs P w₀ N l arg V J) (hs : ∀ i, ∀ p ∈ V' i, p ∈ V i) : Seqs P w₀ N l arg V' J :=
  ⟨h.grow, fun i W hJ => ⟨(h.holds i W hJ).1, (h.holds i W hJ).2.1, fun p hp => (h.holds i W hJ).2.2 p (hs i p hp)⟩, h.yields⟩
/-- The end of a function that is ranged over. -/
theorem End.seq {fn : Func} {N l : Nat} {arg : Nat → D} {V : Nat → Env} {J : Nat → World → Prop} {vJ : Nat} (hq : Seqs P w₀ N l arg V J) (hr : fn.results = #[]) (hJ : E.look vJ = some (jD (J N))) :
    End Cx.top w₀ n E (BP P fn (fun e W => (∃ v, e = .returned v) ∧ J N W) .normal) := fun a w _ hs => by
  show LeavesInM (FR none) 0 P fn a.tmps _ a.defers .returning w
  rw [show a.defers = [] from hs.defers]
  exact ⟨_, by simp [results, hr]; rfl, ⟨_, rfl⟩, jD_get (hq.grow N) (hs.of vJ _ hJ)⟩

/-! ### The statement -/
/-- What the body of a round comes to: it goes on, and these facts hold. -/
def RoundQ (w₀ : World) (V : Env) : Exit → Act → World → Prop
  | .normal, _, w => Holds w₀ V w
  | _, _, _ => False
theorem End.round {V : Env} (hs : Sub V E) (hV : ∀ p ∈ V, vbase ≤ p.1) (hn : n ≤ vbase) : End κ w₀ n E (RoundQ w₀ V .normal) := fun a w g hst => ⟨g, hst.base, fun p hp => by
  have h1 := hst.of p.1 p.2 (hs p hp)
  have := hV p hp
  rwa [Array.getD_eq_getD_getElem?, Array.getElem?_eq_none (by rw [hst.size]; omega)] at h1⟩
theorem A.range {Q : Exit → Act → World → Prop} {g : Operand} {tp gf N vL vD : Nat} {assign body : Code} {lb : List Value} {S : Env} {V Eb : Nat → Env} {arg : Nat → D} (hg : E.at g = some (.v (.func (.func gf) #[] lb.toArray)))
    (hgf : ∃ fn, P.funcs[gf]? = some fn ∧ (fn.name == "runtime.NumGoroutine") = false ∧ fn.body.isNone = false) (htp : tp < n) (hn : n ≤ vbase) (h0 : Sub (V 0 ++ S) E)
    (hS : ∀ p ∈ S, p.1 < vbase ∧ ((∃ x, p.2 = .v x) ∨ ∃ d, p.2 = old w₀.heap.size d)) (hV : ∀ i, ∀ p ∈ V i, vbase ≤ p.1)
    (hfV : ∀ i l, w₀.heap.size ≤ l → ∀ p ∈ V i, Firm l p.2) (hfE : ∀ i l, w₀.heap.size ≤ l → ∀ p ∈ Eb i, Firm l p.2)
    (hseq : ∀ (J : Nat → World → Prop) (l : Nat) (w : World), Seqs P w₀ N l arg V J → J 0 w → Calls P gf (.func (.yield l) #[] #[] :: lb).toArray w fun e W => (∃ v, e = .returned v) ∧ J N W)
    (hassign : ∀ i l a w, i < N → St ⟨some l, []⟩ n w₀.heap.size ((tp, arg i) :: (V i ++ S)) a w → assign.wpIn (FR (some l)) 0 P (fun e a' w' => e = .normal ∧ Grow w w' ∧ St ⟨some l, []⟩ n w₀.heap.size (Eb i) a' w') a w)
    (hbody : ∀ i l D r m, i < N → A ⟨some l, []⟩ P w₀ n body ((vL, recD l (.loop r) m) :: (vD, recD D (.deferred (some [])) 0) :: Eb i) (RoundQ w₀ ((vL, recD l (.loop r) m) :: (vD, recD D (.deferred (some [])) 0) :: V (i + 1))))
    (hend : ∀ D, w₀.heap.size ≤ D → End ⟨none, [{ target := .collected D, args := #[] }]⟩ w₀ n ((vD, recD D (.deferred (some [])) 0) :: (V N ++ S)) (Q .normal)) :
    A ⟨none, []⟩ P w₀ n (.rangeFunc g #[tp] assign body) E Q := fun a w hb hst => by
  show (Code.rangeFunc g #[tp] assign body).wpIn (FR none) 0 P Q a w
  refine wpIn_rangeFunc fun fn _ => ?_
  obtain ⟨rec, hrec⟩ : ∃ rec : LoopState → Option Code → Loop, rec = fun st pe => { state := st, pending := pe, fn, tmps := a.tmps, params := #[tp], assign, body, defers := w.heap.size } := ⟨_, rfl⟩
  obtain ⟨W1, hW1⟩ : ∃ W1, (w.alloc (.deferred (some []))).alloc (.loop (rec .ready none)) = W1 := ⟨_, rfl⟩
  have hg' : a.eval g = .func (.func gf) #[] lb.toArray := hst.at_ g _ hg
  obtain ⟨gfn, hf1, hf2, hf3⟩ := hgf
  have eg : ∀ args w, (callFunc gf args).run P w = .ok (.enter gf args) w := fun args w => by
    have h2' : ¬ gfn.name = "runtime.NumGoroutine" := by simpa using hf2
    have h3' : ¬ gfn.body = none := by intro h; rw [h] at hf3; cases hf3
    simp [callFunc, hf1, h2', h3']
  have hgr : Grow w W1 := by
    rw [← hW1]; exact (Grow.alloc w _).trans (Grow.alloc _ _)
  have hL1 : W1.heap[w.heap.size + 1]? = some (.loop (rec .ready none)) := by
    rw [← hW1]; have := World.alloc_heap_new (w.alloc (.deferred (some []))) (.loop (rec .ready none)); rwa [World.size_alloc] at this
  have hK1 : W1.heap[w.heap.size]? = some (.deferred (some [])) := by
    rw [← hW1]; exact (Below.heap_alloc _ _ _ (by simp)).trans (World.alloc_heap_new w _)
  have hund : ∀ t, vbase ≤ t → a.tmps.getD t undef = undef := fun t ht => by
    rw [Array.getD_eq_getD_getElem?, Array.getElem?_eq_none (by rw [hst.size]; omega)]; rfl
  have hH0 : Holds w₀ (V 0) w := ⟨hb, hst.base, fun p hp => by
    have h1 := hst.of p.1 p.2 (h0 p (List.mem_append_left _ hp))
    rwa [hund _ (hV 0 p hp)] at h1⟩
  -- what holds between two rounds
  have hstS : ∀ (κ' : Cx) (i : Nat) (W : World) (a' : Act) (E' : Env), κ'.df = a'.defers → a'.tmps.size = n → Holds w₀ (V i) W → w.heap.size ≤ W.heap.size → (∀ t e, E'.look t = some e → e.Of W (a'.tmps.getD t undef) ∨ ((t, e) ∈ V i ++ S ∧ (t < vbase → a'.tmps.getD t undef = a.tmps.getD t undef))) → St κ' n w₀.heap.size E' a' W := by
    intro κ' i W a' E' hd hsz hH hs hE
    refine ⟨hH.2.1, hd.symm, hsz, fun t e he => ?_⟩
    rcases hE t e he with h | ⟨hm, hsame⟩
    · exact h
    · rcases List.mem_append.1 hm with hm | hm
      · have h1 := hH.2.2 _ hm
        have ht := hV i _ hm
        simp only at ht
        rwa [Array.getD_eq_getD_getElem?, Array.getElem?_eq_none (by rw [hsz]; omega)]
      · obtain ⟨ht, hk⟩ := hS _ hm
        rw [hsame ht]
        have h1 := hst.of t e (h0 _ (List.mem_append_right _ hm))
        rcases hk with ⟨x, hx⟩ | ⟨d, hd'⟩
        · simp only at hx; subst hx; exact h1
        · simp only at hd'; subst hd'
          exact ⟨hH.2.1, D.OfB.keep h1.2 (below_two hb hH.1 hs)⟩
  refine ⟨w.heap.size + 1, [{ target := .collected w.heap.size, args := #[] }], W1, { target := .fn (.func gf) lb.toArray, args := #[.func (.yield (w.heap.size + 1)) #[] #[]] }, W1, gf,
    #[.func (.yield (w.heap.size + 1)) #[] #[]] ++ lb.toArray, W1, ?_, ?_, fun _ _ => trivial, ?_, fun e => absurd e (by simp [FR, Fence.wide]), ?_⟩
  · rw [← hW1, hrec]; exact run_enterLoop_outer _ _ _ _ _
  · have hy : a.eval (.const (.func (.yield (w.heap.size + 1)) #[] #[])) = .func (.yield (w.heap.size + 1)) #[] #[] := rfl
    simp only [resolve, hg']
    simp [Deferred.ofValue, hy]
  · simp [invoke, eg]
  · have harr : (#[.func (.yield (w.heap.size + 1)) #[] #[]] ++ lb.toArray : Array Value) = (.func (.yield (w.heap.size + 1)) #[] #[] :: lb).toArray := by simp
    rw [harr]
    refine callsIn_FR.2 ((hseq (fun i W => Holds w₀ (V i) W ∧ W.heap[w.heap.size + 1]? = some (.loop (rec .ready none)) ∧ W.heap[w.heap.size]? = some (.deferred (some []))) (w.heap.size + 1) W1 ⟨?_, fun i W h => h.1, ?_⟩ ⟨hH0.grow hgr, hL1, hK1⟩).mono ?_)
    · rintro i x y ⟨h1, h2, h3⟩ k
      exact ⟨h1.grow k, (k.block _ (Array.getElem?_eq_some_iff.1 h2).1).trans h2, (k.block _ (Array.getElem?_eq_some_iff.1 h3).1).trans h3⟩
    · -- one round
      rintro i W u hi ⟨hH, hl, hk⟩ hu
      have hlt : w.heap.size + 1 < W.heap.size := (Array.getElem?_eq_some_iff.1 hl).1
      have hBl : w₀.heap.size ≤ w.heap.size + 1 := by have := hst.base; omega
      have hy := run_yield (P := P) (args := #[u]) hl (by rw [hrec]; rfl)
      rw [hrec] at hy
      refine ⟨fn, _, assign, body, hy, roundIn_of_wpIn (F := FR none) trivial ?_⟩
      have htm : (List.foldl (fun (tmps : Array Value) (x : Tmp × Value) => tmps.setIfInBounds x.1 x.2) a.tmps ((#[tp].zip #[u]).toList)) = a.tmps.setIfInBounds tp u := by simp
      have hsta : St ⟨some (w.heap.size + 1), []⟩ n w₀.heap.size ((tp, arg i) :: (V i ++ S)) { tmps := a.tmps.setIfInBounds tp u, defers := [] } W := by
        refine hstS _ i W _ _ rfl (by simp [hst.size]) hH (by omega) fun t e he => ?_
        by_cases hts : tp = t
        · subst hts
          rw [look_here] at he; injection he with he; subst he
          left
          have : tp < a.tmps.size := by rw [hst.size]; exact htp
          simpa [this] using hu
        · rw [look_past _ _ hts] at he
          exact .inr ⟨look_mem he, fun _ => by simp [Array.getElem?_setIfInBounds_ne hts]⟩
      have has := hassign i (w.heap.size + 1) _ W hi hsta
      have hrun0 : ({ tmps := Array.foldl (fun (tmps : Array Value) (x : Tmp × Value) => tmps.setIfInBounds x.1 x.2) a.tmps (#[tp].zip #[u]), defers := [] } : Act) = { tmps := a.tmps.setIfInBounds tp u, defers := [] } := by simp
      show assign.wpIn (FR (some (w.heap.size + 1))) 0 P _ _ W
      refine wpIn_mono (F := FR (some (w.heap.size + 1))) (n := 0) (by first | exact has | (rw [← hrun0] at has; exact has)) ?_
      rintro e a1 W2 ⟨rfl, hg2, hst2⟩
      have hl2 : W2.heap[w.heap.size + 1]? = some (.loop (rec .ready none)) := (hg2.block _ hlt).trans hl
      have hk2 : W2.heap[w.heap.size]? = some (.deferred (some [])) := (hg2.block _ (by omega)).trans hk
      have hH2 := hH.grow hg2
      have hlt2 : w.heap.size + 1 < W2.heap.size := (Array.getElem?_eq_some_iff.1 hl2).1
      refine ⟨_, run_beginRound hl2 (by rw [hrec]), ?_⟩
      have hl3 : (W2.putObj (w.heap.size + 1) (.loop { rec .ready none with state := .busy })).heap[w.heap.size + 1]? = some (.loop { rec .ready none with state := .busy }) := World.putObj_heap_same hlt2
      have hk3 : (W2.putObj (w.heap.size + 1) (.loop { rec .ready none with state := .busy })).heap[w.heap.size]? = some (.deferred (some [])) := (World.putObj_heap_other (by omega)).trans hk2
      have hH3 := hH2.putObj (.loop { rec .ready none with state := .busy }) hl2 rfl hBl (hfV i _ hBl)
      have hst3 : St ⟨some (w.heap.size + 1), []⟩ n w₀.heap.size ((vL, recD (w.heap.size + 1) (.loop { rec .ready none with state := .busy }) W.heap.size) :: (vD, recD w.heap.size (.deferred (some [])) 0) :: Eb i) a1 (W2.putObj (w.heap.size + 1) (.loop { rec .ready none with state := .busy })) := by
        refine ⟨hH3.2.1, hst2.defers, hst2.size, fun t e he => ?_⟩
        by_cases hts : vL = t
        · subst hts
          rw [look_here] at he; injection he with he; subst he
          exact ⟨by simpa using hlt2, by simpa using hg2.size, hl3⟩
        · rw [look_past _ _ hts] at he
          by_cases hts' : vD = t
          · subst hts'
            rw [look_here] at he; injection he with he; subst he
            exact ⟨by simp; omega, Nat.zero_le _, hk3⟩
          · rw [look_past _ _ hts'] at he
            exact hfE i _ hBl _ (look_mem he) W2 _ _ _ hl2 rfl (hst2.of t e he)
      refine wpIn_mono (F := FR (some (w.heap.size + 1))) (n := 0) (hbody i _ _ _ _ hi a1 _ hH3.1 hst3) ?_
      rintro e a3 W3 hp
      cases e with
      | normal =>
        obtain ⟨hb3, hs3, hv3⟩ := hp
        obtain ⟨hlt3, hm3, hl4⟩ := hv3 _ List.mem_cons_self
        obtain ⟨_, _, hk4⟩ := hv3 _ (List.mem_cons_of_mem _ List.mem_cons_self)
        have hH4 : Holds w₀ (V (i + 1)) W3 := ⟨hb3, hs3, fun p hp => hv3 p (List.mem_cons_of_mem _ (List.mem_cons_of_mem _ hp))⟩
        have hend := run_endRound (P := P) none hl4
        refine ⟨_, _, hend, rfl, ⟨hH4.putObj _ hl4 rfl hBl (hfV _ _ hBl), ?_, (World.putObj_heap_other (by omega)).trans hk4⟩, by simpa using hm3⟩
        have := World.putObj_heap_same (o := .loop { { rec .ready none with state := .busy } with state := .ready, pending := none }) hlt3
        rw [hrec] at this ⊢
        exact this
      | _ => exact hp.elim
    · -- behind it
      rintro e W2 ⟨⟨v, rfl⟩, hH, hl, hk⟩
      have hBl : w₀.heap.size ≤ w.heap.size + 1 := by have := hst.base; omega
      have hlt2 : w.heap.size + 1 < W2.heap.size := (Array.getElem?_eq_some_iff.1 hl).1
      have hel := run_endLoop (P := P) hl (by rw [hrec]; simp)
      refine ⟨none, _, by rw [hrec] at hel; exact hel, ?_⟩
      have hH3 := hH.putObj (.loop { state := .exhausted, pending := none, fn, tmps := a.tmps, params := #[tp], assign, body, defers := w.heap.size }) hl rfl hBl (hfV N _ hBl)
      refine hend w.heap.size hst.base _ _ hH3.1 (hstS _ N _ _ _ (by simp [hst.defers]) hst.size hH3 (by simp; omega) fun t e he => ?_)
      by_cases hts : vD = t
      · subst hts
        rw [look_here] at he; injection he with he; subst he
        exact .inl ⟨by simp; omega, Nat.zero_le _, (World.putObj_heap_other (by omega)).trans hk⟩
      · rw [look_past _ _ hts] at he
        exact .inr ⟨look_mem he, fun _ => rfl⟩

end
end Go.Proofs.Ytggijkmlmklneaa
namespace Go.Proofs.Ytggijkmlmklneaa
open Go Go.RowKit
section
variable {P : Program} {B : Nat} {E : Env} {dst : Option Tmp} {ty : TypeId} {pos : String} {after : Array Edge} {guard : Option (Nat × Bool)}
/-! ### Two arrays of numbers of which nothing is known -/
theorem bytes_inj {a b : List UInt8} (h : a.map byteV = b.map byteV) : a = b := (List.map_inj_right fun x y hxy => by
  simp only [byteV, Value.int.injEq, true_and] at hxy
  exact UInt8.toNat_inj.1 (by omega)).1 h
end
end Go.Proofs.Ytggijkmlmklneaa
namespace Go.Proofs.Ytggijkmlmklneaa
open Go Go.RowKit Go.ChangeShapes Go.WideShapes

def flatFs (F : TypeId → Option (List IntKind)) : List Field → Nat → Option (List IntKind)
  | [], _ => some []
  | f :: r, o => match F f.type with
    | none => none
    | some ks => if f.offset = o ∧ f.name ≠ "_" then (flatFs F r (o + ks.length)).map (ks ++ ·) else none
/-- The kinds of a type's cells, where it is made of integers, arrays and structs alone. -/
def flat (P : Program) : Nat → TypeId → Option (List IntKind)
  | 0, _ => none
  | n + 1, t => if P.cellsOf t = 0 then none else match P.underlying t with
    | some (.int k) => if P.cellsOf t = 1 then some [k] else none
    | some (.array len e) => match flat P n e with
      | none => none
      | some ks => if P.cellsOf t = len * ks.length then some (List.replicate len ks).flatten else none
    | some (.struct fs) => match flatFs (flat P n) fs.toList 0 with
      | none => none
      | some ks => if P.cellsOf t = ks.length ∧ P.stoodInHeld t = false then some ks else none
    | _ => none
def isAggT (P : Program) (t : TypeId) : Bool := match P.underlying t with | some (.struct _) => true | some (.array _ _) => true | _ => false
def packT (P : Program) (t : TypeId) (xs : List Value) : Value := if isAggT P t then .agg xs.toArray else xs.headD undef
/-- Cells of these kinds, of whose numbers Q holds. -/
def Kin (Q : IntKind → Int → Prop) (ks : List IntKind) (xs : List Value) : Prop := xs.length = ks.length ∧ ∀ (i : Nat) (k : IntKind), ks[i]? = some k → ∃ n, xs[i]? = some (.int k n) ∧ Q k n
section
variable {Q : IntKind → Int → Prop}
theorem Kin.nil {xs : List Value} (h : Kin Q [] xs) : xs = [] := List.eq_nil_of_length_eq_zero h.1
theorem Kin.one {k : IntKind} {xs : List Value} (h : Kin Q [k] xs) : ∃ n, xs = [.int k n] ∧ Q k n := by
  obtain ⟨n, h1, h2⟩ := h.2 0 k rfl
  refine ⟨n, ?_, h2⟩
  have hl : xs.length = 1 := h.1
  match xs, hl, h1 with
  | [x], _, h1 => simp at h1; rw [h1]
theorem Kin.split {a b : List IntKind} {xs : List Value} (h : Kin Q (a ++ b) xs) : Kin Q a (xs.take a.length) ∧ Kin Q b (xs.drop a.length) := by
  have hl : xs.length = a.length + b.length := by simpa using h.1
  refine ⟨⟨by simp; omega, fun i k hk => ?_⟩, ⟨by simp; omega, fun i k hk => ?_⟩⟩
  · have hi : i < a.length := (List.getElem?_eq_some_iff.1 hk).1
    obtain ⟨n, h1, h2⟩ := h.2 i k (by rw [List.getElem?_append_left hi]; exact hk)
    exact ⟨n, by rw [List.getElem?_take, if_pos hi]; exact h1, h2⟩
  · obtain ⟨n, h1, h2⟩ := h.2 (a.length + i) k (by rw [List.getElem?_append_right (by omega), Nat.add_sub_cancel_left]; exact hk)
    exact ⟨n, by rw [List.getElem?_drop]; exact h1, h2⟩
theorem Kin.join {a b : List IntKind} {xs ys : List Value} (h : Kin Q a xs) (h' : Kin Q b ys) : Kin Q (a ++ b) (xs ++ ys) := by
  refine ⟨by simp [h.1, h'.1], fun i k hk => ?_⟩
  rcases Nat.lt_or_ge i a.length with hi | hi
  · rw [List.getElem?_append_left hi] at hk
    rw [List.getElem?_append_left (by rw [h.1]; exact hi)]
    exact h.2 i k hk
  · rw [List.getElem?_append_right hi] at hk
    rw [List.getElem?_append_right (by rw [h.1]; exact hi), h.1]
    exact h'.2 _ k hk
theorem Kin.append {a b : List IntKind} {xs : List Value} (h : Kin Q (a ++ b) xs) : ∃ x y, xs = x ++ y ∧ Kin Q a x ∧ Kin Q b y :=
  ⟨_, _, (List.take_append_drop a.length xs).symm, h.split.1, h.split.2⟩
theorem Kin.cons {k : IntKind} {b : List IntKind} {xs : List Value} (h : Kin Q (k :: b) xs) : ∃ n y, xs = .int k n :: y ∧ Q k n ∧ Kin Q b y := by
  obtain ⟨x, y, rfl, h1, h2⟩ := Kin.append (a := [k]) h
  obtain ⟨n, rfl, h3⟩ := h1.one
  exact ⟨n, y, rfl, h3, h2⟩
theorem Kin.mono {R : IntKind → Int → Prop} {ks : List IntKind} {xs : List Value} (h : Kin Q ks xs) (hq : ∀ k n, Q k n → R k n) : Kin R ks xs :=
  ⟨h.1, fun i k hk => by obtain ⟨n, h1, h2⟩ := h.2 i k hk; exact ⟨n, h1, hq _ _ h2⟩⟩
theorem Kin.rep {ks : List IntKind} : ∀ {n : Nat} {xs : List Value}, Kin Q (List.replicate n ks).flatten xs → ∀ i, i < n → Kin Q ks ((xs.drop (i * ks.length)).take ks.length)
  | 0, _, _, i, hi => by omega
  | n + 1, xs, h, 0, _ => by
    rw [List.replicate_succ, List.flatten_cons] at h
    simpa using h.split.1
  | n + 1, xs, h, i + 1, hi => by
    rw [List.replicate_succ, List.flatten_cons] at h
    have := Kin.rep h.split.2 i (by omega)
    rwa [List.drop_drop, show ks.length + i * ks.length = (i + 1) * ks.length from by rw [Nat.succ_mul]; omega] at this
end
theorem rep_length {ks : List IntKind} (n : Nat) : (List.replicate n ks).flatten.length = n * ks.length := by
  induction n with
  | zero => simp
  | succ n ih => rw [List.replicate_succ, List.flatten_cons, List.length_append, ih, Nat.succ_mul]; omega
section
variable {P : Program}
theorem flat_cells : ∀ {n : Nat} {t : TypeId} {ks : List IntKind}, flat P n t = some ks → P.cellsOf t = ks.length ∧ 0 < ks.length := by
  intro n t ks h
  cases n with
  | zero => cases h
  | succ n =>
    unfold flat at h
    split at h
    · cases h
    · rename_i h0
      have hk : P.cellsOf t = ks.length := by
        split at h
        · split at h
          · rename_i h1; injection h with h; subst h; exact h1
          · cases h
        · split at h
          · cases h
          · split at h
            · rename_i h1; injection h with h; subst h; rw [h1, rep_length]
            · cases h
        · split at h
          · cases h
          · split at h
            · rename_i h1; injection h with h; subst h; exact h1.1
            · cases h
        · cases h
      exact ⟨hk, by omega⟩
theorem info_of_cells {t : TypeId} (h : 0 < P.cellsOf t) : ∃ i, P.info? t = some i := by
  unfold Program.cellsOf at h
  cases hi : P.info? t with
  | none => rw [hi] at h; simp at h
  | some i => exact ⟨i, rfl⟩
theorem run_isAgg {t : TypeId} {td : TypeDesc} (h : P.underlying t = some td) (w : World) : (isAgg t).run P w = .ok (isAggT P t) w := by
  unfold isAgg isAggT
  rw [Sem.run_bind, run_underlying h w, h]
  cases td <;> simp
theorem flat_under {n : Nat} {t : TypeId} {ks : List IntKind} (h : flat P n t = some ks) : ∃ td, P.underlying t = some td := by
  cases n with
  | zero => cases h
  | succ n =>
    unfold flat at h
    split at h
    · cases h
    · cases hu : P.underlying t with
      | none => rw [hu] at h; cases h
      | some td => exact ⟨td, rfl⟩
/-- A part of an aggregate. -/
theorem flat_part {n : Nat} {t : TypeId} {ks : List IntKind} (h : flat P n t = some ks) (zs : List Value) (o : Nat) (ho : o + ks.length ≤ zs.length) (w : World) : (part t zs.toArray o).run P w = .ok (packT P t ((zs.drop o).take ks.length)) w := by
  obtain ⟨td, hu⟩ := flat_under h
  obtain ⟨hc, hp⟩ := flat_cells h
  obtain ⟨i, hi⟩ := info_of_cells (P := P) (t := t) (by omega)
  simp only [part, Sem.run_bind, run_isAgg hu, Result.andThen_ok]
  unfold packT
  cases hb : isAggT P t with
  | true =>
    simp only [if_true, Sem.run_bind, run_sizeOf w hi, Result.andThen_ok, hc]
    simp
  | false =>
    have hlt : o < zs.length := by omega
    have : ((zs.drop o).take ks.length).headD undef = zs[o] := by
      rw [List.drop_eq_getElem_cons hlt]
      obtain ⟨m, hm⟩ : ∃ m, ks.length = m + 1 := ⟨ks.length - 1, by omega⟩
      rw [hm]
      rfl
    rw [if_neg (by simp), if_neg (by simp), this]
    simp [hlt]
theorem two_parts {xs ys : List Value} {o a b : Nat} (hx : o + (a + b) ≤ xs.length) (hy : o + (a + b) ≤ ys.length) :
    (xs.drop o).take (a + b) = (ys.drop o).take (a + b) ↔ (xs.drop o).take a = (ys.drop o).take a ∧ (xs.drop (o + a)).take b = (ys.drop (o + a)).take b := by
  rw [List.take_add, List.take_add, List.drop_drop, List.drop_drop]
  constructor
  · intro h
    exact List.append_inj h (by simp; omega)
  · rintro ⟨h1, h2⟩
    rw [h1, h2]
/-- Equality of values of such a type. -/
theorem flat_eq : ∀ (n : Nat) {t : TypeId} {ks : List IntKind}, flat P n t = some ks → ∀ (d : Nat) (w : World) (xs ys : List Value), Kin (fun _ _ => True) ks xs → Kin (fun _ _ => True) ks ys →
    ∃ r : Bool, (Op.equalIn (d + n) t (packT P t xs) (packT P t ys)).run P w = .ok r w ∧ (r = true ↔ xs = ys) := by
  intro n
  induction n with
  | zero => intro t ks h; cases h
  | succ n ih =>
    intro t ks h d w xs ys hx hy
    have hks := flat_cells h
    unfold flat at h
    split at h
    · cases h
    · split at h
      · rename_i k hu
        split at h
        · injection h with h; subst h
          obtain ⟨a, rfl, _⟩ := hx.one
          obtain ⟨b, rfl, _⟩ := hy.one
          have hg : isAggT P t = false := by unfold isAggT; rw [hu]
          refine ⟨a == b, ?_, by simp⟩
          unfold packT
          rw [hg]
          exact run_equalIn_int w (d + n) t k k a b hu
        · cases h
      · rename_i len e hu
        split at h
        · cases h
        · rename_i ks' hf
          split at h
          · injection h with h; subst h
            have hg : isAggT P t = true := by unfold isAggT; rw [hu]
            obtain ⟨hc, hp⟩ := flat_cells hf
            obtain ⟨i, hi⟩ := info_of_cells (P := P) (t := e) (by omega)
            unfold packT
            rw [hg, if_pos rfl, if_pos rfl, ← Nat.add_assoc, run_equalIn_array (w := w) (d + n) xs.toArray ys.toArray hu hi, hc]
            have hxl : xs.length = len * ks'.length := by rw [hx.1, rep_length]
            have hyl : ys.length = len * ks'.length := by rw [hy.1, rep_length]
            have key : ∀ is : List Nat, (∀ i ∈ is, i < len) → ∃ r : Bool, (Op.eqItems (d + n) e ks'.length xs.toArray ys.toArray is).run P w = .ok r w ∧ (r = true ↔ ∀ i ∈ is, (xs.drop (i * ks'.length)).take ks'.length = (ys.drop (i * ks'.length)).take ks'.length) := by
              intro is
              induction is with
              | nil => intro _; exact ⟨true, by simp [Op.eqItems], by simp⟩
              | cons j is ihs =>
                intro hj
                have hjl := hj j List.mem_cons_self
                have hb : j * ks'.length + ks'.length ≤ len * ks'.length := by
                  rw [← Nat.succ_mul]; exact Nat.mul_le_mul_right _ hjl
                obtain ⟨r, hr, hri⟩ := ihs fun i hi => hj i (List.mem_cons_of_mem _ hi)
                obtain ⟨r', hr', hri'⟩ := ih hf d w _ _ (hx.rep j hjl) (hy.rep j hjl)
                simp only [Op.eqItems, Sem.run_bind, flat_part hf xs (j * ks'.length) (by omega) w, flat_part hf ys (j * ks'.length) (by omega) w, Result.andThen_ok, hr']
                cases r' with
                | true => exact ⟨r, by simpa using hr, by simp [hri, hri'.1 rfl]⟩
                | false => exact ⟨false, by simp, by simpa using fun h => absurd (hri'.2 h) (by simp)⟩
            obtain ⟨r, hr, hri⟩ := key (List.range len) fun i hi => List.mem_range.1 hi
            refine ⟨r, hr, hri.trans ⟨fun h => ?_, fun h => by subst h; exact fun _ _ => rfl⟩⟩
            apply List.ext_getElem?
            intro j
            rcases Nat.lt_or_ge j (len * ks'.length) with hj | hj
            · have h1 := h (j / ks'.length) (List.mem_range.2 ((Nat.div_lt_iff_lt_mul hp).2 hj))
              have h2 := congrArg (·[j % ks'.length]?) h1
              simp only [List.getElem?_take, if_pos (Nat.mod_lt _ hp), List.getElem?_drop] at h2
              rwa [Nat.mul_comm, Nat.div_add_mod] at h2
            · rw [List.getElem?_eq_none (by omega), List.getElem?_eq_none (by omega)]
          · cases h
      · rename_i fs hu
        split at h
        · cases h
        · rename_i ks' hf
          split at h
          · rename_i hst
            injection h with h; subst h
            have hg : isAggT P t = true := by unfold isAggT; rw [hu]
            have hfo : P.fieldsOf t = fs := by unfold Program.fieldsOf; rw [hu]
            unfold packT
            rw [hg, if_pos rfl, if_pos rfl, ← Nat.add_assoc, run_equalIn_struct w (d + n) t xs.toArray ys.toArray (by rw [hfo]; exact hu) hst.2, hfo]
            have key : ∀ (l : List Field) (o : Nat) (kz : List IntKind), flatFs (flat P n) l o = some kz → ∀ ka : List IntKind, Kin (fun _ _ => True) (ka ++ kz) xs → Kin (fun _ _ => True) (ka ++ kz) ys → ka.length = o →
                ∃ r : Bool, (Op.eqFields (d + n) xs.toArray ys.toArray l).run P w = .ok r w ∧ (r = true ↔ (xs.drop o).take kz.length = (ys.drop o).take kz.length) := by
              intro l
              induction l with
              | nil =>
                intro o kz hl ka _ _ _
                unfold flatFs at hl
                injection hl with hl; subst hl
                exact ⟨true, by simp [Op.eqFields], by simp⟩
              | cons f l ihl =>
                intro o kz hl ka hxa hya ho
                unfold flatFs at hl
                split at hl
                · cases hl
                · rename_i kf hff
                  split at hl
                  · rename_i hfn
                    obtain ⟨kr, hr, rfl⟩ := Option.map_eq_some_iff.1 hl
                    have lx : xs.length = o + (kf.length + kr.length) := by rw [hxa.1]; simp; omega
                    have ly : ys.length = o + (kf.length + kr.length) := by rw [hya.1]; simp; omega
                    obtain ⟨r, h1, h2⟩ := ihl (o + kf.length) kr hr (ka ++ kf) (by rw [List.append_assoc]; exact hxa) (by rw [List.append_assoc]; exact hya) (by simp; omega)
                    have kx := hxa.split.2.split.1
                    have ky := hya.split.2.split.1
                    rw [ho] at kx ky
                    obtain ⟨r', h3, h4⟩ := ih hff d w _ _ kx ky
                    simp only [Op.eqFields, if_pos hfn.2, Sem.run_bind, hfn.1, flat_part hff xs o (by omega) w, flat_part hff ys o (by omega) w, Result.andThen_ok, h3]
                    rw [List.length_append, two_parts (by omega) (by omega)]
                    cases r' with
                    | true => exact ⟨r, by simpa using h1, by simp [h2, h4.1 rfl]⟩
                    | false => exact ⟨false, by simp, by simpa using fun h => absurd (h4.2 h) (by simp)⟩
                  · cases hl
            obtain ⟨r, h1, h2⟩ := key fs.toList 0 ks' hf [] hx hy rfl
            refine ⟨r, h1, ?_⟩
            rwa [List.drop_zero, List.drop_zero, List.take_of_length_le (Nat.le_of_eq hx.1), List.take_of_length_le (Nat.le_of_eq hy.1)] at h2
          · cases h
      · cases h
variable {B : Nat} {E : Env} {dst : Option Tmp} {ty : TypeId} {pos : String} {after : Array Edge} {guard : Option (Nat × Bool)}
theorem equal_flat {t : TypeId} {ks : List IntKind} (n : Nat) (hf : flat P n t = some ks) (hn : n ≤ 10000) (hg : isAggT P t = true) {xs ys : List Value} (hx : Kin (fun _ _ => True) ks xs) (hy : Kin (fun _ _ => True) ks ys) (b : Bool) (hb : b = true ↔ xs = ys) (w : World) :
    (Op.equalIn 10000 t (.agg xs.toArray) (.agg ys.toArray)).run P w = .ok b w := by
  obtain ⟨r, hr, hri⟩ := flat_eq (P := P) n hf (10000 - n) w xs ys hx hy
  unfold packT at hr
  rw [hg, if_pos rfl, if_pos rfl, Nat.sub_add_cancel hn] at hr
  have : r = b := by
    rw [← hb] at hri
    cases r <;> cases b <;> simp_all
  rw [← this]; exact hr
/-- Two values of such a type that have several cells: whether they are equal. -/
theorem ok_eqlT {t t' : TypeId} {ks : List IntKind} {x y : Operand} {xs ys : List Value} (n : Nat) (b : Bool) (hf : flat P n t = some ks) (hn : n ≤ 10000) (hg : isAggT P t = true) (hm : P.eqGuardType P.depth t = false) (hx : E.at x = some (.v (aggV xs))) (hy : E.at y = some (.v (aggV ys)))
    (hkx : Kin (fun _ _ => True) ks xs) (hky : Kin (fun _ _ => True) ks ys) (hb : b = true ↔ xs = ys) : OpOk P B ⟨dst, .binOp .eql t x y t', ty, pos, after, guard⟩ E (.v (.bool b)) := fun ρ w _ _ hρ => by
  have h1 : ρ x = .agg xs.toArray := hρ x (by simp [Op.operands]) _ hx
  have h2 : ρ y = .agg ys.toArray := hρ y (by simp [Op.operands]) _ hy
  have := equal_flat (P := P) n hf hn hg hkx hky b hb w
  exact out_val (w' := w) (by simp [execOp, h1, h2, Sem.run_bind, run_eqGuard_agg, hm, run_eql_struct, this]) ⟨Grow.refl w, rfl⟩
theorem ok_neqT {t t' : TypeId} {ks : List IntKind} {x y : Operand} {xs ys : List Value} (n : Nat) (b : Bool) (hf : flat P n t = some ks) (hn : n ≤ 10000) (hg : isAggT P t = true) (hm : P.eqGuardType P.depth t = false) (hx : E.at x = some (.v (aggV xs))) (hy : E.at y = some (.v (aggV ys)))
    (hkx : Kin (fun _ _ => True) ks xs) (hky : Kin (fun _ _ => True) ks ys) (hb : b = true ↔ xs = ys) : OpOk P B ⟨dst, .binOp .neq t x y t', ty, pos, after, guard⟩ E (.v (.bool (!b))) := fun ρ w _ _ hρ => by
  have h1 : ρ x = .agg xs.toArray := hρ x (by simp [Op.operands]) _ hx
  have h2 : ρ y = .agg ys.toArray := hρ y (by simp [Op.operands]) _ hy
  have := equal_flat (P := P) n hf hn hg hkx hky b hb w
  exact out_val (w' := w) (by simp [execOp, h1, h2, Sem.run_bind, run_eqGuard_agg, hm, run_neq_struct, this]) ⟨Grow.refl w, rfl⟩
end
/-! ### Parameters -/
section
variable {H : Type} {enc : TypeId × Value → H} {P : Program} {w : World} {base : Nat} {spare : Nat → Bool} {held : Bool}
theorem trod_flat : ∀ (n : Nat) {t : TypeId} {ks : List IntKind}, flat P n t = some ks → ∀ {fuel : Nat} {cs : List Value} {x : DataW H × List MemPlace}, DataW.trod enc P w base spare held fuel t cs = some x → Kin (fun k m => (Lit.int k m).wf = true) ks cs := by
  intro n
  induction n with
  | zero => intro t ks h; cases h
  | succ n ih =>
    intro t ks h fuel cs x ht
    have hks := flat_cells h
    unfold flat at h
    split at h
    · cases h
    · split at h
      · rename_i k hu
        split at h
        · injection h with h; subst h
          obtain ⟨a, rfl, _, h3⟩ := DataW.trod_int hu ht
          exact ⟨rfl, fun i k' hk => by
            match i, hk with
            | 0, hk => simp at hk; subst hk; exact ⟨a, rfl, h3⟩
            | i + 1, hk => simp at hk⟩
        · cases h
      · rename_i len e hu
        split at h
        · cases h
        · rename_i ks' hf
          split at h
          · injection h with h; subst h
            obtain ⟨xs, m, _, _, hlen, hxl, hel⟩ := DataW.trod_array hu ht
            obtain ⟨hc, hp⟩ := flat_cells hf
            have hl : cs.length = len * ks'.length := by rw [hlen, hks.1, rep_length]
            refine ⟨by rw [hl, rep_length], fun i k hk => ?_⟩
            have hi : i < len * ks'.length := by rw [← rep_length]; exact (List.getElem?_eq_some_iff.1 hk).1
            have hj : i / ks'.length < len := (Nat.div_lt_iff_lt_mul hp).2 hi
            have h1 := hel (i / ks'.length) hj
            rw [List.getElem?_eq_getElem (by omega), hc] at h1
            have h2 := ih hf h1
            have hr : ∀ (m j : Nat), j < m * ks'.length → (List.replicate m ks').flatten[j]? = ks'[j % ks'.length]? := by
              intro m
              induction m with
              | zero => intro j hj; simp at hj
              | succ m ihm =>
                intro j hj
                rw [List.replicate_succ, List.flatten_cons]
                rcases Nat.lt_or_ge j ks'.length with h | h
                · rw [List.getElem?_append_left h, Nat.mod_eq_of_lt h]
                · rw [List.getElem?_append_right h, ihm _ (by rw [Nat.succ_mul] at hj; omega), Nat.mod_eq_sub_mod h]
            rw [hr len i hi] at hk
            obtain ⟨a, h3, h4⟩ := h2.2 _ k hk
            refine ⟨a, ?_, h4⟩
            rw [List.getElem?_take, if_pos (Nat.mod_lt _ hp), List.getElem?_drop, Nat.mul_comm, Nat.div_add_mod] at h3
            exact h3
          · cases h
      · rename_i fs hu
        split at h
        · cases h
        · rename_i ks' hf
          split at h
          · injection h with h; subst h
            obtain ⟨xs, m, _, _, hlen, hxl, hel⟩ := DataW.trod_struct hu ht
            have key : ∀ (l : List Field) (o j : Nat) (kz : List IntKind), flatFs (flat P n) l o = some kz → fs.toList.drop j = l → o + kz.length = cs.length → Kin (fun k m => (Lit.int k m).wf = true) kz (cs.drop o) := by
              intro l
              induction l with
              | nil =>
                intro o j kz hl _ ho
                unfold flatFs at hl
                injection hl with hl; subst hl
                simp only [List.length_nil, Nat.add_zero] at ho
                exact ⟨by simp [ho], fun i k h => by simp at h⟩
              | cons f l ihl =>
                intro o j kz hl hd ho
                unfold flatFs at hl
                split at hl
                · cases hl
                · rename_i kf hff
                  split at hl
                  · rename_i hfn
                    obtain ⟨kr, hr, rfl⟩ := Option.map_eq_some_iff.1 hl
                    simp only [List.length_append] at ho
                    have hj : j < fs.size := by
                      rcases Nat.lt_or_ge j fs.size with h | h
                      · exact h
                      · rw [List.drop_eq_nil_of_le (by simpa using h)] at hd; cases hd
                    have hfj : fs[j]? = some f := by
                      have := congrArg (·[0]?) hd
                      simp only [List.getElem?_drop, Nat.add_zero, List.getElem?_cons_zero] at this
                      simpa using this
                    have h1 := hel j f hfj
                    rw [List.getElem?_eq_getElem (by omega), (flat_cells hff).1, hfn.1] at h1
                    have h2 := ih hff h1
                    have h3 := ihl (o + kf.length) (j + 1) kr hr (by
                      rw [← List.drop_drop, hd]; rfl) (by omega)
                    have : cs.drop o = (cs.drop o).take kf.length ++ cs.drop (o + kf.length) := by
                      rw [← List.drop_drop, List.take_append_drop]
                    rw [this]
                    exact h2.join h3
                  · cases hl
            have := key fs.toList 0 0 ks' hf rfl (by omega)
            simpa using this
          · cases h
      · cases h
theorem okWide_agg {t : TypeId} {v : Value} {r : Reach} {b0 : Nat} (hg : isAggT P t = true) (hk : Value.okWide P w r b0 t v) : ∃ cs, v = .agg cs := by
  unfold isAggT at hg
  split at hg
  · rename_i fs hu
    obtain ⟨cs, rfl, _⟩ := okWide_struct hu hk
    exact ⟨cs, rfl⟩
  · rename_i hu
    exact okWide_arr' hu hk
  · cases hg
/-- A parameter of several cells. -/
theorem arg_flat {t : TypeId} {ks : List IntKind} {v : Value} {d : DataW H} {ps : List MemPlace} (n : Nat) (hf : flat P n t = some ks) (hg : isAggT P t = true) {r : Reach} {b0 : Nat} (hk : Value.okWide P w r b0 t v)
    (h : DataW.Trod enc P w base spare held t v d ps) : ∃ xs, v = aggV xs ∧ Kin (fun k m => (Lit.int k m).wf = true) ks xs := by
  obtain ⟨cs, rfl⟩ := okWide_agg hg hk
  obtain ⟨fuel, hf'⟩ := h
  exact ⟨cs.toList, by simp [aggV], trod_flat n hf hf'⟩
/-- Cells that are bytes. -/
theorem Kin.bytes : ∀ {m : Nat} {xs : List Value}, Kin (fun k n => (Lit.int k n).wf = true) (List.replicate m .u8) xs → ∃ l : List UInt8, l.length = m ∧ xs = l.map byteV
  | 0, xs, h => ⟨[], rfl, h.nil⟩
  | m + 1, xs, h => by
    rw [List.replicate_succ] at h
    obtain ⟨n, y, rfl, h1, h2⟩ := h.cons
    obtain ⟨l, h3, rfl⟩ := Kin.bytes h2
    exact ⟨UInt8.ofNat n.toNat :: l, by simp [h3], by rw [List.map_cons, ← wf_u8 h1]⟩
end
end Go.Proofs.Ytggijkmlmklneaa
namespace Go.Proofs.Ytggijkmlmklneaa
open Go Go.RowKit
variable {κ : Cx}

/-- The value v is an own row. -/
def ownM (base : Nat) (v : Value) (e : TypeId) (n : Nat) (xs : List Value) : D :=
  .p (fun B w _ => (own base e n xs).OfB B w v) (fun _ _ _ _ g h => D.OfB.keep h g) (fun _ _ _ _ g h => D.OfB.up h g)
def Disj (v u : Value) : Prop := ∀ g, v.ownBlock = some g → u.ownBlock ≠ some g
theorem Disj.symm {v u : Value} (h : Disj v u) : Disj u v := fun g hu hv => h g hv hu
theorem Disj.nil (u : Value) : Disj (.slice none 0 0) u := fun g h => by simp [Value.ownBlock] at h
theorem Surv.ownM {B T g base n : Nat} {e : TypeId} {u : Value} {xs : List Value} (h : u.ownBlock ≠ some g) : Surv B T g (Go.Proofs.Ytggijkmlmklneaa.ownM base u e n xs) := fun w w' _ k ⟨h1, h2⟩ => by
  obtain ⟨h3, h4⟩ := h1
  refine ⟨⟨h3, h4.imp id ?_⟩, fun j hj => Nat.lt_of_lt_of_le (h2 j hj) k.size⟩
  rintro ⟨j, cap, cur, rfl, hj, hh, hr⟩
  have hne : j ≠ g := fun hb => h (by subst hb; rfl)
  exact ⟨j, cap, cur, rfl, hj, (k.other j (h2 j (by simp [Value.ownBlock])) hne).trans hh, hr⟩
section
variable {P : Program} {w₀ : World} {n : Nat} {c : Code} {E : Env} {Q : Exit → Act → World → Prop}
end
/-- An operation's fact in an environment that knows more. -/
theorem OpOk.subL {P : Program} {B : Nat} {o : Oper} {E₁ E : Env} {d : D} (hs : SubL E₁ E) (h : OpOk P B o E₁ d) : OpOk P B o E d := fun ρ w hB hv hρ => by
  have look : ∀ t e, E₁.look t = some e → ∃ e', E.look t = some e' ∧ Le e' e := fun t e he => hs (t, e) (look_mem he)
  refine h ρ w hB (fun t e ht he => ?_) fun x hx e he => ?_
  · obtain ⟨e', h1, h2⟩ := look t e he
    exact h2.of (hv t e' ht h1)
  · cases x with
    | tmp s =>
      obtain ⟨e', h1, h2⟩ := look s e he
      exact h2.of (hρ (.tmp s) hx e' h1)
    | const c => exact hρ _ hx e he
    | global g => exact hρ _ hx e he
    | func f => exact hρ _ hx e he
/-- A new block's number: above the base, and no named block's or row's. -/
def NewV (B : Nat) (E : Env) (g : Nat) : Prop := B ≤ g ∧ (∀ s b' e xs, E.look s = some (blk b' e xs) → b' < g) ∧ ∀ s B' v e n xs, E.look s = some (ownM B' v e n xs) → v.ownBlock ≠ some g
/-- What an append makes of a row's value. -/
def Step (B : Nat) (E : Env) (v v' : Value) : Prop := v'.ownBlock = v.ownBlock ∨ ∃ g, v'.ownBlock = some g ∧ NewV B E g
theorem Disj.step {B : Nat} {E : Env} {v v' u : Value} {s B' n : Nat} {e : TypeId} {xs : List Value} (hs : Step B E v v') (hd : Disj v u) (hu : E.look s = some (ownM B' u e n xs)) : Disj v' u := fun g hg => by
  rcases hs with h | ⟨g', h, hn⟩
  · exact hd g (h ▸ hg)
  · rw [h] at hg; injection hg with hg; subst hg
    exact hn.2.2 s _ _ _ _ _ hu
end Go.Proofs.Ytggijkmlmklneaa
namespace Go.Proofs.Ytggijkmlmklneaa
open Go Go.RowKit
section
variable {P : Program} {n B : Nat} {ops : Array Oper} {E : Env} {ty : TypeId} {pos : String} {after : Array Edge}
/-- Blocks that the environment knows whole. -/
def Named (E : Env) (L : List Nat) : Prop := ∀ b ∈ L, ∃ s e xs, vbase ≤ s ∧ E.look s = some (blk b e xs)
theorem Named.nil : Named E [] := fun _ h => by cases h
theorem Named.cons {b s : Nat} {e : TypeId} {xs : List Value} {L : List Nat} (hs : vbase ≤ s) (h : E.look s = some (blk b e xs)) (hr : Named E L) : Named E (b :: L) := fun b' hb => by
  rcases List.mem_cons.1 hb with rfl | hb
  · exact ⟨s, e, xs, hs, h⟩
  · exact hr b' hb
end
end Go.Proofs.Ytggijkmlmklneaa
namespace Go.Proofs.Ytggijkmlmklneaa
open Go Go.RowKit

/-- Memory grows, and blocks from m on may be marked. -/
structure Marks (m : Nat) (w w' : World) : Prop where
  os : w'.os = w.os
  tape : w'.tape = w.tape
  output : w'.output = w.output
  size : w.heap.size ≤ w'.heap.size
  block : ∀ k o, w.heap[k]? = some o → w'.heap[k]? = some o ∨ (m ≤ k ∧ ∃ cs e fr fr', o = .cells cs e fr ∧ w'.heap[k]? = some (.cells cs e fr'))
theorem Marks.of {m : Nat} {w w' : World} (h : Grow w w') : Marks m w w' := ⟨h.os, h.tape, h.output, h.size, fun k _ hk => .inl ((h.block k (Array.getElem?_eq_some_iff.1 hk).1).trans hk)⟩
theorem Marks.below {m : Nat} {w w' : World} (h : Marks m w w') (hm : m ≤ w.heap.size) : Below m w w' := ⟨h.os, h.tape, h.output, h.size, fun k hk => by
  have hlt : k < w.heap.size := by omega
  rcases h.block k _ (Array.getElem?_eq_getElem hlt) with h1 | ⟨h1, _⟩
  · rw [h1, Array.getElem?_eq_getElem hlt]
  · omega⟩
theorem Marks.cell {m : Nat} {w w' : World} (h : Marks m w w') {a : Addr} {v : Value} (hc : w.cell? a = some v) : w'.cell? a = some v := by
  unfold World.cell? at hc ⊢
  cases hb : w.heap[a.block]? with
  | none => rw [hb] at hc; cases hc
  | some o =>
    rw [hb] at hc
    rcases h.block _ _ hb with h1 | ⟨_, cs, e, fr, fr', rfl, h1⟩
    · rw [h1]; exact hc
    · rw [h1]; exact hc

/-- The fact is left alone by marks. -/
class StbM (d : D) : Prop where
  st : ∀ m w w' B x, Marks m w w' → d.OfB B w x → d.OfB B w' x
instance (x : Value) : StbM (.v x) := ⟨fun _ _ _ _ _ _ h => h⟩
class StbL (ds : List D) : Prop where
  st : ∀ (j : Nat) (d : D), ds[j]? = some d → StbM d
instance : StbL [] := ⟨fun _ _ h => by simp at h⟩
instance (d : D) (ds : List D) [hd : StbM d] [hl : StbL ds] : StbL (d :: ds) := ⟨fun j e h => by
  cases j with
  | zero => simp at h; subst h; exact hd
  | succ j => exact hl.st j e (by simpa using h)⟩
instance (l : List UInt8) : StbL (l.map byteD) := ⟨fun j d h => by
  simp only [List.getElem?_map, Option.map_eq_some_iff] at h
  obtain ⟨b, _, rfl⟩ := h
  exact inferInstanceAs (StbM (.v _))⟩
instance (b : UInt8) : StbM (byteD b) := inferInstanceAs (StbM (.v _))
theorem ListF.mark {ds : List D} [hl : StbL ds] {c B m : Nat} {w w' : World} {x : Value} (k : Marks m w w') : ListF ds c B w x → ListF ds c B w' x :=
  fun ⟨A, vs, h1, h2, h3, h4, h5, h6⟩ => ⟨A, vs, h1, h2, h3, h4, fun j u hu => by
    obtain ⟨ad, g1, g2, g3⟩ := h5 j u hu
    exact ⟨ad, g1, g2, k.cell g3⟩, fun j d u hd hu => (hl.st j d hd).st m w w' B u k (h6 j d u hd hu)⟩
instance (ds : List D) (c : Nat) [StbL ds] : StbM (list ds c) := ⟨fun _ _ _ _ _ k h => ListF.mark k h⟩
instance (ds : List D) [StbL ds] : StbM (lst ds) := ⟨fun _ _ _ _ _ k ⟨c, h⟩ => ⟨c, ListF.mark k h⟩⟩
instance (l : List UInt8) (c : Nat) : StbM (bytes l c) := inferInstanceAs (StbM (list _ c))
instance (l : List UInt8) : StbM (byt l) := inferInstanceAs (StbM (lst _))
/-- A slice over a block from m on. -/
def newL (m : Nat) (ds : List D) (c : Nat) : D := .p (fun B w x => (∃ (a : Addr) (len : Nat), x = .slice (some a) len c ∧ m ≤ a.block ∧ a.block < B) ∧ ListF ds c B w x) (fun _ _ _ _ g ⟨h1, h2⟩ => ⟨h1, h2.keep g⟩) (fun _ _ _ _ g ⟨⟨a, l, h0, h1, h2⟩, h3⟩ => ⟨⟨a, l, h0, h1, by omega⟩, h3.up g⟩)
instance (m : Nat) (ds : List D) (c : Nat) [StbL ds] : StbM (newL m ds c) := ⟨fun _ _ _ _ _ k ⟨h1, h2⟩ => ⟨h1, ListF.mark k h2⟩⟩
/-! ### Operations -/
def OpOkM (P : Program) (m B : Nat) (o : Oper) (E : Env) (d : D) : Prop :=
  ∀ (ρ : Operand → Value) (w : World), B ≤ w.heap.size → m ≤ w.heap.size → (∀ t e, vbase ≤ t → E.look t = some e → e.Of w undef) → (∀ x, x ∈ o.op.operands → ∀ e, E.at x = some e → e.Of w (ρ x)) → Out P o ρ w fun x w' => Marks m w w' ∧ d.Of w' x
theorem OpOk.m {P : Program} {m B : Nat} {o : Oper} {E : Env} {d : D} (h : OpOk P B o E d) : OpOkM P m B o E d := fun ρ w hB _ hv hρ => (h ρ w hB hv hρ).mono fun _ _ hx => ⟨Marks.of hx.1, hx.2⟩
section
variable {P : Program} {m B : Nat} {E : Env} {dst : Option Tmp} {ty : TypeId} {pos : String} {after : Array Edge} {guard : Option (Nat × Bool)}
end

/-! ### Regions -/
def GoodM (P : Program) (m B : Nat) (ops : Array Oper) (o : Oper) (E : Env) (d : D) : Prop :=
  (GuardIs ops E o true ∧ OpOkM P m B o E d) ∨ (GuardIs ops E o false ∧ d = .v undef)
inductive TraceM (P : Program) (m B : Nat) (ops : Array Oper) : List Oper → Env → List D → Env → Prop
  | nil {E : Env} : TraceM P m B ops [] E [] E
  | cons {o : Oper} {rest : List Oper} {E E' : Env} {t : Nat} {d : D} {ds : List D} (ht : o.dst = some t) (hg : GoodM P m B ops o E d) (hs : StbM d) (hr : TraceM P m B ops rest ((t, d) :: E) ds E') : TraceM P m B ops (o :: rest) E (d :: ds) E'
/-- The region's text from here on, and what is to be shown in the environment at its end. -/
def RunM (P : Program) (m B : Nat) (ops : Array Oper) (rest : List Oper) (E : Env) (C : Env → Prop) : Prop := ∃ ds E', TraceM P m B ops rest E ds E' ∧ C E'
section
variable {P : Program} {m B : Nat} {ops : Array Oper} {o : Oper} {rest : List Oper} {E : Env} {C : Env → Prop} {t : Nat} {d : D}
theorem RunM.nil (h : C E) : RunM P m B ops [] E C := ⟨[], E, .nil, h⟩
theorem RunM.mk [hs : StbM d] (ht : o.dst = some t) (hg : GoodM P m B ops o E d) (hr : RunM P m B ops rest ((t, d) :: E) C) : RunM P m B ops (o :: rest) E C := by
  obtain ⟨ds, E', h1, h2⟩ := hr; exact ⟨_, _, .cons ht hg hs h1, h2⟩
theorem RunM.stepM [StbM d] (ht : o.dst = some t) (hg : o.guard = none) (h : OpOkM P m B o E d) (hr : RunM P m B ops rest ((t, d) :: E) C) : RunM P m B ops (o :: rest) E C :=
  .mk ht (.inl ⟨by simp [GuardIs, hg], h⟩) hr
theorem RunM.step [StbM d] (ht : o.dst = some t) (hg : o.guard = none) (h : OpOk P B o E d) (hr : RunM P m B ops rest ((t, d) :: E) C) : RunM P m B ops (o :: rest) E C := .stepM ht hg h.m hr
theorem RunM.guardedM [StbM d] {j : Nat} {want : Bool} {s : Nat} (ht : o.dst = some t) (hg : o.guard = some (j, want)) (hj : ((ops[j]?).bind (·.dst)) = some s) (hE : E.look s = some (.v (.bool want))) (h : OpOkM P m B o E d) (hr : RunM P m B ops rest ((t, d) :: E) C) : RunM P m B ops (o :: rest) E C :=
  .mk ht (.inl ⟨by simp only [GuardIs, hg]; exact ⟨s, hj, .inl ⟨want, hE, by cases want <;> rfl⟩⟩, h⟩) hr
theorem RunM.guarded [StbM d] {j : Nat} {want : Bool} {s : Nat} (ht : o.dst = some t) (hg : o.guard = some (j, want)) (hj : ((ops[j]?).bind (·.dst)) = some s) (hE : E.look s = some (.v (.bool want))) (h : OpOk P B o E d) (hr : RunM P m B ops rest ((t, d) :: E) C) : RunM P m B ops (o :: rest) E C := .guardedM ht hg hj hE h.m hr
theorem RunM.skipped {j : Nat} {want c : Bool} {s : Nat} (ht : o.dst = some t) (hg : o.guard = some (j, want)) (hj : ((ops[j]?).bind (·.dst)) = some s) (hE : E.look s = some (.v (.bool c))) (hc : (c == want) = false) (hr : RunM P m B ops rest ((t, .v undef) :: E) C) : RunM P m B ops (o :: rest) E C :=
  .mk ht (.inr ⟨by simp only [GuardIs, hg]; exact ⟨s, hj, .inl ⟨c, hE, hc.symm⟩⟩, rfl⟩) hr
theorem RunM.as (x : Value) {y : Value} (h : y = x) (hr : RunM P m B ops rest ((t, .v x) :: E) C) : RunM P m B ops rest ((t, .v y) :: E) C := h ▸ hr
end
theorem TraceM.nth {P : Program} {m B : Nat} {ops : Array Oper} {rest : List Oper} {E E' : Env} {ds : List D} (h : TraceM P m B ops rest E ds E') : ∀ {i : Nat} {o : Oper}, rest[i]? = some o →
    ∃ t d Ei, o.dst = some t ∧ ds[i]? = some d ∧ GoodM P m B ops o Ei d ∧ ∀ s e, Ei.look s = some e →
      (∃ j o', j < i ∧ rest[j]? = some o' ∧ o'.dst = some s ∧ ds[j]? = some e) ∨ ((∀ j o', j < i → rest[j]? = some o' → o'.dst ≠ some s) ∧ E.look s = some e) := by
  induction h with
  | nil => intro i o hi; simp at hi
  | @cons o0 rest E E' t0 d0 ds ht hg hs hr ih =>
    intro i o hi
    cases i with
    | zero =>
      simp at hi; subst hi
      exact ⟨t0, d0, E, ht, rfl, hg, fun s e he => .inr ⟨fun j _ hj => by omega, he⟩⟩
    | succ i =>
      obtain ⟨t, d, Ei, h1, h2, h3, h4⟩ := ih (i := i) (by simpa using hi)
      refine ⟨t, d, Ei, h1, by simpa using h2, h3, fun s e he => ?_⟩
      rcases h4 s e he with ⟨j, o', hj, ho', hd, hds⟩ | ⟨hno, hl⟩
      · exact .inl ⟨j + 1, o', by omega, by simpa using ho', hd, by simpa using hds⟩
      · by_cases hs : t0 = s
        · subst hs
          rw [look_here] at hl
          exact .inl ⟨0, o0, by omega, rfl, ht, by simpa using hl⟩
        · rw [look_past _ _ hs] at hl
          refine .inr ⟨fun j o' hj ho' => ?_, hl⟩
          cases j with
          | zero => simp at ho'; subst ho'; rw [ht]; intro h; injection h with h; exact hs h
          | succ j => exact hno j o' (by omega) (by simpa using ho')
theorem TraceM.last {P : Program} {m B : Nat} {ops : Array Oper} {rest : List Oper} {E E' : Env} {ds : List D} (h : TraceM P m B ops rest E ds E') : ∀ s e, E'.look s = some e →
      (∃ (j : Nat) (o' : Oper), rest[j]? = some o' ∧ o'.dst = some s ∧ ds[j]? = some e) ∨ ((∀ (j : Nat) (o' : Oper), rest[j]? = some o' → o'.dst ≠ some s) ∧ E.look s = some e) := by
  induction h with
  | nil => intro s e he; exact .inr ⟨fun j _ hj => by simp at hj, he⟩
  | @cons o0 rest E E' t0 d0 ds ht hg hs hr ih =>
    intro s e he
    rcases ih s e he with ⟨j, o', ho', hd, hds⟩ | ⟨hno, hl⟩
    · exact .inl ⟨j + 1, o', by simpa using ho', hd, by simpa using hds⟩
    · by_cases hs : t0 = s
      · subst hs
        rw [look_here] at hl
        exact .inl ⟨0, o0, rfl, ht, by simpa using hl⟩
      · rw [look_past _ _ hs] at hl
        refine .inr ⟨fun j o' ho' => ?_, hl⟩
        cases j with
        | zero => simp at ho'; subst ho'; rw [ht]; intro h; injection h with h; exact hs h
        | succ j => exact hno j o' (by simpa using ho')
section
variable {P : Program} {B : Nat} {ops : Array Oper} {Q : Exit → Act → World → Prop} {κ : Cx}
end
/-! ### Constants in a region whose order is the text's: the conversion is an effect -/
/-- A slice of constant bytes over a block of the call's own. -/
def newT (B : Nat) (e : TypeId) (l : List UInt8) (c : Nat) : D := .p (fun B' w x => (∃ (a : Addr) (len : Nat) (cs : Array Value) (fr : Nat × Nat), x = .slice (some a) len c ∧ B ≤ a.block ∧ a.block < B' ∧ w.heap[a.block]? = some (.cells cs e fr)) ∧ ListF (l.map byteD) c B' w x)
  (fun _ _ _ _ g ⟨⟨a, len, cs, fr, h0, h1, h2, h3⟩, h4⟩ => ⟨⟨a, len, cs, fr, h0, h1, h2, (g.block _ h2).trans h3⟩, h4.keep g⟩)
  (fun _ _ _ _ g ⟨⟨a, len, cs, fr, h0, h1, h2, h3⟩, h4⟩ => ⟨⟨a, len, cs, fr, h0, h1, by omega, h3⟩, h4.up g⟩)
instance (B : Nat) (e : TypeId) (l : List UInt8) (c : Nat) : StbM (newT B e l c) := ⟨fun m w w' B' x k ⟨⟨a, len, cs, fr, h0, h1, h2, h3⟩, h4⟩ => ⟨by
  rcases k.block _ _ h3 with h | ⟨_, cs', e', fr', fr'', h5, h⟩
  · exact ⟨a, len, cs, fr, h0, h1, h2, h⟩
  · injection h5 with h6 h7 h8
    subst h6; subst h7
    exact ⟨a, len, _, _, h0, h1, h2, h⟩, ListF.mark k h4⟩⟩
theorem Surv.newT {B T g base : Nat} {e : TypeId} {l : List UInt8} {c : Nat} (h : e ≠ T) : Surv B T g (Go.Proofs.Ytggijkmlmklneaa.newT base e l c) := fun w w' x k ⟨⟨a, len, cs, fr, h0, h1, h2, h3⟩, A, vs, g1, g2, g3, g4, g5, g6⟩ => by
  have hne : a.block ≠ g := fun hb => h (by subst hb; exact k.row _ _ _ h3)
  have hsame : w'.heap[a.block]? = w.heap[a.block]? := k.other _ h2 hne
  refine ⟨⟨a, len, cs, fr, h0, h1, Nat.lt_of_lt_of_le h2 k.size, hsame.trans h3⟩, A, vs, g1, g2, g3, g4, fun j u hu => ?_, fun j d u hd hu => ?_⟩
  · obtain ⟨ad, e1, e2, e3⟩ := g5 j u hu
    refine ⟨ad, e1, Nat.lt_of_lt_of_le e2 k.size, ?_⟩
    have hab : ad = a := by
      subst e1; rw [h0] at g1; injection g1 with g1; injection g1 with g1; exact g1.symm
    subst hab
    unfold World.cell? at e3 ⊢
    have hbl : (ad.add j).block = ad.block := by unfold Addr.add; try split <;> rfl
    rw [hbl] at e3 ⊢
    rw [hsame]; exact e3
  · have h9 := g6 j d u hd hu
    simp only [List.getElem?_map, Option.map_eq_some_iff] at hd
    obtain ⟨b, _, rfl⟩ := hd
    exact h9
def SurvM (B T g : Nat) (d : D) : Prop := ∀ w w' x, Wrote B T g w w' → Marks B w w' → d.Of w x → d.Of w' x
theorem SurvM.of {B T g : Nat} {d : D} (h : Surv B T g d) : SurvM B T g d := fun w w' x k _ hx => h w w' x k hx
def LeftM (B T g : Nat) (E' E : Env) : Prop := ∀ p ∈ E', E.look p.1 = some p.2 ∧ SurvM B T g p.2
theorem LeftM.nil {B T g : Nat} {E : Env} : LeftM B T g [] E := fun _ h => by cases h
theorem LeftM.cons {B T g : Nat} {E E' : Env} {t : Nat} {d : D} (h : E.look t = some d) (hs : SurvM B T g d) (hr : LeftM B T g E' E) : LeftM B T g ((t, d) :: E') E := fun p hp => by
  rcases List.mem_cons.1 hp with rfl | hp
  · exact ⟨h, hs⟩
  · exact hr p hp
end Go.Proofs.Ytggijkmlmklneaa
namespace Go.Proofs.Ytggijkmlmklneaa
open Go Go.RowKit
variable {κ : Cx}

theorem St.push {n B : Nat} {E : Env} {a : Act} {w : World} {t : Nat} {d : D} (h : St κ n B E a w) (hd : d.Of w (a.tmps.getD t undef)) : St κ n B ((t, d) :: E) a w :=
  ⟨h.base, h.defers, h.size, fun s e he => by
    by_cases hts : t = s
    · subst hts
      rw [look_here] at he; injection he with he; subst he; exact hd
    · rw [look_past _ _ hts] at he
      exact h.of s e he⟩

/-! ### A variable that holds something of which d is known -/
theorem Firm.own {l base n : Nat} {e : TypeId} {xs : List Value} : Firm l (Go.Proofs.Ytggijkmlmklneaa.own base e n xs) := fun w o o' x hl ho ⟨h1, h2⟩ => by
  obtain ⟨h3, h4⟩ := h1
  refine ⟨⟨h3, h4.imp id ?_⟩, fun j hj => by simpa using h2 j hj⟩
  rintro ⟨j, cap, cur, rfl, hj, hh, hr⟩
  have hne : j ≠ l := fun hb => by subst hb; rw [hh] at hl; injection hl with hl; subst hl; cases ho
  exact ⟨j, cap, cur, rfl, hj, (World.putObj_heap_other hne).trans hh, hr⟩
theorem Firm.ownM {l base n : Nat} {v : Value} {e : TypeId} {xs : List Value} : Firm l (Go.Proofs.Ytggijkmlmklneaa.ownM base v e n xs) := fun w o o' _ hl ho h => Firm.own w o o' v hl ho h
theorem Firm.list {l c : Nat} {ds : List D} (hd : ∀ d ∈ ds, Firm l d) : Firm l (Go.Proofs.Ytggijkmlmklneaa.list ds c) := fun w o o' x hl ho ⟨A, vs, h1, h2, h3, h4, h5, h6⟩ =>
  ⟨A, vs, h1, h2, h3, h4, fun j u hu => by
    obtain ⟨ad, g1, g2, g3⟩ := h5 j u hu
    refine ⟨ad, g1, by simpa using g2, ?_⟩
    have hne : (ad.add j).block ≠ l := fun hb => by
      unfold World.cell? at g3
      rw [hb, hl] at g3
      cases o <;> simp_all [Obj.isCells]
    unfold World.cell? at g3 ⊢
    rw [World.putObj_heap_other hne]; exact g3, fun j d u hd' hu => hd d (List.mem_of_getElem? hd') w o o' u hl ho (h6 j d u hd' hu)⟩
theorem Firm.bytes {l c : Nat} {xs : List UInt8} : Firm l (Go.Proofs.Ytggijkmlmklneaa.bytes xs c) := Firm.list fun d hd => by
  obtain ⟨b, _, rfl⟩ := List.mem_map.1 hd
  exact Firm.v l _

section
variable {P : Program} {n B : Nat} {ops : Array Oper} {E : Env} {dst : Option Tmp} {ty : TypeId} {pos : String} {after : Array Edge} {guard : Option (Nat × Bool)}
end

/-! ### Functions that hold variables -/
def VArgs (E : Env) : List Value → List Operand → Prop
  | [], [] => True
  | u :: us, x :: xs => E.at x = some (.v u) ∧ VArgs E us xs
  | _, _ => False
theorem VArgs.map {E : Env} {ρ : Operand → Value} : ∀ {us : List Value} {xs : List Operand}, VArgs E us xs → (∀ x ∈ xs, ∀ v, E.at x = some (.v v) → ρ x = v) → xs.map ρ = us
  | [], [], _, _ => rfl
  | [], _ :: _, h, _ => h.elim
  | _ :: _, [], h, _ => h.elim
  | u :: us, x :: xs, ⟨h1, h2⟩, hρ => by rw [List.map_cons, hρ x List.mem_cons_self u h1, VArgs.map h2 fun y hy v hv => hρ y (List.mem_cons_of_mem _ hy) v hv]
section
variable {P : Program} {n B : Nat} {w₀ : World} {ops : Array Oper} {E : Env} {dst : Option Tmp} {ty : TypeId} {pos : String} {after : Array Edge} {guard : Option (Nat × Bool)}
abbrev ptr (b : Nat) : Value := .pointer (some ⟨b, 0, none⟩)
variable {f : Nat} {T₁ T₂ T₃ : TypeId} {d₁ d₂ d₃ : D}
end

/-! ### A region with a base of its own, where tables stay tables -/
def OldH (B : Nat) (E' E : Env) : Prop := ∀ p ∈ E', ∃ d, E.look p.1 = some d ∧ (p.2 = d ∨ p.2 = old B d)
theorem OldH.nil {B : Nat} {E : Env} : OldH B [] E := fun _ h => by cases h
theorem OldH.same {B : Nat} {E E' : Env} {t : Nat} {d : D} (h : E.look t = some d) (hr : OldH B E' E) : OldH B ((t, d) :: E') E := fun p hp => by
  rcases List.mem_cons.1 hp with rfl | hp
  · exact ⟨_, h, .inl rfl⟩
  · exact hr p hp
theorem OldH.p {B : Nat} {E E' : Env} {t : Nat} {d : D} (h : E.look t = some d) (hr : OldH B E' E) : OldH B ((t, old B d) :: E') E := fun p hp => by
  rcases List.mem_cons.1 hp with rfl | hp
  · exact ⟨d, h, .inr rfl⟩
  · exact hr p hp
end Go.Proofs.Ytggijkmlmklneaa
namespace Go.Proofs.Ytggijkmlmklneaa
open Go Go.RowKit
variable {κ : Cx}

/-- Since the world w₁ nothing that was there has changed but block g. -/
def wroteD (T : TypeId) (g : Nat) (w₁ : World) : D :=
  .p (fun B w _ => w₁.heap.size ≤ B ∧ Wrote g T g w₁ w) (fun _ _ _ _ h ⟨h1, h2⟩ => ⟨h1, ⟨h2.base, h.os.trans h2.os, h.tape.trans h2.tape, h.output.trans h2.output, Nat.le_trans h2.size h.size, h2.cel, fun k hk hne => (h.block k (Nat.lt_of_lt_of_le hk h1)).trans (h2.other k hk hne)⟩⟩)
    (fun _ _ _ _ h ⟨h1, h2⟩ => ⟨Nat.le_trans h1 h, h2⟩)
theorem Surv.wrote {B T g : Nat} {w₁ : World} : Surv B T g (wroteD T g w₁) := fun _ _ _ k ⟨h1, h2⟩ =>
  ⟨Nat.le_trans h1 k.size, ⟨h2.base, k.os.trans h2.os, k.tape.trans h2.tape, k.output.trans h2.output, Nat.le_trans h2.size k.size, h2.cel, fun j hj hne => (k.other j (Nat.lt_of_lt_of_le hj h1) hne).trans (h2.other j hj hne)⟩⟩
/-- The world with its first g blocks alone. -/
def cutW (w : World) (g : Nat) : World := { w with heap := w.heap.extract 0 g }
theorem cutW_size {w : World} {g : Nat} (h : g ≤ w.heap.size) : (cutW w g).heap.size = g := by simp [cutW]; omega
theorem cutW_below {w : World} {g : Nat} (h : g ≤ w.heap.size) : Below (cutW w g).heap.size (cutW w g) w :=
  ⟨rfl, rfl, rfl, by rw [cutW_size h]; exact h, fun k hk => by
    rw [cutW_size h] at hk
    simp only [cutW, Array.getElem?_extract]
    rw [if_pos (by omega), Nat.zero_add]⟩

/-- A contract: block g, whose cells are xs, is left with the cells ys; the tables M lie below it. -/
structure FnW (P : Program) (f : FuncId) (M : Env) (T g : Nat) (xs ys : List Value) (ds : List D) : Prop where
  body : ∃ fn, P.funcs[f]? = some fn ∧ (fn.name == "runtime.NumGoroutine") = false ∧ fn.body.isNone = false
  calls : ∀ (vs : List Value) (w : World), vs.length = ds.length → (∀ (j : Nat) (e : D) (u : Value), ds[j]? = some e → vs[j]? = some u → e.Of w u) → (∀ p ∈ M, p.2.OfB g w undef) → g < w.heap.size → w.heap[g]? = some (.cells xs.toArray T (0, 0)) →
    Calls P f vs.toArray w fun e w' => e = .returned (.tuple #[]) ∧ Wrote g T g w w' ∧ w'.heap[g]? = some (.cells ys.toArray T (0, 0))
section
variable {P : Program} {n B : Nat} {ops : Array Oper} {E : Env} {ty : TypeId} {pos : String} {after : Array Edge}
/-- The contract out of a walk at the base of the block that is written. -/
theorem FnW.of {f : FuncId} {fn : Func} {c : Code} {M : Env} {T g kb kw : Nat} {xs ys us : List Value} (hf : P.funcs[f]? = some fn) (hb : fn.body = some c) (hname : (fn.name == "runtime.NumGoroutine") = false) (hn : fn.ntmps = n) (hds : us.length ≤ n) (hnv : n ≤ vbase)
    (hMb : ∀ p ∈ M, vbase ≤ p.1) (hkb : vbase ≤ kb) (hkw : vbase ≤ kw) (args : Env) (hargs : ∀ p ∈ args, ∃ v, p.2 = .v v ∧ us[p.1]? = some v)
    (h : ∀ w₀ w₁ : World, w₀.heap.size = g → (∀ p ∈ M, p.2.OfB w₀.heap.size w₁ undef) → A Cx.top P w₀ n c (args ++ ((kb, blk g T xs) :: (kw, wroteD T g w₁) :: M)) (BP P fn fun e w' => e = .returned (.tuple #[]) ∧ Wrote g T g w₁ w' ∧ w'.heap[g]? = some (.cells ys.toArray T (0, 0)))) :
    FnW P f M T g xs ys (us.map D.v) := by
  refine ⟨⟨fn, hf, hname, by rw [hb]; rfl⟩, fun vs w hl hv hM hlt hh => ?_⟩
  have hvs : vs = us := by
    apply List.ext_getElem?
    intro j
    simp only [List.length_map] at hl
    rcases Nat.lt_or_ge j us.length with hj | hj
    · have h1 := hv j (.v us[j]) vs[j] (by simp [hj]) (List.getElem?_eq_getElem (by omega))
      rw [List.getElem?_eq_getElem hj, List.getElem?_eq_getElem (by omega)]
      exact congrArg some h1
    · rw [List.getElem?_eq_none hj, List.getElem?_eq_none (by omega)]
  subst hvs
  have hsz := cutW_size (w := w) (g := g) (Nat.le_of_lt hlt)
  refine callsIn_FR.1 (callsIn_of_wp_marks (F := FR none) (n := 0) hf hb trivial (h (cutW w g) w hsz (by rw [hsz]; exact hM) _ w (cutW_below (Nat.le_of_lt hlt)) ⟨by rw [hsz]; omega, rfl, ?_, fun t e he => ?_⟩))
  · simp [hn]; omega
  · show e.Of w ((vs.toArray ++ Array.replicate (fn.ntmps - vs.toArray.size) undef).getD t undef)
    have hund : vbase ≤ t → (vs.toArray ++ Array.replicate (fn.ntmps - vs.toArray.size) undef).getD t undef = undef := fun ht => by
      rw [Array.getD_eq_getD_getElem?, Array.getElem?_eq_none (by simp [hn]; omega)]; rfl
    rcases List.mem_append.1 (look_mem he) with hm | hm
    · obtain ⟨v, h1, h2⟩ := hargs _ hm
      simp only at h1 h2
      have hj : t < vs.length := (List.getElem?_eq_some_iff.1 h2).1
      rw [Array.getD_eq_getD_getElem?, Array.getElem?_append_left (by simpa using hj)]
      subst h1
      simp [h2]; rfl
    · rcases List.mem_cons.1 hm with h1 | hm
      · injection h1 with h1 h2; subst h1; subst h2
        exact ⟨hlt, hh⟩
      · rcases List.mem_cons.1 hm with h1 | hm
        · injection h1 with h1 h2; subst h1; subst h2
          exact ⟨Nat.le_refl _, Nat.le_refl _, rfl, rfl, rfl, Nat.le_refl _, fun o ho => by rw [hh] at ho; injection ho with ho; exact ⟨_, _, ho.symm⟩, fun _ _ _ => rfl⟩
        · have h1 := hMb _ hm
          rw [hund h1]
          exact D.OfB.up (hM _ hm) (Nat.le_of_lt hlt)
theorem End.wrote {w₀ w₁ : World} {fn : Func} {T g kb kw : Nat} {xs ys : List Value} (hr : fn.results = #[]) (hb : E.look kb = some (blk g T xs)) (hx : xs = ys) (hw : E.look kw = some (wroteD T g w₁)) :
    End Cx.top w₀ n E (BP P fn (fun e w' => e = .returned (.tuple #[]) ∧ Wrote g T g w₁ w' ∧ w'.heap[g]? = some (.cells ys.toArray T (0, 0))) .normal) := fun a w _ hs => by
  subst hx
  show LeavesInM (FR none) 0 P fn a.tmps _ a.defers .returning w
  rw [show a.defers = [] from hs.defers]
  exact ⟨.tuple #[], by simp [results, hr], rfl, (hs.of kw _ hw).2, (hs.of kb _ hb).2⟩
end
end Go.Proofs.Ytggijkmlmklneaa
namespace Go.Proofs.Ytggijkmlmklneaa
open Go Go.RowKit
variable {κ : Cx}

section
variable {P : Program} {b : Frame} {a : Act} {k : List Item} {cs : List Frame} {w : World} {Q : Exit → Act → World → Prop} {F : Fence} {n : Nat}
theorem stepR_scope {c : Code} : step P (lone (b.atR a (.code (.scope c) :: k)) cs w) = .next (lone (b.atR a (.code c :: .inScope c :: k)) cs w) :=
  step_lone_go (by simp [stepG, stepG.exec, Frame.atR])
theorem stepR_inScope {c : Code} : step P (lone (b.atR a (.inScope c :: k)) cs w) = .next (lone (b.atR a k) cs w) :=
  step_lone_go (by simp [stepG, stepG.exec, Frame.atR])
theorem wpIn_scope {c : Code} (h : c.wpIn F n P (Exit.noGoto Q) a w) : (Code.scope c).wpIn F n P Q a w := by
  intro b k cs hro hb hr
  have h0 : (lone (b.atR a (.code (.scope c) :: k)) cs w).fenced P F := fenced_calm hb hr rfl
  obtain ⟨e, a₁, w₁, hq, harr⟩ := h b (.inScope c :: k) cs hro hb hr
  have hx : ∀ id, exitTo id (.inScope c :: k) = exitTo id k := fun id => by simp [exitTo]
  cases e with
  | normal => exact ⟨.normal, a₁, w₁, hq, .head h0 stepR_scope (StepsIn.trans harr (.one (fenced_calm hb hr rfl) stepR_inScope))⟩
  | exit id => exact ⟨.exit id, a₁, w₁, hq, fun k' hk => .head h0 stepR_scope (harr.1 k' (by rw [hx]; exact hk)),
      fun hr' hk => let ⟨k₁, h1, h2⟩ := harr.2 hr' (by rw [hx]; exact hk); ⟨k₁, h1, .head h0 stepR_scope h2⟩⟩
  | goto l => exact hq.elim
  | ret => exact ⟨_, a₁, w₁, hq, .of_steps (.one h0 stepR_scope) ⟨fun hr => let ⟨todo, hs⟩ := harr.1 hr; ⟨todo, hs⟩, fun hr => let ⟨k₁, hs⟩ := harr.2 hr; ⟨k₁, hs⟩⟩⟩
  | panic ch => exact ⟨_, a₁, w₁, hq, .of_steps (.one h0 stepR_scope) harr⟩
  | outgrown => exact ⟨_, a₁, w₁, hq, .of_steps (.one h0 stepR_scope) harr⟩
end
section
variable {P : Program} {w₀ : World} {n : Nat} {c : Code} {E : Env} {Q : Exit → Act → World → Prop}
theorem A.scope (h : A κ P w₀ n c E (Exit.noGoto Q)) : A κ P w₀ n (.scope c) E Q := fun a w g hs => wpIn_scope (h a w g hs)
theorem A.label {l : Nat} (h : End κ w₀ n E (Q .normal)) : A κ P w₀ n (.label l) E Q := fun a w g hs => wpIn_label (h a w g hs)
end

section
variable {P : Program} {n B : Nat} {ops : Array Oper} {E : Env} {dst : Option Tmp} {ty : TypeId} {pos : String} {after : Array Edge} {guard : Option (Nat × Bool)}
end

/-! ### Own rows that lie apart from a named block -/
section
variable {P : Program} {w₀ : World} {n : Nat} {c : Code} {E : Env} {Q : Exit → Act → World → Prop}
end
end Go.Proofs.Ytggijkmlmklneaa
namespace Go.Proofs.Ytggijkmlmklneaa
open Go Go.RowKit
variable {κ : Cx}

theorem SizeIs.get {P : Program} {T : TypeId} {m : Nat} (h : SizeIs P T m) : ∃ i, P.info? T = some i ∧ i.size = m := by
  unfold SizeIs at h
  cases hi : P.info? T with
  | none => rw [hi] at h; cases h
  | some i => rw [hi] at h; exact ⟨i, rfl, by simpa using h⟩
section
variable {P : Program} {n B : Nat} {ops : Array Oper} {E : Env} {dst : Option Tmp} {ty : TypeId} {pos : String} {after : Array Edge} {guard : Option (Nat × Bool)}
/-- Called without arguments, the function value u takes block g's cells from xs to ys. -/
def Does (P : Program) (T g : Nat) (u : Value) (xs ys : List Value) : Prop := ∃ (f : FuncId) (vs : List Value), u = .func (.func f) vs.toArray #[] ∧ FnW P f [] T g xs ys (vs.map D.v)
theorem FnW.does {f : FuncId} {T g : Nat} {xs ys vs : List Value} (h : FnW P f [] T g xs ys (vs.map D.v)) : Does P T g (.func (.func f) vs.toArray #[]) xs ys := ⟨f, vs, rfl, h⟩
end
section
variable {P : Program} {w₀ : World} {n : Nat} {c : Code} {E : Env} {Q : Exit → Act → World → Prop}
end

/-! ### Variables of a function that writes one block -/
/-! ### Equality of arrays of arrays -/
section
variable {P : Program} {B : Nat} {E : Env} {dst : Option Tmp} {ty : TypeId} {pos : String} {after : Array Edge} {guard : Option (Nat × Bool)}
end
end Go.Proofs.Ytggijkmlmklneaa
