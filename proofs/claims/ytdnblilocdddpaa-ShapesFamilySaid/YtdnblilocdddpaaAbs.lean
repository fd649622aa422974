/-
  OWN WORDS FOR WALKING A FUNCTION BY FACTS: an environment says of each slot which value it holds, or a property of that value that stays true while memory grows. A region is gone through once, in the order of the text; the theorem 'wp_reg' says that it then holds in every order that its edges allow. Nothing of one program stands here.
-/
import Derived.WalkKit
import Derived.RegionTactic
import Derived.Deep.Draws
import Derived.TacticsIn
import Derived.OrdersIn
import Derived.RangeFuncLeaves
namespace Go.Proofs.Ytdnblilocdddpaa
open Go Go.RowKit

/-! ### Worlds that grow -/
def Grow (w w' : World) : Prop := Below w.heap.size w w'
theorem Grow.refl (w : World) : Grow w w := Below.refl _ _
theorem Grow.trans {a b c : World} (h : Grow a b) (k : Grow b c) : Grow a c := Below.trans h (Below.mono k h.size)
theorem Grow.drew {a w : World} (h : Grow a w) : Grow a w.drew := Below.drew h
theorem Grow.alloc (w : World) (o : Obj) : Grow w (w.alloc o) := (Below.refl _ _).alloc (Nat.le_refl _) o

/-! ### What is known of a value -/
inductive D where
  | v (x : Value)
  | p (F : Nat → World → Value → Prop) (keep : ∀ B w w' x, Below B w w' → F B w x → F B w' x) (up : ∀ B B' w x, B ≤ B' → F B w x → F B' w x)

/-- The memory that the fact speaks of lies below block B. -/
def D.OfB : D → Nat → World → Value → Prop
  | .v y, _, _, x => x = y
  | .p F _ _, B, w, x => F B w x
def D.Of (d : D) (w : World) (x : Value) : Prop := d.OfB w.heap.size w x
theorem D.OfB.keep {d : D} {B : Nat} {w w' : World} {x : Value} (h : d.OfB B w x) (g : Below B w w') : d.OfB B w' x := by
  cases d with
  | v y => exact h
  | p F k u => exact k B w w' x g h
theorem D.OfB.up {d : D} {B B' : Nat} {w : World} {x : Value} (h : d.OfB B w x) (g : B ≤ B') : d.OfB B' w x := by
  cases d with
  | v y => exact h
  | p F k u => exact u B B' w x g h
theorem D.Of.grow {d : D} {w w' : World} {x : Value} (h : d.Of w x) (g : Grow w w') : d.Of w' x := (D.OfB.keep h g).up g.size

abbrev Env := List (Nat × D)
def Env.look : Env → Nat → Option D
  | [], _ => none
  | (s, d) :: r, t => cond (Nat.beq s t) (some d) (Env.look r t)
def Env.at (E : Env) : Operand → Option D
  | .tmp t => E.look t
  | .const c => some (.v c)
  | .global g => some (.v (.pointer (some ⟨g, 0, none⟩)))
  | .func f => some (.v (.func (.func f) #[] #[]))
theorem look_here (E : Env) (t : Nat) (d : D) : Env.look ((t, d) :: E) t = some d := by simp [Env.look]
theorem look_past (E : Env) {s t : Nat} (d : D) (h : s ≠ t) : Env.look ((s, d) :: E) t = E.look t := by
  have h0 : Nat.beq s t = false := by
    cases hb : Nat.beq s t with
    | false => rfl
    | true => exact absurd (Nat.eq_of_beq_eq_true hb) h
  simp [Env.look, h0]

/-- Where code stands: in a round of a range over a function (which one's), and what its frame has deferred. -/
structure Cx where
  rd : Option Nat
  df : List Deferred
def Cx.top : Cx := ⟨none, []⟩
/-- No fence at all, in a round or not. -/
def FR (r : Option Nat) : Fence := { Fence.wide with round := r }
theorem callsIn_FR {r : Option Nat} {m : Nat} {P : Program} {f : FuncId} {args : Array Value} {w : World} {R : Ending → World → Prop} : CallsIn (FR r) m P f args w R ↔ Calls P f args w R := callsIn_wide (n := m)
theorem not_defer {P : Program} {o : Oper} {ρ : Operand → Value} {w w' : World} {v : Value} (h : (execOp ρ o).run P w = .ok (.value v) w') : ∀ c, o.op ≠ .defer c := fun c hc => by
  simp [execOp, hc] at h
  cases hr : Sem.run P (resolve ρ c o.type) w with
  | ok d w' => rw [hr] at h; cases h
  | halt x w' => rw [hr] at h; cases h
/-- An operation's walk, in a round too. -/
theorem opR {r : Option Nat} {P : Program} {o : Oper} {a : Act} {w : World} {K : Act → World → Prop} {Q : Exit → Act → World → Prop} (hnd : ∀ c, o.op ≠ .defer c) (h : o.wp P a w K Q) : o.wpIn (FR r) 0 P a w K Q := by
  refine ⟨fun _ _ => trivial, ?_⟩
  rw [Oper.semAt_eq _ _ _ hnd]
  unfold Oper.wp at h
  generalize (execOp a.eval o).run P w = res at h ⊢
  cases res with
  | ok x w' =>
    cases x with
    | value v => exact h
    | skip => exact h
    | defer d => exact h
    | enter f args => exact ⟨(fun e => absurd e (by simp [FR, Fence.wide])), callsIn_FR.2 h⟩
    | row row args => exact ⟨(fun e => absurd e (by simp [FR, Fence.wide])), fun c cs _ => by
      obtain ⟨v, w', r, s⟩ := h c cs
      exact ⟨v, w', r, stepsIn_wide.2 s⟩⟩
    | _ => exact h.elim
  | halt x w' =>
    cases x with
    | panic v => exact h
    | _ => exact h.elim
variable {κ : Cx}
/-- The frame has n slots, what is deferred is known, the slots are as the environment says, and the heap has at least B blocks (B: how many there were when the function was called). -/
structure St (κ : Cx) (n B : Nat) (E : Env) (a : Act) (w : World) : Prop where
  base : B ≤ w.heap.size
  defers : a.defers = κ.df
  size : a.tmps.size = n
  of : ∀ t d, E.look t = some d → d.Of w (a.tmps.getD t undef)
theorem St.grow {n B : Nat} {E : Env} {a : Act} {w w' : World} (h : St κ n B E a w) (g : Grow w w') : St κ n B E a w' :=
  ⟨Nat.le_trans h.base g.size, h.defers, h.size, fun t d hd => (h.of t d hd).grow g⟩
theorem St.at_ {n B : Nat} {E : Env} {a : Act} {w : World} (h : St κ n B E a w) (x : Operand) (d : D) (hd : E.at x = some d) : d.Of w (a.eval x) := by
  cases x with
  | tmp t => exact h.of t d hd
  | const c => simp only [Env.at, Option.some.injEq] at hd; subst hd; rfl
  | global g => simp only [Env.at, Option.some.injEq] at hd; subst hd; rfl
  | func f => simp only [Env.at, Option.some.injEq] at hd; subst hd; rfl
theorem getD_put_here (a : Act) {t : Nat} (x : Value) (h : t < a.tmps.size) : (a.put (some t) x).tmps.getD t undef = x := by
  simp [Act.put, h]
theorem getD_put_past (a : Act) {s t : Nat} (x : Value) (h : s ≠ t) : (a.put (some s) x).tmps.getD t undef = a.tmps.getD t undef := by
  simp [Act.put, Array.getElem?_setIfInBounds_ne h]
theorem St.put {n B : Nat} {E : Env} {a : Act} {w : World} (h : St κ n B E a w) {t : Nat} {d : D} {x : Value} (ht : t < n) (hx : d.Of w x) : St κ n B ((t, d) :: E) (a.put (some t) x) w := by
  refine ⟨h.base, h.defers, by simp [Act.put, h.size], fun s e he => ?_⟩
  by_cases hs : t = s
  · subst hs
    rw [look_here] at he
    injection he with he
    subst he
    rw [getD_put_here _ _ (by rw [h.size]; exact ht)]
    exact hx
  · rw [look_past _ _ hs] at he
    rw [getD_put_past _ _ hs]
    exact h.of s e he
/-- The smaller environment says no more than the greater. -/
def Sub (E' E : Env) : Prop := ∀ p ∈ E', E.look p.1 = some p.2
theorem Sub.nil {E : Env} : Sub [] E := fun _ h => by cases h
theorem Sub.cons {E' E : Env} {t : Nat} {d : D} (h : E.look t = some d) (hs : Sub E' E) : Sub ((t, d) :: E') E := fun p hp => by
  rcases List.mem_cons.1 hp with rfl | hp
  · exact h
  · exact hs p hp
theorem look_mem {E : Env} {t : Nat} {d : D} (h : E.look t = some d) : (t, d) ∈ E := by
  induction E with
  | nil => cases h
  | cons p r ih =>
    obtain ⟨s, e⟩ := p
    by_cases hs : s = t
    · subst hs; rw [look_here] at h; injection h with h; subst h; exact List.mem_cons_self
    · rw [look_past _ _ hs] at h; exact List.mem_cons_of_mem _ (ih h)
theorem St.sub {n B : Nat} {E E' : Env} {a : Act} {w : World} (h : St κ n B E a w) (hs : Sub E' E) : St κ n B E' a w :=
  ⟨h.base, h.defers, h.size, fun t d hd => h.of t d (hs (t, d) (look_mem hd))⟩

/-! ### One operation -/
def Out (P : Program) (o : Oper) (ρ : Operand → Value) (w : World) (K : Value → World → Prop) : Prop :=
  match (execOp ρ o).run P w with
  | .ok (.value x) w' => K x w'
  | .ok (.enter f args) w' => Calls P f args w' fun e w'' => ∃ x, e = .returned x ∧ K x w''
  | _ => False
/-- Numbers from here on are no slots': under them stand facts on memory alone. -/
def vbase : Nat := 1000000
def OpOk (P : Program) (B : Nat) (o : Oper) (E : Env) (d : D) : Prop :=
  ∀ (ρ : Operand → Value) (w : World), B ≤ w.heap.size → (∀ t e, vbase ≤ t → E.look t = some e → e.Of w undef) → (∀ x, x ∈ o.op.operands → ∀ e, E.at x = some e → e.Of w (ρ x)) → Out P o ρ w fun x w' => Grow w w' ∧ d.Of w' x
def GuardIs (ops : Array Oper) (E : Env) (o : Oper) (b : Bool) : Prop :=
  match o.guard with
  | none => b = true
  | some (j, want) => ∃ t, ((ops[j]?).bind (·.dst)) = some t ∧ ((∃ c, E.look t = some (.v (.bool c)) ∧ b = (c == want)) ∨ (E.look t = some (.v undef) ∧ b = false))
def Good (P : Program) (B : Nat) (ops : Array Oper) (o : Oper) (E : Env) (d : D) : Prop :=
  (GuardIs ops E o true ∧ OpOk P B o E d) ∨ (GuardIs ops E o false ∧ d = .v undef)

/-- The region gone through in the order of the text. -/
inductive Run (P : Program) (B : Nat) (ops : Array Oper) : List Oper → Env → Env → Prop
  | nil {E : Env} : Run P B ops [] E E
  | cons {o : Oper} {rest : List Oper} {E E' : Env} {t : Nat} {d : D} (ht : o.dst = some t) (hg : Good P B ops o E d) (hr : Run P B ops rest ((t, d) :: E) E') : Run P B ops (o :: rest) E E'
theorem Run.step {P : Program} {B : Nat} {ops : Array Oper} {o : Oper} {rest : List Oper} {E E' : Env} {t : Nat} {d : D} (ht : o.dst = some t) (hg : o.guard = none) (h : OpOk P B o E d) (hr : Run P B ops rest ((t, d) :: E) E') : Run P B ops (o :: rest) E E' :=
  .cons ht (.inl ⟨by simp [GuardIs, hg], h⟩) hr
theorem Run.guarded {P : Program} {B : Nat} {ops : Array Oper} {o : Oper} {rest : List Oper} {E E' : Env} {t : Nat} {d : D} {j : Nat} {want : Bool} {s : Nat} (ht : o.dst = some t) (hg : o.guard = some (j, want)) (hj : ((ops[j]?).bind (·.dst)) = some s)
    (hE : E.look s = some (.v (.bool want))) (h : OpOk P B o E d) (hr : Run P B ops rest ((t, d) :: E) E') : Run P B ops (o :: rest) E E' :=
  .cons ht (.inl ⟨by simp only [GuardIs, hg]; exact ⟨s, hj, .inl ⟨want, hE, by cases want <;> rfl⟩⟩, h⟩) hr
theorem Run.skipped {P : Program} {B : Nat} {ops : Array Oper} {o : Oper} {rest : List Oper} {E E' : Env} {t : Nat} {j : Nat} {want c : Bool} {s : Nat} (ht : o.dst = some t) (hg : o.guard = some (j, want)) (hj : ((ops[j]?).bind (·.dst)) = some s)
    (hE : E.look s = some (.v (.bool c))) (hc : (c == want) = false) (hr : Run P B ops rest ((t, .v undef) :: E) E') : Run P B ops (o :: rest) E E' :=
  .cons ht (.inr ⟨by simp only [GuardIs, hg]; exact ⟨s, hj, .inl ⟨c, hE, hc.symm⟩⟩, rfl⟩) hr
/-- An operation whose guard was itself not carried out. -/
theorem Run.skippedU {P : Program} {B : Nat} {ops : Array Oper} {o : Oper} {rest : List Oper} {E E' : Env} {t : Nat} {j : Nat} {want : Bool} {s : Nat} (ht : o.dst = some t) (hg : o.guard = some (j, want)) (hj : ((ops[j]?).bind (·.dst)) = some s)
    (hE : E.look s = some (.v undef)) (hr : Run P B ops rest ((t, .v undef) :: E) E') : Run P B ops (o :: rest) E E' :=
  .cons ht (.inr ⟨by simp only [GuardIs, hg]; exact ⟨s, hj, .inr ⟨hE, trivial⟩⟩, rfl⟩) hr

section
variable {P : Program} {B : Nat} {ops : Array Oper} {Q : Exit → Act → World → Prop}

theorem wpListR_step {o : Oper} {rest : List Oper} {a : Act} {w : World} (h : ∀ K : Act → World → Prop, (∀ a w, wpListIn (FR κ.rd) 0 P ops Q rest a w → K a w) → if Region.wanted o (yielded ops a.tmps) = true then o.wpIn (FR κ.rd) 0 P a w K Q else K (a.put o.dst undef) w) : wpListIn (FR κ.rd) 0 P ops Q (o :: rest) a w := by
  refine wpListIn_step fun K hK => ?_
  have := h K hK
  split
  · rename_i hw; rwa [if_pos hw] at this
  · rename_i hw; rw [if_neg hw] at this; exact ⟨fun _ _ => trivial, this⟩
theorem wpOpR_step {i : Nat} {o : Oper} {K : Act → World → Prop} {a : Act} {w : World} (ho : ops[i]? = some o) (h : ∀ K' : Act → World → Prop, (∀ a w, K a w → K' a w) → if Region.wanted o (yielded ops a.tmps) = true then o.wpIn (FR κ.rd) 0 P a w K' Q else K' (a.put o.dst undef) w) : wpOpIn (FR κ.rd) 0 P ops Q i K a w := by
  have := h K (fun _ _ h => h)
  unfold wpOpIn
  rw [ho]
  show if Region.wanted o (yielded ops a.tmps) = true then _ else _
  split
  · rename_i hw; rwa [if_pos hw] at this
  · rename_i hw; rw [if_neg hw] at this; exact ⟨fun _ _ => trivial, this⟩

theorem wp_of_out {o : Oper} {a : Act} {w : World} {K : Act → World → Prop} {t : Nat} (ht : o.dst = some t) (h : Out P o a.eval w fun x w' => K (a.put (some t) x) w') : o.wpIn (FR κ.rd) 0 P a w K Q := by
  unfold Out at h
  refine opR (fun c hc => ?_) ?_
  · simp [execOp, hc] at h
    cases hr : Sem.run P (resolve a.eval c o.type) w with
    | ok d w' => rw [hr] at h; exact h.elim
    | halt x w' => rw [hr] at h; exact h.elim
  unfold Oper.wp
  split at h
  · rename_i hr; rw [hr, Oper.upon_value, ht]; exact h
  · rename_i hr
    rw [hr, Oper.upon_enter]
    refine Calls.mono h ?_
    rintro e w' ⟨x, rfl, hk⟩
    rw [ht]; exact hk
  · exact h.elim
theorem Out.mono {o : Oper} {ρ : Operand → Value} {w : World} {K K' : Value → World → Prop} (h : Out P o ρ w K) (hk : ∀ x w', K x w' → K' x w') : Out P o ρ w K' := by
  unfold Out at *
  split at h
  · exact hk _ _ h
  · exact Calls.mono h fun e w' ⟨x, he, hx⟩ => ⟨x, he, hk _ _ hx⟩
  · exact h.elim
theorem wanted_of {E : Env} {o : Oper} {a : Act} {b : Bool} (hg : GuardIs ops E o b) (hl : ∀ t d, t ∈ o.looksAt ops → E.look t = some d → ∀ w, d.Of w (a.tmps.getD t undef) ∨ ∃ F k u, d = .p F k u) (hsz : ∀ t, t ∈ o.looksAt ops → t < a.tmps.size) :
    Region.wanted o (yielded ops a.tmps) = b := by
  unfold GuardIs at hg
  unfold Region.wanted
  cases hgd : o.guard with
  | none => rw [hgd] at hg; simp only at hg; subst hg; rfl
  | some gw =>
    obtain ⟨j, want⟩ := gw
    rw [hgd] at hg
    obtain ⟨t, hj, hE⟩ := hg
    have hin : t ∈ o.looksAt ops := by simp [Oper.looksAt, hgd, hj]
    have hsz' := hsz t hin
    rcases hE with ⟨c, hE, rfl⟩ | ⟨hE, rfl⟩
    · have h1 := (hl t _ hin hE default).resolve_right (by rintro ⟨F, k, u, h⟩; cases h)
      have h2 : a.tmps[t]? = some (.bool c) := by
        have h3 : a.tmps.getD t undef = .bool c := h1
        simp [hsz'] at h3
        simp [hsz', h3]
      simp only [yielded, hj, Option.bind_some, h2]
      cases c <;> cases want <;> rfl
    · have h1 := (hl t _ hin hE default).resolve_right (by rintro ⟨F, k, u, h⟩; cases h)
      have h2 : a.tmps[t]? = some undef := by
        have h3 : a.tmps.getD t undef = undef := h1
        simp [hsz'] at h3
        simp [hsz', h3]
      simp only [yielded, hj, Option.bind_some, h2]
      cases want <;> rfl

/-- The slots that an operation looks at are in the frame. -/
def fits (n : Nat) (ops : Array Oper) : Bool := decide (n ≤ vbase) && ops.all fun o => (o.looksAt ops).all (fun t => decide (t < n)) && (match o.dst with | some t => decide (t < n) | none => true)

theorem good_wp {E : Env} {o : Oper} {a : Act} {w : World} {K : Act → World → Prop} {t : Nat} {d : D} (hB : B ≤ w.heap.size) (hvirt : ∀ t e, vbase ≤ t → E.look t = some e → e.Of w undef) (ht : o.dst = some t) (hg : Good P B ops o E d)
    (hl : ∀ s e, s ∈ o.looksAt ops → E.look s = some e → e.Of w (a.tmps.getD s undef)) (hsz : ∀ s, s ∈ o.looksAt ops → s < a.tmps.size)
    (hK : ∀ x w', Grow w w' → d.Of w' x → K (a.put (some t) x) w') :
    if Region.wanted o (yielded ops a.tmps) = true then o.wpIn (FR κ.rd) 0 P a w K Q else K (a.put o.dst undef) w := by
  have hl' : ∀ s e, s ∈ o.looksAt ops → E.look s = some e → ∀ w, e.Of w (a.tmps.getD s undef) ∨ ∃ F k u, e = .p F k u := fun s e hs he w' => by
    cases e with
    | v y => exact .inl (hl s _ hs he)
    | p F k u => exact .inr ⟨F, k, u, rfl⟩
  rcases hg with ⟨hg, hok⟩ | ⟨hg, rfl⟩
  · rw [wanted_of hg hl' hsz, if_pos rfl]
    refine wp_of_out ht ((hok a.eval w hB hvirt fun x hx e he => ?_).mono fun x w' h => hK x w' h.1 h.2)
    cases x with
    | tmp s => exact hl s e (List.mem_append_left _ (List.mem_filterMap.2 ⟨.tmp s, by simpa using hx, rfl⟩)) he
    | const c => simp only [Env.at, Option.some.injEq] at he; subst he; rfl
    | global g => simp only [Env.at, Option.some.injEq] at he; subst he; rfl
    | func f => simp only [Env.at, Option.some.injEq] at he; subst he; rfl
  · rw [wanted_of hg hl' hsz, if_neg (by simp), ht]
    exact hK undef w (Grow.refl w) rfl

/-- What the operations of the text before number i have left in the environment. -/
inductive Trace (P : Program) (B : Nat) (ops : Array Oper) : List Oper → Env → List D → Env → Prop
  | nil {E : Env} : Trace P B ops [] E [] E
  | cons {o : Oper} {rest : List Oper} {E E' : Env} {t : Nat} {d : D} {ds : List D} (ht : o.dst = some t) (hg : Good P B ops o E d) (hr : Trace P B ops rest ((t, d) :: E) ds E') : Trace P B ops (o :: rest) E (d :: ds) E'
theorem Run.trace {rest : List Oper} {E E' : Env} (h : Run P B ops rest E E') : ∃ ds, Trace P B ops rest E ds E' := by
  induction h with
  | nil => exact ⟨[], .nil⟩
  | cons ht hg _ ih => obtain ⟨ds, h⟩ := ih; exact ⟨_, .cons ht hg h⟩
/-- Number i of the rest: it is good in an environment whose every slot comes from an earlier operation, or is as at the start. -/
theorem Trace.nth {rest : List Oper} {E E' : Env} {ds : List D} (h : Trace P B ops rest E ds E') : ∀ {i : Nat} {o : Oper}, rest[i]? = some o →
    ∃ t d Ei, o.dst = some t ∧ ds[i]? = some d ∧ Good P B ops o Ei d ∧ ∀ s e, Ei.look s = some e →
      (∃ j o', j < i ∧ rest[j]? = some o' ∧ o'.dst = some s ∧ ds[j]? = some e) ∨ ((∀ j o', j < i → rest[j]? = some o' → o'.dst ≠ some s) ∧ E.look s = some e) := by
  induction h with
  | nil => intro i o hi; simp at hi
  | @cons o0 rest E E' t0 d0 ds ht hg hr ih =>
    intro i o hi
    cases i with
    | zero =>
      simp at hi; subst hi
      exact ⟨t0, d0, E, ht, rfl, hg, fun s e he => .inr ⟨fun j _ hj => by omega, he⟩⟩
    | succ i =>
      obtain ⟨t, d, Ei, h1, h2, h3, h4⟩ := ih (i := i) (by simpa using hi)
      refine ⟨t, d, Ei, h1, by simpa using h2, h3, fun s e he => ?_⟩
      rcases h4 s e he with ⟨j, o', hj, ho', hd, hds⟩ | ⟨hno, hl⟩
      · exact .inl ⟨j + 1, o', by omega, by simpa using ho', hd, by simpa using hds⟩
      · by_cases hs : t0 = s
        · subst hs
          rw [look_here] at hl
          exact .inl ⟨0, o0, by omega, rfl, ht, by simpa using hl⟩
        · rw [look_past _ _ hs] at hl
          refine .inr ⟨fun j o' hj ho' => ?_, hl⟩
          cases j with
          | zero => simp at ho'; subst ho'; rw [ht]; intro h; injection h with h; exact hs h
          | succ j => exact hno j o' (by omega) (by simpa using ho')
theorem Trace.last {rest : List Oper} {E E' : Env} {ds : List D} (h : Trace P B ops rest E ds E') : ∀ s e, E'.look s = some e →
      (∃ (j : Nat) (o' : Oper), rest[j]? = some o' ∧ o'.dst = some s ∧ ds[j]? = some e) ∨ ((∀ (j : Nat) (o' : Oper), rest[j]? = some o' → o'.dst ≠ some s) ∧ E.look s = some e) := by
  induction h with
  | nil => intro s e he; exact .inr ⟨fun j _ hj => by simp at hj, he⟩
  | @cons o0 rest E E' t0 d0 ds ht hg hr ih =>
    intro s e he
    rcases ih s e he with ⟨j, o', ho', hd, hds⟩ | ⟨hno, hl⟩
    · exact .inl ⟨j + 1, o', by simpa using ho', hd, by simpa using hds⟩
    · by_cases hs : t0 = s
      · subst hs
        rw [look_here] at hl
        exact .inl ⟨0, o0, rfl, ht, by simpa using hl⟩
      · rw [look_past _ _ hs] at hl
        refine .inr ⟨fun j o' ho' => ?_, hl⟩
        cases j with
        | zero => simp at ho'; subst ho'; rw [ht]; intro h; injection h with h; exact hs h
        | succ j => exact hno j o' (by simpa using ho')

/-- Whoever looks at a slot of the region, or writes it, is ordered against whoever writes it; edges go to what stands earlier in the text. -/
def tied (ops : Array Oper) : Bool :=
  (List.range ops.size).all fun i => match ops[i]? with
    | none => false
    | some o => o.after.all (fun e => !Region.binds .any e || decide (e.on < i)) &&
      (List.range ops.size).all fun j => match ops[j]? with
        | none => false
        | some p => match p.dst with
          | none => true
          | some t => j == i || ((o.dst != some t) && (!(o.looksAt ops).contains t ||
              (if j < i then o.after.any (fun e => Region.binds .any e && e.on == j) else p.after.any (fun e => Region.binds .any e && e.on == i))))
theorem tied_edge (h : tied ops = true) {i : Nat} {o : Oper} (hi : ops[i]? = some o) {e : Edge} (he : e ∈ o.after) (hb : Region.binds .any e = true) : e.on < i := by
  have hlt : i < ops.size := (Array.getElem?_eq_some_iff.1 hi).1
  have h1 := List.all_eq_true.1 h i (List.mem_range.2 hlt)
  simp only [hi, Bool.and_eq_true] at h1
  have h2 := Array.all_eq_true_iff_forall_mem.1 h1.1 e he
  simpa [hb] using h2
theorem tied_pair (h : tied ops = true) {i j : Nat} {o p : Oper} (hi : ops[i]? = some o) (hj : ops[j]? = some p) {t : Nat} (ht : p.dst = some t) (hne : j ≠ i) :
    o.dst ≠ some t ∧ (t ∈ o.looksAt ops → (j < i → ∃ e ∈ o.after, Region.binds .any e = true ∧ e.on = j) ∧ (i < j → ∃ e ∈ p.after, Region.binds .any e = true ∧ e.on = i)) := by
  have hlt : i < ops.size := (Array.getElem?_eq_some_iff.1 hi).1
  have hlt' : j < ops.size := (Array.getElem?_eq_some_iff.1 hj).1
  have h1 := List.all_eq_true.1 h i (List.mem_range.2 hlt)
  simp only [hi, Bool.and_eq_true] at h1
  have h2 := List.all_eq_true.1 h1.2 j (List.mem_range.2 hlt')
  simp only [hj, ht, Bool.or_eq_true, beq_iff_eq, hne, false_or, Bool.and_eq_true, bne_iff_ne, ne_eq] at h2
  refine ⟨h2.1, fun hin => ?_⟩
  have h3 := h2.2.resolve_left (by simp [hin])
  constructor
  · intro hji
    rw [if_pos hji] at h3
    obtain ⟨e, he, hb⟩ := Array.any_eq_true'.1 h3
    simp only [Bool.and_eq_true, beq_iff_eq] at hb
    exact ⟨e, he, hb.1, hb.2⟩
  · intro hij
    rw [if_neg (by omega)] at h3
    obtain ⟨e, he, hb⟩ := Array.any_eq_true'.1 h3
    simp only [Bool.and_eq_true, beq_iff_eq] at hb
    exact ⟨e, he, hb.1, hb.2⟩

def unlisted (ops : Array Oper) (listed : Array Bool) : Nat := (List.range ops.size).countP fun i => !listed.getD i true
theorem countP_lt {l : List Nat} {p q : Nat → Bool} (h : ∀ x, q x = true → p x = true) {x : Nat} (hx : x ∈ l) (px : p x = true) (nq : q x = false) : l.countP q < l.countP p := by
  induction l with
  | nil => cases hx
  | cons y l ih =>
    have hle : l.countP q ≤ l.countP p := List.countP_mono_left fun z _ hz => h z hz
    by_cases hy : x = y
    · subst hy
      rw [List.countP_cons_of_pos px, List.countP_cons_of_neg (by simp [nq])]
      omega
    · have := ih (by simpa [hy] using hx)
      rw [List.countP_cons, List.countP_cons]
      by_cases hq : q y = true
      · simp [hq, h y hq]; exact this
      · simp [hq]; split <;> omega

/-- An operation that changes memory below what it finds, from block B on; it leaves a new environment. -/
def Eff (P : Program) (n B : Nat) (ops : Array Oper) (o : Oper) (E E' : Env) : Prop :=
  ∀ (κ : Cx) (a : Act) (w : World) (K : Act → World → Prop) (Q : Exit → Act → World → Prop), St κ n B E a w → (∀ a' w', Below B w w' → St κ n B E' a' w' → K a' w') →
    if Region.wanted o (yielded ops a.tmps) = true then o.wpIn (FR κ.rd) 0 P a w K Q else K (a.put o.dst undef) w

/-- The same, where what it leaves depends on something that is new (a block's number). -/
def EffG (P : Program) (n B : Nat) (ops : Array Oper) (o : Oper) (E : Env) {ι : Type} (G : ι → Prop) (E' : ι → Env) : Prop :=
  ∀ (κ : Cx) (a : Act) (w : World) (K : Act → World → Prop) (Q : Exit → Act → World → Prop), St κ n B E a w → (∀ i a' w', G i → Below B w w' → St κ n B (E' i) a' w' → K a' w') →
    if Region.wanted o (yielded ops a.tmps) = true then o.wpIn (FR κ.rd) 0 P a w K Q else K (a.put o.dst undef) w
theorem Eff.g {n : Nat} {o : Oper} {E E' : Env} (h : Eff P n B ops o E E') : EffG P n B ops o E (fun _ : Unit => True) (fun _ => E') :=
  fun κ a w K Q hs hK => h κ a w K Q hs fun a' w' g h' => hK () a' w' trivial g h'

/-- An effect behind a guard that lets it be carried out. -/
theorem Eff.guarded {n : Nat} {dst : Option Tmp} {op : Op} {ty : TypeId} {pos : String} {after : Array Edge} {E E' : Env} {j : Nat} {want : Bool} {s : Nat} (hj : ((ops[j]?).bind (·.dst)) = some s) (hE : E.look s = some (.v (.bool want)))
    (h : Eff P n B ops ⟨dst, op, ty, pos, after, none⟩ E E') : Eff P n B ops ⟨dst, op, ty, pos, after, some (j, want)⟩ E E' := fun κ a w K Q hs hK => by
  have h0 := h κ a w K Q hs hK
  rw [if_pos (by simp [Region.wanted])] at h0
  have h1 : a.tmps.getD s undef = .bool want := hs.of s _ hE
  have h2 : a.tmps[s]? = some (.bool want) := by
    rw [Array.getD_eq_getD_getElem?] at h1
    cases hx : a.tmps[s]? with
    | none => rw [hx] at h1; cases h1
    | some v => rw [hx] at h1; exact congrArg some h1
  rw [if_pos (by simp only [Region.wanted, yielded, hj, Option.bind_some, h2]; cases want <;> rfl)]
  exact h0

/-- All that the edges put before operation i. -/
def befores (ops : Array Oper) : Array (List Nat) :=
  ops.foldl (init := #[]) fun acc o => acc.push (o.after.toList.flatMap fun e => if Region.binds .any e then e.on :: acc.getD e.on [] else [])
/-- Every other operation of the region comes before number p if it stands before p in the text, else behind it. -/
def barrier (ops : Array Oper) (p : Nat) : Bool :=
  let b := (befores ops).map List.eraseDups
  (List.range ops.size).all fun i => i == p || (if i < p then (b.getD p []).contains i else (b.getD i []).contains p)

/-- The region from number s on, with operations that change memory among its own, and what is to be shown in the environment at its end. -/
inductive RunTK (P : Program) (n B : Nat) (ops : Array Oper) (draw : Bool) (C : Env → Prop) : Nat → Env → Prop
  | last' {s : Nat} {E E' : Env} (hr : Run P B ops (ops.toList.drop s) E E') (hC : C E') : RunTK P n B ops draw C s E
  | effG {s p : Nat} {o : Oper} {E E₁ : Env} {ι : Type} {G : ι → Prop} {E₂ : ι → Env} (hsp : s ≤ p) (ho : ops[p]? = some o) (hb : draw = false ∨ barrier ops p = true) (hr : Run P B ops ((ops.toList.drop s).take (p - s)) E E₁)
      (he : EffG P n B ops o E₁ G E₂) (hrest : ∀ i, G i → RunTK P n B ops draw C (p + 1) (E₂ i)) : RunTK P n B ops draw C s E

/-- The region's text, no order drawn. -/
theorem St.virt {n B : Nat} {E : Env} {a : Act} {w : World} (h : St κ n B E a w) (hn : n ≤ vbase) : ∀ t e, vbase ≤ t → E.look t = some e → e.Of w undef := fun t e ht he => by
  have h1 := h.of t e he
  rwa [Array.getD_eq_getD_getElem?, Array.getElem?_eq_none (by rw [h.size]; omega)] at h1
theorem wp_text {n : Nat} (hn : n ≤ vbase) : ∀ {seg rest : List Oper} {E E' : Env} {a : Act} {w : World}, Run P B ops seg E E' → St κ n B E a w → (∀ o ∈ seg, (∀ t ∈ o.looksAt ops, t < n) ∧ ∀ t, o.dst = some t → t < n) →
    (∀ a' w', Grow w w' → St κ n B E' a' w' → wpListIn (FR κ.rd) 0 P ops Q rest a' w') → wpListIn (FR κ.rd) 0 P ops Q (seg ++ rest) a w := by
  intro seg rest E E' a w hr
  induction hr generalizing a w with
  | nil => intro h _ hQ; exact hQ a w (Grow.refl w) h
  | @cons o seg E E' t d ht hg hr ih =>
    intro h hf hQ
    refine wpListR_step fun K hK => ?_
    have hfo := hf o (List.mem_cons_self)
    refine good_wp h.base (h.virt hn) ht hg (fun s e _ he => h.of s e he) (fun s hs => by rw [h.size]; exact hfo.1 s hs) fun x w' g hx => hK _ _ ?_
    exact ih ((h.grow g).put (hfo.2 t ht) hx) (fun o' ho' => hf o' (List.mem_cons_of_mem _ ho')) fun a' w'' g' h' => hQ a' w'' (g.trans g') h'
theorem fits_base {n : Nat} (hfits : fits n ops = true) : n ≤ vbase := by
  unfold fits at hfits
  rw [Bool.and_eq_true, decide_eq_true_eq] at hfits
  exact hfits.1
theorem fits_mem {n : Nat} (hfits : fits n ops = true) {o : Oper} (ho : o ∈ ops.toList) : (∀ t ∈ o.looksAt ops, t < n) ∧ ∀ t, o.dst = some t → t < n := by
  unfold fits at hfits
  rw [Bool.and_eq_true] at hfits
  have hf := Array.all_eq_true_iff_forall_mem.1 hfits.2 o (by simpa using ho)
  simp only [Bool.and_eq_true, List.all_eq_true, decide_eq_true_eq] at hf
  refine ⟨hf.1, fun t ht => ?_⟩
  have := hf.2
  rw [ht] at this
  simpa using this
theorem wp_textT {n : Nat} {s : Nat} {C : Env → Prop} {E : Env} {a : Act} {w : World} (hfits : fits n ops = true) (hr : RunTK P n B ops false C s E) : St κ n B E a w → (∀ E' a' w', C E' → Below B w w' → St κ n B E' a' w' → Q .normal a' w') → wpListIn (FR κ.rd) 0 P ops Q (ops.toList.drop s) a w := by
  induction hr generalizing a w with
  | @last' s E E' hr hC =>
    intro h hQ
    have := wp_text (Q := Q) (rest := []) (fits_base hfits) hr h (fun o ho => fits_mem hfits (List.mem_of_mem_drop ho)) fun a' w' g h' => id (hQ E' a' w' hC (Below.mono g h.base) h')
    simpa using this
  | @effG s p o E E₁ ι G E₂ hsp ho hb hr he hrest ih =>
    intro h hQ
    have hsplit : ops.toList.drop s = (ops.toList.drop s).take (p - s) ++ (o :: ops.toList.drop (p + 1)) := by
      have h1 : (ops.toList.drop s).drop (p - s) = o :: ops.toList.drop (p + 1) := by
        rw [List.drop_drop, show s + (p - s) = p from by omega]
        obtain ⟨hlt, hget⟩ := Array.getElem?_eq_some_iff.1 ho
        rw [List.drop_eq_getElem_cons (by simpa using hlt)]
        simp [hget]
      conv => lhs; rw [← List.take_append_drop (p - s) (ops.toList.drop s), h1]
    rw [hsplit]
    refine wp_text (fits_base hfits) hr h (fun o' ho' => fits_mem hfits (List.mem_of_mem_drop (List.mem_of_mem_take ho'))) fun a' w' g h' => wpListR_step fun K hK => he κ a' w' K Q h' fun i a'' w'' hi g' h'' => hK _ _ (ih i hi h'' fun E' a3 w3 hC g3 h3 => hQ E' a3 w3 hC (((Below.mono g h.base).trans g').trans g3) h3)

theorem befores_spec : ∀ (l : List Oper) (acc : Array (List Nat)) (pre : List Oper), acc.size = pre.length → (∀ i j, j ∈ acc.getD i [] → ∃ o e, pre[i]? = some o ∧ e ∈ o.after ∧ Region.binds .any e = true ∧ (e.on = j ∨ j ∈ acc.getD e.on [])) →
    ∀ i j, j ∈ (l.foldl (fun acc o => acc.push (o.after.toList.flatMap fun e => if Region.binds .any e then e.on :: acc.getD e.on [] else [])) acc).getD i [] →
      ∃ o e, (pre ++ l)[i]? = some o ∧ e ∈ o.after ∧ Region.binds .any e = true ∧ (e.on = j ∨ j ∈ (l.foldl (fun acc o => acc.push (o.after.toList.flatMap fun e => if Region.binds .any e then e.on :: acc.getD e.on [] else [])) acc).getD e.on []) := by
  intro l
  induction l with
  | nil => intro acc pre _ h i j hj; simpa using h i j (by simpa using hj)
  | cons o l ih =>
    intro acc pre hs h i j hj
    have := ih (acc.push (o.after.toList.flatMap fun e => if Region.binds .any e then e.on :: acc.getD e.on [] else [])) (pre ++ [o]) (by simp [hs]) (fun i j hj => ?_) i j (by simpa using hj)
    · simpa using this
    · have hget : ∀ k, k < acc.size → (acc.push (o.after.toList.flatMap fun e => if Region.binds .any e then e.on :: acc.getD e.on [] else [])).getD k [] = acc.getD k [] := fun k hk => by
        simp [Array.getElem?_push, hk, Nat.ne_of_lt hk]
      rcases Nat.lt_trichotomy i acc.size with hi | hi | hi
      · rw [hget i hi] at hj
        obtain ⟨o', e, ho', he, hb, hor⟩ := h i j hj
        refine ⟨o', e, by rw [List.getElem?_append_left (by omega)]; exact ho', he, hb, hor.imp id fun hm => ?_⟩
        have hlt : e.on < acc.size := by
          rcases Nat.lt_or_ge e.on acc.size with h | h
          · exact h
          · simp [Array.getElem?_eq_none h] at hm
        rw [hget _ hlt]; exact hm
      · subst hi
        simp only [Array.getD_eq_getD_getElem?, Array.getElem?_push_size, Option.getD_some, List.mem_flatMap] at hj
        obtain ⟨e, he, hm⟩ := hj
        by_cases hb : Region.binds .any e = true
        · rw [if_pos hb] at hm
          refine ⟨o, e, by rw [hs]; simp, by simpa using he, hb, ?_⟩
          rcases List.mem_cons.1 hm with rfl | hm
          · exact .inl rfl
          · refine .inr ?_
            have hlt : e.on < acc.size := by
              rcases Nat.lt_or_ge e.on acc.size with h | h
              · exact h
              · simp [Array.getElem?_eq_none h] at hm
            rw [hget _ hlt]; simpa using hm
        · rw [if_neg hb] at hm; cases hm
      · exfalso
        rw [Array.getD_eq_getD_getElem?, Array.getElem?_eq_none (by simp; omega)] at hj
        simp at hj

theorem befores_step {i j : Nat} (hj : j ∈ (befores ops).getD i []) : ∃ o e, ops[i]? = some o ∧ e ∈ o.after ∧ Region.binds .any e = true ∧ (e.on = j ∨ j ∈ (befores ops).getD e.on []) := by
  have := befores_spec ops.toList #[] [] rfl (fun i j h => by simp at h) i j (by unfold befores at hj; rw [← Array.foldl_toList] at hj; exact hj)
  obtain ⟨o, e, ho, he, hb, h⟩ := this
  refine ⟨o, e, by simpa using ho, he, hb, h.imp id fun h => ?_⟩
  unfold befores
  rw [← Array.foldl_toList]
  exact h

/-- What holds while the operations from number s to p come up in some order: all before s have come up, none behind p. -/
structure Inv (κ : Cx) (n B : Nat) (ops : Array Oper) (s p : Nat) (E : Env) (ds : List D) (a₀ : Act) (w₀ : World) (listed : Array Bool) (a : Act) (w : World) : Prop where
  grow : Grow w₀ w
  base : B ≤ w.heap.size
  lsize : listed.size = ops.size
  low : ∀ i, i < s → i < ops.size → listed.getD i false = true
  high : ∀ i, p ≤ i → listed.getD i false = false
  defers : a.defers = κ.df
  size : a.tmps.size = n
  closed : ∀ i o, ops[i]? = some o → listed.getD i false = true → ∀ e ∈ o.after, Region.binds .any e = true → listed.getD e.on false = true
  facts : ∀ i o t d, s ≤ i → ops[i]? = some o → listed.getD i false = true → o.dst = some t → ds[i - s]? = some d → d.Of w (a.tmps.getD t undef)
  frame : ∀ t, (∀ i o, s ≤ i → ops[i]? = some o → listed.getD i false = true → o.dst ≠ some t) → a.tmps.getD t undef = a₀.tmps.getD t undef

theorem Inv.befores {n : Nat} {s p : Nat} {E : Env} {ds : List D} {a₀ : Act} {w₀ : World} {listed : Array Bool} {a : Act} {w : World} (htied : tied ops = true) (I : Inv κ n B ops s p E ds a₀ w₀ listed a w) : ∀ i j, (∀ o, ops[i]? = some o → ∀ e ∈ o.after, Region.binds .any e = true → listed.getD e.on false = true) → j ∈ (befores ops).getD i [] → listed.getD j false = true := by
  intro i
  induction i using Nat.strongRecOn with
  | _ i ih =>
    intro j hi hj
    obtain ⟨o, e, ho, he, hb, h⟩ := befores_step hj
    have hl := hi o ho e he hb
    rcases h with rfl | h
    · exact hl
    · exact ih e.on (tied_edge htied ho he hb) j (fun o' ho' e' he' hb' => I.closed e.on o' ho' hl e' he' hb') h

theorem wp_seg {n s p : Nat} {E E' : Env} {ds : List D} {a₀ : Act} {w₀ : World} (htied : tied ops = true) (hfits : fits n ops = true) (hsp : s ≤ p) (hpn : p ≤ ops.size) (ht : Trace P B ops ((ops.toList.drop s).take (p - s)) E ds E') (h₀ : St κ n B E a₀ w₀)
    (hbar : p = ops.size ∨ barrier ops p = true)
    (hend : p = ops.size → ∀ a' w', Grow w₀ w' → St κ n B E' a' w' → Q .normal a' w')
    (hnext : p < ops.size → ∀ fuel (listed : Array Bool) a' w', listed.size = ops.size → (∀ i, i < ops.size → listed.getD i false = decide (i < p)) → unlisted ops listed ≤ fuel + 1 → Grow w₀ w' → St κ n B E' a' w' →
      wpOpIn (FR κ.rd) 0 P ops Q p (wpAnyIn (FR κ.rd) 0 P .any ops Q fuel (listed.setIfInBounds p true)) a' w') :
    ∀ (fuel : Nat) (listed : Array Bool) (a : Act) (w : World), unlisted ops listed ≤ fuel → Inv κ n B ops s p E ds a₀ w₀ listed a w → wpAnyIn (FR κ.rd) 0 P .any ops Q fuel listed a w := by
  have hidx : ∀ (i : Nat) (o : Oper), s ≤ i → i < p → ops[i]? = some o → ((ops.toList.drop s).take (p - s))[i - s]? = some o := fun i o h1 h2 h3 => by
    rw [List.getElem?_take, if_pos (by omega), List.getElem?_drop, show s + (i - s) = i from by omega]
    simpa using h3
  have hidx' : ∀ (j : Nat) (o : Oper), ((ops.toList.drop s).take (p - s))[j]? = some o → ops[s + j]? = some o ∧ s + j < p := fun j o h => by
    rw [List.getElem?_take] at h
    split at h
    · rw [List.getElem?_drop] at h
      exact ⟨by simpa using h, by omega⟩
    · cases h
  -- all between s and p have come up: the environment at the end
  have hst : ∀ (listed : Array Bool) (a : Act) (w : World), Inv κ n B ops s p E ds a₀ w₀ listed a w → (∀ i, i < p → i < ops.size → listed.getD i false = true) → St κ n B E' a w := by
    intro listed a w I hall
    refine ⟨I.base, I.defers, I.size, fun t e he => ?_⟩
    rcases ht.last t e he with ⟨j, o, hj, hd, hds⟩ | ⟨hno, hl⟩
    · obtain ⟨hj', hlt⟩ := hidx' j o hj
      exact I.facts (s + j) o t e (by omega) hj' (hall _ hlt (Array.getElem?_eq_some_iff.1 hj').1) hd (by rw [show s + j - s = j from by omega]; exact hds)
    · rw [I.frame t fun i o hsi hi hl' => ?_]
      · exact (h₀.of t e hl).grow I.grow
      · rcases Nat.lt_or_ge i p with hip | hip
        · exact hno (i - s) o (hidx i o hsi hip hi)
        · rw [I.high i hip] at hl'; cases hl'
  have hmin : ∀ (listed : Array Bool) (a : Act) (w : World), Inv κ n B ops s p E ds a₀ w₀ listed a w → Region.ready .any ops listed = [] → ∀ i, i < ops.size → listed.getD i false = true := by
    intro listed a w I hr i
    induction i using Nat.strongRecOn with
    | _ i ih =>
      intro hi
      rcases hb : listed.getD i false with _ | _
      · exfalso
        have : i ∈ Region.ready .any ops listed := by
          rw [mem_ready]
          refine ⟨?_, ops[i], Array.getElem?_eq_getElem hi, fun e he hbd => ih e.on (tied_edge htied (Array.getElem?_eq_getElem hi) he hbd) (Nat.lt_trans (tied_edge htied (Array.getElem?_eq_getElem hi) he hbd) hi)⟩
          have : i < listed.size := by rw [I.lsize]; exact hi
          simp [this] at hb ⊢
          exact hb
        rw [hr] at this
        cases this
      · rfl
  have hends : ∀ (listed : Array Bool) (a : Act) (w : World), Inv κ n B ops s p E ds a₀ w₀ listed a w → Region.ready .any ops listed = [] → Q .normal a w := by
    intro listed a w I hr
    have hall := hmin listed a w I hr
    have hp : p = ops.size := by
      rcases Nat.lt_or_ge p ops.size with h | h
      · have h1 := hall p h
        rw [I.high p (Nat.le_refl _)] at h1
        cases h1
      · omega
    exact hend hp a w I.grow (hst listed a w I fun i _ h => hall i h)
  intro fuel
  induction fuel with
  | zero =>
    intro listed a w hc I
    have hr : Region.ready .any ops listed = [] := by
      rcases hr : Region.ready .any ops listed with _ | ⟨i, l⟩
      · rfl
      · exfalso
        have hi : i ∈ Region.ready .any ops listed := by rw [hr]; exact List.mem_cons_self
        obtain ⟨hu, o, ho, _⟩ := mem_ready.1 hi
        have hpos : 0 < unlisted ops listed := List.countP_pos_iff.2 ⟨i, List.mem_range.2 (Array.getElem?_eq_some_iff.1 ho).1, by simp only [hu]; rfl⟩
        omega
    exact ⟨hr, hends listed a w I hr⟩
  | succ fuel ih =>
    intro listed a w hc I
    refine ⟨hends listed a w I, fun i hi => ?_⟩
    obtain ⟨hu, o, ho, hall⟩ := mem_ready.1 hi
    have hlt : i < ops.size := (Array.getElem?_eq_some_iff.1 ho).1
    have huf : listed.getD i false = false := by
      have : i < listed.size := by rw [I.lsize]; exact hlt
      simp [this] at hu ⊢
      exact hu
    have hsi : s ≤ i := by
      rcases Nat.lt_or_ge i s with h | h
      · rw [I.low i h hlt] at huf; cases huf
      · exact h
    have hready : ∀ o', ops[i]? = some o' → ∀ e ∈ o'.after, Region.binds .any e = true → listed.getD e.on false = true := fun o' ho' e he hb => by
      rw [ho] at ho'; injection ho' with ho'; subst ho'; exact hall e he hb
    rcases Nat.lt_or_ge i p with hip | hip
    case inr =>
      have hp : p < ops.size := by omega
      have hb := hbar.resolve_left (by omega)
      simp only [barrier, List.all_eq_true, List.mem_range, Bool.or_eq_true, beq_iff_eq] at hb
      have hmem : ∀ k l, l ∈ (Array.map List.eraseDups (befores ops)).getD k [] → l ∈ (befores ops).getD k [] := fun k l h => by
        rw [Array.getD_eq_getD_getElem?, Array.getElem?_map] at h
        rw [Array.getD_eq_getD_getElem?]
        cases hk : (befores ops)[k]? with
        | none => rw [hk] at h; simp at h
        | some v => rw [hk] at h; simpa using h
      rcases Nat.lt_or_ge p i with hpi | hpi
      · exfalso
        have h1 := (hb i hlt).resolve_left (by omega)
        rw [if_neg (by omega)] at h1
        have h2 := I.befores htied i p hready (hmem i p (by simpa using h1))
        rw [I.high p (Nat.le_refl _)] at h2
        cases h2
      · obtain rfl : i = p := by omega
        have hlow : ∀ k, k < i → k < ops.size → listed.getD k false = true := fun k hk hk' => by
          have h1 := (hb k hk').resolve_left (by omega)
          rw [if_pos hk] at h1
          exact I.befores htied i k hready (hmem i k (by simpa using h1))
        refine hnext hlt fuel listed a w I.lsize (fun k hk => ?_) hc I.grow (hst listed a w I hlow)
        rcases Nat.lt_or_ge k i with h | h
        · rw [hlow k h hk]; simp [h]
        · rw [I.high k h]; simp; omega
    obtain ⟨t, d, Ei, hdst, hds, hgood, henv⟩ := ht.nth (i := i - s) (o := o) (hidx i o hsi hip ho)
    have hf := fits_mem hfits (o := o) (by simpa using Array.mem_of_getElem? ho)
    refine wpOpR_step ho fun K hK => good_wp I.base (fun t e hvt he => ?_) hdst hgood (fun r e hs he => ?_) (fun r hs => by rw [I.size]; exact hf.1 r hs) fun x w' g hx => hK _ _ (ih _ _ _ ?_ ?_)
    · have hnb := fits_base hfits
      rcases henv t e he with ⟨j, q, hji, hj, hpd, hpds⟩ | ⟨hno, hl⟩
      · obtain ⟨hj', _⟩ := hidx' j q hj
        have h9 : t < n := (fits_mem hfits (o := q) (by simpa using Array.mem_of_getElem? hj')).2 t hpd
        exact absurd (Nat.lt_of_lt_of_le h9 hnb) (Nat.not_lt.2 hvt)
      · have h1 := (h₀.virt hnb) t e hvt hl
        exact h1.grow I.grow
    · rcases henv r e he with ⟨j, q, hji, hj, hpd, hpds⟩ | ⟨hno, hl⟩
      · obtain ⟨hj', hjp⟩ := hidx' j q hj
        obtain ⟨ed, he1, hb, hon⟩ := ((tied_pair htied ho hj' hpd (by omega)).2 hs).1 (by omega)
        refine I.facts (s + j) q r e (by omega) hj' ?_ hpd (by rw [show s + j - s = j from by omega]; exact hpds)
        rw [← hon]
        exact hall ed he1 hb
      · rw [I.frame r]
        · exact (h₀.of r e hl).grow I.grow
        · intro j q hsj hj hlist hpd
          by_cases hji : j = i
          · subst hji; rw [huf] at hlist; cases hlist
          · rcases Nat.lt_or_ge j i with h | h
            · exact hno (j - s) q (by omega) (hidx j q hsj (by omega) hj) hpd
            · obtain ⟨ed, he1, hb, hon⟩ := ((tied_pair htied ho hj hpd hji).2 hs).2 (by omega)
              have := I.closed j q hj hlist ed he1 hb
              rw [hon, huf] at this
              cases this
    · have : unlisted ops (listed.setIfInBounds i true) < unlisted ops listed := by
        refine countP_lt (x := i) (fun y hy => ?_) (List.mem_range.2 hlt) (by simp only [hu]; rfl) ?_
        · by_cases hyi : i = y
          · subst hyi
            have : i < listed.size := by rw [I.lsize]; exact hlt
            simp [this] at hy
          · rw [getD_set_ne true hyi] at hy; exact hy
        · have : i < listed.size := by rw [I.lsize]; exact hlt
          simp [this]
      omega
    · have hset : ∀ j, (listed.setIfInBounds i true).getD j false = true → j = i ∨ listed.getD j false = true := fun j hj => by
        by_cases hji : i = j
        · exact .inl hji.symm
        · rw [getD_set_ne false hji] at hj; exact .inr hj
      refine ⟨I.grow.trans g, Nat.le_trans I.base g.size, by simp [I.lsize], fun j hj hj' => getD_set_true (I.low j hj hj'), fun j hj => ?_, I.defers, by simp [Act.put, I.size], ?_, ?_, ?_⟩
      · rw [getD_set_ne false (by omega)]; exact I.high j hj
      · intro j q hj hl e he hb
        rcases hset j hl with rfl | hl
        · rw [ho] at hj; injection hj with hj; subst hj
          exact getD_set_true (hall e he hb)
        · exact getD_set_true (I.closed j q hj hl e he hb)
      · intro j q r e hsj hj hl hpd hpds
        by_cases hji : j = i
        · subst hji
          rw [ho] at hj; injection hj with hj; subst hj
          rw [hdst] at hpd; injection hpd with hpd; subst hpd
          rw [hds] at hpds; injection hpds with hpds; subst hpds
          rw [getD_put_here _ _ (by rw [I.size]; exact hf.2 _ hdst)]
          exact hx
        · have hl' := (hset j hl).resolve_left hji
          have hne : t ≠ r := fun h => (tied_pair htied ho hj hpd hji).1 (by rw [hdst, h])
          rw [getD_put_past _ _ hne]
          exact (I.facts j q r e hsj hj hl' hpd hpds).grow g
      · intro r hs
        have hne : t ≠ r := fun h => hs i o hsi ho (by have : i < listed.size := by rw [I.lsize]; exact hlt
                                                       simp [this]) (by rw [hdst, h])
        rw [getD_put_past _ _ hne]
        refine I.frame r fun j q hsj hj hl => hs j q hsj hj (getD_set_true hl)

theorem start_inv {n s p : Nat} {E : Env} {ds : List D} {a : Act} {w : World} {listed : Array Bool} (hsp : s ≤ p) (htied : tied ops = true) (hls : listed.size = ops.size) (hl : ∀ i, i < ops.size → listed.getD i false = decide (i < s)) (h : St κ n B E a w) : Inv κ n B ops s p E ds a w listed a w := by
  have hlt : ∀ i, listed.getD i false = true → i < s := fun i hi => by
    rcases Nat.lt_or_ge i ops.size with h | h
    · rw [hl i h] at hi; simpa using hi
    · rw [Array.getD_eq_getD_getElem?, Array.getElem?_eq_none (by omega)] at hi; cases hi
  refine ⟨Grow.refl w, h.base, hls, fun i hi h' => by rw [hl i h']; simp [hi], fun i hi => ?_, h.defers, h.size, ?_, ?_, fun _ _ => rfl⟩
  · rcases hb : listed.getD i false with _ | _
    · rfl
    · have := hlt i hb; omega
  · intro i o ho hi e he hb
    have h1 := hlt i hi
    have h2 := tied_edge htied ho he hb
    have h3 := (Array.getElem?_eq_some_iff.1 ho).1
    rw [hl e.on (by omega)]
    simp; omega
  · intro i o t d hsi ho hi
    have := hlt i hi
    omega

theorem wp_anyT {n s : Nat} {C : Env → Prop} {E : Env} (htied : tied ops = true) (hfits : fits n ops = true) (hr : RunTK P n B ops true C s E) : ∀ (fuel : Nat) (listed : Array Bool) (a : Act) (w : World), s ≤ ops.size → listed.size = ops.size → (∀ i, i < ops.size → listed.getD i false = decide (i < s)) →
    unlisted ops listed ≤ fuel → St κ n B E a w → (∀ E' a' w', C E' → Below B w w' → St κ n B E' a' w' → Q .normal a' w') → wpAnyIn (FR κ.rd) 0 P .any ops Q fuel listed a w := by
  induction hr with
  | @last' s E E' hr hC =>
    intro fuel listed a w hs hls hl hfu h hQ
    obtain ⟨ds, ht⟩ := hr.trace
    have ht' : Trace P B ops ((ops.toList.drop s).take (ops.size - s)) E ds E' := by
      rw [List.take_of_length_le (by simp)]; exact ht
    exact wp_seg htied hfits hs (Nat.le_refl _) ht' h (.inl rfl) (fun _ a' w' g h' => hQ E' a' w' hC (Below.mono g h.base) h') (fun hlt => by omega) fuel listed a w hfu (start_inv hs htied hls hl h)
  | @effG s p o E E₁ ι G E₂ hsp ho hb hr he hrest ih =>
    intro fuel listed a w hs hls hl hfu h hQ
    have hb := hb.resolve_left (by simp)
    have hp : p < ops.size := (Array.getElem?_eq_some_iff.1 ho).1
    obtain ⟨ds, ht⟩ := hr.trace
    refine wp_seg htied hfits hsp (by omega) ht h (.inr hb) (fun hp' => by omega) (fun _ fuel' listed' a' w' hls' hl' hfu' g h' => ?_) fuel listed a w hfu (start_inv hsp htied hls hl h)
    refine wpOpR_step ho fun K hK => he κ a' w' K Q h' fun j a'' w'' hj g' h'' => hK _ _ (ih j hj fuel' _ a'' w'' (by omega) (by simp [hls']) (fun i hi => ?_) ?_ h'' fun E' a3 w3 hC g3 h3 => hQ E' a3 w3 hC (((Below.mono g h.base).trans g').trans g3) h3)
    · by_cases hpi : p = i
      · subst hpi
        have : p < listed'.size := by rw [hls']; exact hi
        simp [this]
      · rw [getD_set_ne false hpi, hl' i hi]
        by_cases h1 : i < p
        · simp [h1]; omega
        · simp [h1]; omega
    · have hpl : p < listed'.size := by rw [hls']; exact hp
      have : unlisted ops (listed'.setIfInBounds p true) < unlisted ops listed' := by
        refine countP_lt (x := p) (fun y hy => ?_) (List.mem_range.2 hp) ?_ ?_
        · by_cases hyi : p = y
          · subst hyi
            simp [hpl] at hy
          · rw [getD_set_ne true hyi] at hy; exact hy
        · have := hl' p hp
          simp [hpl] at this
          simp [hpl, this]
        · simp [hpl]
      omega

/-- **A REGION, IN EVERY ORDER THAT ITS EDGES ALLOW:** gone through once in the order of the text. -/
theorem wp_regT {n id : Nat} {draw : Bool} {C : Env → Prop} {E : Env} {a : Act} {w : World} (hm : P.follows .mixedOrders = true) (hfits : fits n ops = true) (htied : draw = false ∨ tied ops = true) (h : St κ n B E a w) (hr : RunTK P n B ops draw C 0 E)
    (hQ : ∀ E' a' w', C E' → Below B w w' → St κ n B E' a' w' → Q .normal a' w') : (Code.region id ops draw).wpIn (FR κ.rd) 0 P Q a w := by
  cases draw with
  | false => exact wpIn_region_list (by have := wp_textT (Q := Q) hfits hr h hQ; simpa using this)
  | true =>
    have htied := htied.resolve_left (by simp)
    have hd : Below B w w.drew := (Below.refl B w).drew
    refine wpIn_region_any hm (wp_anyT htied hfits hr _ _ _ _ (Nat.zero_le _) (by simp) (fun i hi => by simp [hi]) ?_ (h.grow (Grow.refl w).drew) fun E' a' w' hC g h' => hQ E' a' w' hC (hd.trans g) h')
    refine Nat.le_trans List.countP_le_length ?_
    simp
end
end Go.Proofs.Ytdnblilocdddpaa
