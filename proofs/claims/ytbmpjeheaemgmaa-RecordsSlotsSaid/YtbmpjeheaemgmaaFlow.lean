/-
  OWN WORDS: a drawn region in which rows of one element type change (append to a row of the call's own, whenever it was made) and these changes are no barriers: what is told of other memory survives them; what is told of the rows themselves is told until the next change. Nothing of one program stands here.
-/
import Derived.Test.YtbmpjeheaemgmaaChain
namespace Go.Proofs.Ytbmpjeheaemgmaa
open Go Go.RowKit
variable {κ : Cx}
theorem Wrote.new {B T : Nat} {w w' : World} (hB : B ≤ w.heap.size) (g : Grow w w') : Wrote B T w.heap.size w w' :=
  ⟨hB, g.os, g.tape, g.output, g.size, fun o h => (by rw [Array.getElem?_eq_none (Nat.le_refl _)] at h; cases h), fun k hk _ => g.block k hk⟩
/-- It survives a change of any row of the type from the base on. -/
def StayT (B T : Nat) (d : D) : Prop := ∀ g, B ≤ g → Surv B T g d
theorem StayT.v {B T : Nat} (x : Value) : StayT B T (.v x) := fun _ _ => Surv.v _
theorem StayT.old {B T B' : Nat} {d : D} (h : B' ≤ B) : StayT B T (old B' d) := fun _ hg => Surv.old (Nat.le_trans h hg)
theorem StayT.blk {B T b : Nat} {e : TypeId} {xs : List Value} (h : e ≠ T) : StayT B T (blk b e xs) := fun _ _ => Surv.blkT h
theorem StayT.own {B T base n : Nat} {e : TypeId} {xs : List Value} (h : e ≠ T) : StayT B T (own base e n xs) := fun _ _ => Surv.own h
/-- Changes of such rows, one after another. -/
inductive FlowT (B T : Nat) : World → World → Prop
  | refl {w : World} : FlowT B T w w
  | step {w w' w'' : World} {g : Nat} (h : FlowT B T w w') (k : Wrote B T g w' w'') : FlowT B T w w''
theorem FlowT.keep {B T : Nat} {w w' : World} (h : FlowT B T w w') {d : D} {x : Value} (hd : StayT B T d) (hx : d.Of w x) : d.Of w' x := by
  induction h with
  | refl => exact hx
  | step _ k ih => exact hd _ k.base _ _ _ k ih
theorem FlowT.under {B T : Nat} {w w' : World} (h : FlowT B T w w') (hB : B ≤ w.heap.size) : Below B w w' := by
  induction h with
  | refl => exact Below.refl _ _
  | step _ k ih => exact ih.trans (k.below (Nat.le_trans hB ih.size))
def RelZ (eff : Bool) (B : Nat) (T : TypeId) (w w' : World) : Prop := if eff then ∃ g, Wrote B T g w w' else Grow w w'
theorem RelZ.wrote {eff : Bool} {B : Nat} {T : TypeId} {w w' : World} (h : RelZ eff B T w w') (hB : B ≤ w.heap.size) : ∃ g, Wrote B T g w w' := by
  cases eff with
  | true => exact h
  | false => exact ⟨_, Wrote.new hB h⟩
def OpOkZ (eff : Bool) (P : Program) (B : Nat) (T : TypeId) (o : Oper) (E : Env) (d : D) : Prop :=
  ∀ (ρ : Operand → Value) (w : World), B ≤ w.heap.size → (∀ t e, vbase ≤ t → E.look t = some e → e.Of w undef) → (∀ x, x ∈ o.op.operands → ∀ e, E.at x = some e → e.Of w (ρ x)) → Out P o ρ w fun x w' => RelZ eff B T w w' ∧ d.Of w' x
def GoodZ (eff : Bool) (P : Program) (B : Nat) (T : TypeId) (ops : Array Oper) (o : Oper) (E : Env) (d : D) : Prop :=
  (GuardIs ops E o true ∧ OpOkZ eff P B T o E d) ∨ (GuardIs ops E o false ∧ d = .v undef)
section
variable {P : Program} {B : Nat} {T : TypeId} {ops : Array Oper} {Q : Exit → Act → World → Prop}
theorem good_wpZ {eff : Bool} {E : Env} {o : Oper} {a : Act} {w : World} {K : Act → World → Prop} {t : Nat} {d : D} (hB : B ≤ w.heap.size) (hvirt : ∀ t e, vbase ≤ t → E.look t = some e → e.Of w undef) (ht : o.dst = some t) (hg : GoodZ eff P B T ops o E d)
    (hl : ∀ s e, s ∈ o.looksAt ops → E.look s = some e → e.Of w (a.tmps.getD s undef)) (hsz : ∀ s, s ∈ o.looksAt ops → s < a.tmps.size)
    (hK : ∀ x w', RelZ eff B T w w' → d.Of w' x → K (a.put (some t) x) w') :
    if Region.wanted o (yielded ops a.tmps) = true then o.wpIn (FR κ.rd) 0 P a w K Q else K (a.put o.dst undef) w := by
  have hl' : ∀ s e, s ∈ o.looksAt ops → E.look s = some e → ∀ w, e.Of w (a.tmps.getD s undef) ∨ ∃ F k u, e = .p F k u := fun s e hs he w' => by
    cases e with
    | v y => exact .inl (hl s _ hs he)
    | p F k u => exact .inr ⟨F, k, u, rfl⟩
  rcases hg with ⟨hg, hok⟩ | ⟨hg, rfl⟩
  · rw [wanted_of hg hl' hsz, if_pos rfl]
    refine wp_of_out ht ((hok a.eval w hB hvirt fun x hx e he => ?_).mono fun x w' h => hK x w' h.1 h.2)
    cases x with
    | tmp s => exact hl s e (List.mem_append_left _ (List.mem_filterMap.2 ⟨.tmp s, by simpa using hx, rfl⟩)) he
    | const c => simp only [Env.at, Option.some.injEq] at he; subst he; rfl
    | global g => simp only [Env.at, Option.some.injEq] at he; subst he; rfl
    | func f => simp only [Env.at, Option.some.injEq] at he; subst he; rfl
  · rw [wanted_of hg hl' hsz, if_neg (by simp), ht]
    refine hK undef w ?_ rfl
    cases eff with
    | true => exact ⟨w.heap.size, Wrote.new hB (Grow.refl w)⟩
    | false => exact Grow.refl w
inductive TraceZ (P : Program) (B : Nat) (T : TypeId) (ops : Array Oper) : List Oper → Env → List Mk → List D → Env → Prop
  | nil {E : Env} : TraceZ P B T ops [] E [] [] E
  | cons {o : Oper} {rest : List Oper} {E E' : Env} {t : Nat} {d : D} {ds : List D} {m : Mk} {ms : List Mk} (ht : o.dst = some t) (hg : GoodZ m.eff P B T ops o E d) (hs : m.stab = true → StayT B T d) (hr : TraceZ P B T ops rest ((t, d) :: E) ms ds E') : TraceZ P B T ops (o :: rest) E (m :: ms) (d :: ds) E'
theorem TraceZ.nth {rest : List Oper} {E E' : Env} {ms : List Mk} {ds : List D} (h : TraceZ P B T ops rest E ms ds E') : ∀ {i : Nat} {o : Oper}, rest[i]? = some o →
    ∃ t d Ei m, o.dst = some t ∧ ds[i]? = some d ∧ ms[i]? = some m ∧ GoodZ m.eff P B T ops o Ei d ∧ (m.stab = true → StayT B T d) ∧ ∀ s e, Ei.look s = some e →
      (∃ j o', j < i ∧ rest[j]? = some o' ∧ o'.dst = some s ∧ ds[j]? = some e) ∨ ((∀ j o', j < i → rest[j]? = some o' → o'.dst ≠ some s) ∧ E.look s = some e) := by
  induction h with
  | nil => intro i o hi; simp at hi
  | @cons o0 rest E E' t0 d0 ds m0 ms ht hg hs hr ih =>
    intro i o hi
    cases i with
    | zero =>
      simp at hi; subst hi
      exact ⟨t0, d0, E, m0, ht, rfl, rfl, hg, hs, fun s e he => .inr ⟨fun j _ hj => by omega, he⟩⟩
    | succ i =>
      obtain ⟨t, d, Ei, m, h1, h2, h2', h3, h3', h4⟩ := ih (i := i) (by simpa using hi)
      refine ⟨t, d, Ei, m, h1, by simpa using h2, by simpa using h2', h3, h3', fun s e he => ?_⟩
      rcases h4 s e he with ⟨j, o', hj, ho', hd, hds⟩ | ⟨hno, hl⟩
      · exact .inl ⟨j + 1, o', by omega, by simpa using ho', hd, by simpa using hds⟩
      · by_cases hs : t0 = s
        · subst hs
          rw [look_here] at hl
          exact .inl ⟨0, o0, by omega, rfl, ht, by simpa using hl⟩
        · rw [look_past _ _ hs] at hl
          refine .inr ⟨fun j o' hj ho' => ?_, hl⟩
          cases j with
          | zero => simp at ho'; subst ho'; rw [ht]; intro h; injection h with h; exact hs h
          | succ j => exact hno j o' (by omega) (by simpa using ho')
theorem TraceZ.last {rest : List Oper} {E E' : Env} {ms : List Mk} {ds : List D} (h : TraceZ P B T ops rest E ms ds E') : ∀ s e, E'.look s = some e →
      (∃ (j : Nat) (o' : Oper), rest[j]? = some o' ∧ o'.dst = some s ∧ ds[j]? = some e) ∨ ((∀ (j : Nat) (o' : Oper), rest[j]? = some o' → o'.dst ≠ some s) ∧ E.look s = some e) := by
  induction h with
  | nil => intro s e he; exact .inr ⟨fun j _ hj => by simp at hj, he⟩
  | @cons o0 rest E E' t0 d0 ds m0 ms ht hg hs hr ih =>
    intro s e he
    rcases ih s e he with ⟨j, o', ho', hd, hds⟩ | ⟨hno, hl⟩
    · exact .inl ⟨j + 1, o', by simpa using ho', hd, by simpa using hds⟩
    · by_cases hs : t0 = s
      · subst hs
        rw [look_here] at hl
        exact .inl ⟨0, o0, rfl, ht, by simpa using hl⟩
      · rw [look_past _ _ hs] at hl
        refine .inr ⟨fun j o' ho' => ?_, hl⟩
        cases j with
        | zero => simp at ho'; subst ho'; rw [ht]; intro h; injection h with h; exact hs h
        | succ j => exact hno j o' (by simpa using ho')
/-- What is told of a slot before the region, and dies with number k: every other change stands behind k, whoever looks at the slot before it. -/
def dieOk (ops : Array Oper) (ms : List Mk) (ks : List (Nat × Nat)) : Bool :=
  let b := (befores ops).map List.eraseDups
  ks.all fun p => (List.range ops.size).all fun i => match ops[i]?, ms[i]? with
    | some o, some m => (!m.eff || i == p.2 || (b.getD i []).contains p.2) && (!(o.looksAt ops).contains p.1 || i == p.2 || (b.getD p.2 []).contains i)
    | _, _ => false
theorem dieOk_get {ms : List Mk} {ks : List (Nat × Nat)} (h : dieOk ops ms ks = true) {r k i : Nat} (hk : (r, k) ∈ ks) {o : Oper} {m : Mk} (hi : ops[i]? = some o) (hm : ms[i]? = some m) :
    (m.eff = true → i = k ∨ k ∈ (befores ops).getD i []) ∧ (r ∈ o.looksAt ops → i = k ∨ i ∈ (befores ops).getD k []) := by
  have hmem : ∀ k l, l ∈ (Array.map List.eraseDups (befores ops)).getD k [] → l ∈ (befores ops).getD k [] := fun k l h => by
    rw [Array.getD_eq_getD_getElem?, Array.getElem?_map] at h
    rw [Array.getD_eq_getD_getElem?]
    cases hk : (befores ops)[k]? with
    | none => rw [hk] at h; simp at h
    | some v => rw [hk] at h; simpa using h
  have hli : i < ops.size := (Array.getElem?_eq_some_iff.1 hi).1
  have h1 := List.all_eq_true.1 (List.all_eq_true.1 h _ hk) i (List.mem_range.2 hli)
  simp only [hi, hm, Bool.and_eq_true, Bool.or_eq_true, Bool.not_eq_true', beq_iff_eq, List.contains_eq_mem, decide_eq_true_eq, decide_eq_false_iff_not] at h1
  refine ⟨fun he => ?_, fun hl => ?_⟩
  · rcases h1.1 with (h | h) | h
    · rw [he] at h; cases h
    · exact .inl h
    · exact .inr (hmem _ _ h)
  · rcases h1.2 with (h | h) | h
    · exact absurd hl h
    · exact .inl h
    · exact .inr (hmem _ _ h)
structure InvZ (κ : Cx) (n B : Nat) (T : TypeId) (ops : Array Oper) (ms : List Mk) (ks : List (Nat × Nat)) (E : Env) (ds : List D) (a₀ : Act) (w₀ : World) (listed : Array Bool) (a : Act) (w : World) : Prop where
  flow : FlowT B T w₀ w
  base0 : B ≤ w₀.heap.size
  base : B ≤ w.heap.size
  lsize : listed.size = ops.size
  defers : a.defers = κ.df
  size : a.tmps.size = n
  closed : ∀ i o, ops[i]? = some o → listed.getD i false = true → ∀ e ∈ o.after, Region.binds .any e = true → listed.getD e.on false = true
  facts : ∀ i o t d m, ops[i]? = some o → listed.getD i false = true → o.dst = some t → ds[i]? = some d → ms[i]? = some m → (∀ k, m.kill = some k → listed.getD k false = false) → d.Of w (a.tmps.getD t undef)
  frame : ∀ t, (∀ i o, ops[i]? = some o → listed.getD i false = true → o.dst ≠ some t) → a.tmps.getD t undef = a₀.tmps.getD t undef
  dying : ∀ r k e, (r, k) ∈ ks → listed.getD k false = false → E.look r = some e → e.Of w (a₀.tmps.getD r undef)
theorem wp_Z {n : Nat} {ms : List Mk} {ks : List (Nat × Nat)} {E E' E'' : Env} {ds : List D} {a₀ : Act} {w₀ : World} (htied : tied ops = true) (hfits : fits n ops = true) (hch : chainOk ops ms = true) (hdie : dieOk ops ms ks = true) (ht : TraceZ P B T ops ops.toList E ms ds E') (h₀ : St κ n B E a₀ w₀) (hE : ∀ p ∈ E, StayT B T p.2 ∨ (p.1 < vbase ∧ ∃ k, (p.1, k) ∈ ks))
    (hs'' : Sub E'' E') (hd'' : ∀ p ∈ E'', p.1 ∉ deadX ops ms) (hk'' : ∀ p ∈ E'', StayT B T p.2 ∨ (∃ o ∈ ops, o.dst = some p.1)) (hend : ∀ a' w', Below B w₀ w' → St κ n B E'' a' w' → Q .normal a' w') :
    ∀ (fuel : Nat) (listed : Array Bool) (a : Act) (w : World), unlisted ops listed ≤ fuel → InvZ κ n B T ops ms ks E ds a₀ w₀ listed a w → wpAnyIn (FR κ.rd) 0 P .any ops Q fuel listed a w := by
  have hini : ∀ t e x w, FlowT B T w₀ w → E.look t = some e → StayT B T e → e.Of w₀ x → e.Of w x := fun t e x w g hl hs h => g.keep hs h
  have hmin : ∀ (listed : Array Bool) (a : Act) (w : World), InvZ κ n B T ops ms ks E ds a₀ w₀ listed a w → Region.ready .any ops listed = [] → ∀ i, i < ops.size → listed.getD i false = true := by
    intro listed a w I hr i
    induction i using Nat.strongRecOn with
    | _ i ih =>
      intro hi
      rcases hb : listed.getD i false with _ | _
      · exfalso
        have : i ∈ Region.ready .any ops listed := by
          rw [mem_ready]
          refine ⟨?_, ops[i], Array.getElem?_eq_getElem hi, fun e he hbd => ih e.on (tied_edge htied (Array.getElem?_eq_getElem hi) he hbd) (Nat.lt_trans (tied_edge htied (Array.getElem?_eq_getElem hi) he hbd) hi)⟩
          have : i < listed.size := by rw [I.lsize]; exact hi
          simp [this] at hb ⊢
          exact hb
        rw [hr] at this
        cases this
      · rfl
  have hends : ∀ (listed : Array Bool) (a : Act) (w : World), InvZ κ n B T ops ms ks E ds a₀ w₀ listed a w → Region.ready .any ops listed = [] → Q .normal a w := by
    intro listed a w I hr
    have hall := hmin listed a w I hr
    refine hend a w (I.flow.under I.base0) ⟨I.base, I.defers, I.size, fun t e he => ?_⟩
    have hmem := look_mem he
    rcases ht.last t e (hs'' _ hmem) with ⟨j, o, hj, hd, hds⟩ | ⟨hno, hl⟩
    · have hj' : ops[j]? = some o := by simpa using hj
      have hlt := (Array.getElem?_eq_some_iff.1 hj').1
      obtain ⟨_, _, _, m, _, _, hm, _⟩ := ht.nth (i := j) (o := o) hj
      refine I.facts j o t e m hj' (hall j hlt) hd hds hm fun k hk => ?_
      exfalso
      refine hd'' _ hmem (List.mem_filterMap.2 ⟨j, List.mem_range.2 hlt, ?_⟩)
      simp only [hj', hm, hk, Option.isSome_some, if_true, hd]
    · rw [I.frame t fun i o hi _ => hno i o (by simpa using hi)]
      rcases hk'' _ hmem with h | ⟨o, ho, hod⟩
      · exact hini t e _ _ I.flow hl h (h₀.of t e hl)
      · obtain ⟨j, hj⟩ := List.mem_iff_getElem?.1 (Array.mem_toList_iff.2 ho)
        exact absurd hod (hno j o (by simpa using hj))
  intro fuel
  induction fuel with
  | zero =>
    intro listed a w hc I
    have hr : Region.ready .any ops listed = [] := by
      rcases hr : Region.ready .any ops listed with _ | ⟨i, l⟩
      · rfl
      · exfalso
        have hi : i ∈ Region.ready .any ops listed := by rw [hr]; exact List.mem_cons_self
        obtain ⟨hu, o, ho, _⟩ := mem_ready.1 hi
        have hpos : 0 < unlisted ops listed := List.countP_pos_iff.2 ⟨i, List.mem_range.2 (Array.getElem?_eq_some_iff.1 ho).1, by simp only [hu]; rfl⟩
        omega
    exact ⟨hr, hends listed a w I hr⟩
  | succ fuel ih =>
    intro listed a w hc I
    refine ⟨hends listed a w I, fun i hi => ?_⟩
    obtain ⟨hu, o, ho, hall⟩ := mem_ready.1 hi
    have hlt : i < ops.size := (Array.getElem?_eq_some_iff.1 ho).1
    have hil : i < listed.size := by rw [I.lsize]; exact hlt
    have huf : listed.getD i false = false := by
      simp [hil] at hu ⊢
      exact hu
    have hready : ∀ o', ops[i]? = some o' → ∀ e ∈ o'.after, Region.binds .any e = true → listed.getD e.on false = true := fun o' ho' e he hb => by
      rw [ho] at ho'; injection ho' with ho'; subst ho'; exact hall e he hb
    obtain ⟨t, d, Ei, m, hdst, hds, hm, hgood, hstab, henv⟩ := ht.nth (i := i) (o := o) (by simpa using ho)
    have hf := fits_mem hfits (o := o) (by simpa using Array.mem_of_getElem? ho)
    have hnb := fits_base hfits
    have hbc : ∀ j, j ∈ (befores ops).getD i [] → listed.getD j false = true := fun j => befores_closed htied I.closed i j hready
    have hbl : ∀ j, listed.getD j false = true → i ∈ (befores ops).getD j [] → False := fun j hj hm => by
      have := befores_closed htied I.closed j i (fun o' ho' e' he' hb' => I.closed j o' ho' hj e' he' hb') hm
      rw [huf] at this; cases this
    refine wpOpR_step ho fun K hK => good_wpZ I.base (fun t e hvt he => ?_) hdst hgood (fun r e hs he => ?_) (fun r hs => by rw [I.size]; exact hf.1 r hs) fun x w' g hx => hK _ _ (ih _ _ _ ?_ ?_)
    · rcases henv t e he with ⟨j, q, hji, hj, hpd, hpds⟩ | ⟨hno, hl⟩
      · have h9 : t < n := (fits_mem hfits (o := q) (List.mem_of_getElem? hj)).2 t hpd
        exact absurd (Nat.lt_of_lt_of_le h9 hnb) (Nat.not_lt.2 hvt)
      · rcases hE _ (look_mem hl) with h | ⟨h, _⟩
        · exact hini t e _ _ I.flow hl h ((h₀.virt hnb) t e hvt hl)
        · exact absurd hvt (Nat.not_le.2 h)
    · rcases henv r e he with ⟨j, q, hji, hj, hpd, hpds⟩ | ⟨hno, hl⟩
      · have hj' : ops[j]? = some q := by simpa using hj
        obtain ⟨_, _, _, mj, _, _, hmj, _⟩ := ht.nth (i := j) (o := q) hj
        obtain ⟨ed, he1, hb, hon⟩ := ((tied_pair htied ho hj' hpd (by omega)).2 hs).1 (by omega)
        refine I.facts j q r e mj hj' ?_ hpd hpds hmj fun k hk => ?_
        · rw [← hon]
          exact hall ed he1 hb
        · rcases (chainOk_get hch ho hm hj' hmj).2 r hpd hji hs k hk with rfl | h
          · exact huf
          · rcases hb : listed.getD k false with _ | _
            · rfl
            · exact (hbl k hb h).elim
      · rw [I.frame r]
        · rcases hE _ (look_mem hl) with h | ⟨_, k, hk⟩
          · exact hini r e _ _ I.flow hl h (h₀.of r e hl)
          · refine I.dying r k e hk ?_ hl
            rcases (dieOk_get hdie hk ho hm).2 hs with rfl | h
            · exact huf
            · rcases hb : listed.getD k false with _ | _
              · rfl
              · exact (hbl k hb h).elim
        · intro j q hj hlist hpd
          by_cases hji : j = i
          · subst hji; rw [huf] at hlist; cases hlist
          · rcases Nat.lt_or_ge j i with h | h
            · exact hno j q h (by simpa using hj) hpd
            · obtain ⟨ed, he1, hb, hon⟩ := ((tied_pair htied ho hj hpd hji).2 hs).2 (by omega)
              have := I.closed j q hj hlist ed he1 hb
              rw [hon, huf] at this
              cases this
    · have : unlisted ops (listed.setIfInBounds i true) < unlisted ops listed := by
        refine countP_lt (x := i) (fun y hy => ?_) (List.mem_range.2 hlt) (by simp only [hu]; rfl) ?_
        · by_cases hyi : i = y
          · subst hyi
            simp [hil] at hy
          · rw [getD_set_ne true hyi] at hy; exact hy
        · simp [hil]
      omega
    · have hset : ∀ j, (listed.setIfInBounds i true).getD j false = true → j = i ∨ listed.getD j false = true := fun j hj => by
        by_cases hji : i = j
        · exact .inl hji.symm
        · rw [getD_set_ne false hji] at hj; exact .inr hj
      obtain ⟨gb, hgw⟩ := g.wrote I.base
      refine ⟨I.flow.step hgw, I.base0, Nat.le_trans I.base hgw.size, by simp [I.lsize], I.defers, by simp [Act.put, I.size], ?_, ?_, ?_, ?_⟩
      · intro j q hj hl e he hb
        rcases hset j hl with rfl | hl
        · rw [ho] at hj; injection hj with hj; subst hj
          exact getD_set_true (hall e he hb)
        · exact getD_set_true (I.closed j q hj hl e he hb)
      · intro j q r e mj hj hl hpd hpds hmj hal
        by_cases hji : j = i
        · subst hji
          rw [ho] at hj; injection hj with hj; subst hj
          rw [hdst] at hpd; injection hpd with hpd; subst hpd
          rw [hds] at hpds; injection hpds with hpds; subst hpds
          rw [getD_put_here _ _ (by rw [I.size]; exact hf.2 _ hdst)]
          exact hx
        · have hl' := (hset j hl).resolve_left hji
          have hne : t ≠ r := fun h => (tied_pair htied ho hj hpd hji).1 (by rw [hdst, h])
          rw [getD_put_past _ _ hne]
          have halive : ∀ k, mj.kill = some k → listed.getD k false = false := fun k hk => by
            have h1 := hal k hk
            by_cases hki : i = k
            · subst hki; simp [hil] at h1
            · rwa [getD_set_ne false hki] at h1
          have hold := I.facts j q r e mj hj hl' hpd hpds hmj halive
          obtain ⟨_, _, _, mj', _, hds', hmj', _, hstj, _⟩ := ht.nth (i := j) (o := q) (by simpa using hj)
          rw [hmj] at hmj'; injection hmj' with hmj'; subst hmj'
          rw [hpds] at hds'; injection hds' with hds'; subst hds'
          rcases (chainOk_get hch ho hm hj hmj).1 with h | h | h | h | h | ⟨k, hk, h⟩
          · exact absurd h hji
          · rw [h] at g
            exact hold.grow (show Grow w w' from g)
          · exact hstj h gb hgw.base w w' _ hgw hold
          · have h1 := hal i h
            simp [hil] at h1
          · exact (hbl j hl' h).elim
          · have h1 := halive k hk
            rw [hbc k h] at h1; cases h1
      · intro r hs
        have hne : t ≠ r := fun h => hs i o ho (by simp [hil]) (by rw [hdst, h])
        rw [getD_put_past _ _ hne]
        refine I.frame r fun j q hj hl => hs j q hj (getD_set_true hl)
      · intro r k e hk hl he
        have hki : i ≠ k := fun h => by subst h; simp [hil] at hl
        have hl' : listed.getD k false = false := by rwa [getD_set_ne false hki] at hl
        have hold := I.dying r k e hk hl' he
        cases hme : m.eff with
        | false => rw [hme] at g; exact hold.grow (show Grow w w' from g)
        | true =>
          rcases (dieOk_get hdie hk ho hm).1 hme with h | h
          · exact absurd h hki
          · have := hbc k h; rw [hl'] at this; cases this

/-- The region gone through in the order of the text. -/
def RunZ (P : Program) (B : Nat) (T : TypeId) (ops : Array Oper) (rest : List Oper) (E : Env) (ms : List Mk) (C : Env → Prop) : Prop := ∃ ds E', TraceZ P B T ops rest E ms ds E' ∧ C E'
variable {E : Env} {C : Env → Prop} {o : Oper} {rest : List Oper} {t : Nat} {d : D} {ms : List Mk}
theorem RunZ.nil (h : C E) : RunZ P B T ops [] E [] C := ⟨[], E, .nil, h⟩
theorem OpOk.z (h : OpOk P B o E d) : OpOkZ false P B T o E d := fun ρ w hB hv hρ => (h ρ w hB hv hρ).mono fun _ _ hx => ⟨hx.1, hx.2⟩
theorem RunZ.step {st : Bool} {kl : Option Nat} (ht : o.dst = some t) (hg : o.guard = none) (h : OpOk P B o E d) (hs : st = true → StayT B T d) (hr : RunZ P B T ops rest ((t, d) :: E) ms C) : RunZ P B T ops (o :: rest) E (⟨false, st, kl⟩ :: ms) C := by
  obtain ⟨ds, E', h1, h2⟩ := hr
  exact ⟨_, E', .cons ht (.inl ⟨by simp [GuardIs, hg], h.x⟩) hs h1, h2⟩
theorem RunZ.eff {st : Bool} {kl : Option Nat} (ht : o.dst = some t) (hg : o.guard = none) (h : OpOkZ true P B T o E d) (hs : st = true → StayT B T d) (hr : RunZ P B T ops rest ((t, d) :: E) ms C) : RunZ P B T ops (o :: rest) E (⟨true, st, kl⟩ :: ms) C := by
  obtain ⟨ds, E', h1, h2⟩ := hr
  exact ⟨_, E', .cons ht (.inl ⟨by simp [GuardIs, hg], h⟩) hs h1, h2⟩
theorem RunZ.as (x : Value) {y : Value} (h : y = x) (hr : RunZ P B T ops rest ((t, .v x) :: E) ms C) : RunZ P B T ops rest ((t, .v y) :: E) ms C := h ▸ hr

def StayL (B T : Nat) (ks : List (Nat × Nat)) (E : Env) : Prop := ∀ p ∈ E, StayT B T p.2 ∨ (p.1 < vbase ∧ ∃ k, (p.1, k) ∈ ks)
theorem StayL.nil {ks : List (Nat × Nat)} : StayL B T ks [] := fun _ h => by cases h
theorem StayL.cons {ks : List (Nat × Nat)} {k : Nat} {d : D} {E : Env} (h : StayT B T d) (hr : StayL B T ks E) : StayL B T ks ((k, d) :: E) := fun p hp => by
  rcases List.mem_cons.1 hp with rfl | hp
  · exact .inl h
  · exact hr p hp
theorem StayL.dies {ks : List (Nat × Nat)} {k : Nat} {d : D} {E : Env} (i : Nat) (hv : Nat.blt k vbase = true) (h : ks.contains (k, i) = true) (hr : StayL B T ks E) : StayL B T ks ((k, d) :: E) := fun p hp => by
  rcases List.mem_cons.1 hp with rfl | hp
  · exact .inr ⟨by simpa [Nat.blt_eq] using hv, i, by simpa using h⟩
  · exact hr p hp
/-- What stands behind the region: it survives, or the region has made it. -/
def MadeL (B T : Nat) (ops : Array Oper) (E : Env) : Prop := ∀ p ∈ E, StayT B T p.2 ∨ (∃ o ∈ ops, o.dst = some p.1)
theorem MadeL.nil : MadeL B T ops [] := fun _ h => by cases h
theorem MadeL.stays {k : Nat} {d : D} {E : Env} (h : StayT B T d) (hr : MadeL B T ops E) : MadeL B T ops ((k, d) :: E) := fun p hp => by
  rcases List.mem_cons.1 hp with rfl | hp
  · exact .inl h
  · exact hr p hp
theorem MadeL.made {k : Nat} {d : D} {E : Env} (i : Nat) (h : ((ops[i]?).bind (·.dst)) = some k) (hr : MadeL B T ops E) : MadeL B T ops ((k, d) :: E) := fun p hp => by
  rcases List.mem_cons.1 hp with rfl | hp
  · right
    cases ho : ops[i]? with
    | none => rw [ho] at h; cases h
    | some o => rw [ho] at h; exact ⟨o, Array.mem_of_getElem? ho, h⟩
  · exact hr p hp
theorem RunZ.end_ {E'' : Env} {C : Env → Prop} {dead : List Nat} (hs : Sub E'' E) (hd : (E''.map (·.1)).all (fun k => !dead.contains k) = true) (hk : MadeL B T ops E'') (h : C E'') : RunZ P B T ops [] E [] (fun E' => ∃ E'', Sub E'' E' ∧ (∀ p ∈ E'', p.1 ∉ dead) ∧ MadeL B T ops E'' ∧ C E'') :=
  RunZ.nil ⟨E'', hs, fun p hp hm => by
    have := List.all_eq_true.1 hd p.1 (List.mem_map_of_mem hp)
    simp [hm] at this, hk, h⟩
/-- Such a region, at the function's own base. -/
theorem A.regsZ {w₀ : World} {n : Nat} {y : Code} {E E' : Env} {id : Nat} (T : TypeId) (ms : List Mk) (ks : List (Nat × Nat)) (hE : Sub E' E) (hm : P.follows .mixedOrders = true) (hf : fits n ops = true) (ht : tied ops = true) (hc : chainOk ops ms = true) (hdie : dieOk ops ms ks = true)
    (hs : StayL w₀.heap.size T ks E')
    (hr : RunZ P w₀.heap.size T ops ops.toList E' ms (fun E₁ => ∃ E'', Sub E'' E₁ ∧ (∀ p ∈ E'', p.1 ∉ deadX ops ms) ∧ MadeL w₀.heap.size T ops E'' ∧ A κ P w₀ n y E'' Q)) : A κ P w₀ n (.seq (.region id ops true) y) E Q := A.seq fun a w g hst => by
  have hst' : St κ n w₀.heap.size E' a w := hst.sub hE
  have hdr : Below w₀.heap.size w w.drew := (Below.refl _ w).drew
  have hst0 : St κ n w₀.heap.size E' a w.drew := hst'.grow (Grow.refl w).drew
  obtain ⟨ds, E₁, htr, E'', hsub, hdead, hmade, hA⟩ := hr
  refine wpIn_region_any hm (wp_Z ht hf hc hdie htr hst0 hs hsub hdead hmade (fun a' w' g' h' => hA a' w' (g.trans (hdr.trans g')) h') _ _ _ _ ?_ ⟨.refl, hst0.base, hst0.base, by simp, hst.defers, hst.size, fun i o hi hl => ?_, fun i o t d m hi hl => ?_, fun _ _ => rfl, fun r k e _ _ he => hst0.of r e he⟩)
  · refine Nat.le_trans List.countP_le_length ?_
    simp
  · have hli := (Array.getElem?_eq_some_iff.1 hi).1
    simp [hli] at hl
  · have hli := (Array.getElem?_eq_some_iff.1 hi).1
    simp [hli] at hl
end
section
variable {P : Program} {B : Nat} {E : Env} {dst : Option Tmp} {ty : TypeId} {pos : String} {after : Array Edge} {guard : Option (Nat × Bool)}
/-- append to a row of the region's own. -/
theorem okz_append {t e : TypeId} {z : Value} {nb : Nat} {r x : Operand} {k : Nat} {xs : List Value} {f : D} {vs : List Value} (ht : P.underlying t = some (.slice e)) (hinfo : InfoIs P e z nb) (hnb : nb ≤ 64) (hz1 : z.cells.size = 1)
    (hr : E.at r = some (own B e k xs)) (hx : E.at x = some f) (hf : Le f (lst (vs.map .v))) (h1 : ∀ u ∈ vs, u.oneCell' = true) (hk : k + vs.length ≤ 1099511627776) :
    OpOkZ true P B e ⟨dst, .call { callee := .builtin .append, args := #[r, x], argTypes := #[t, t] }, ty, pos, after, guard⟩ E (own B e (k + vs.length) (xs ++ vs)) := fun ρ w hB _ hρ => by
  obtain ⟨i, hi, hz, hs, hby⟩ := hinfo.get
  obtain ⟨hown, hob⟩ := hρ r (by simp [Op.operands, Call.operands]) _ hr
  obtain ⟨c, A, us, hxe, hle, hcm, hul, hrow, hus⟩ := hf.of (hρ x (by simp [Op.operands, Call.operands]) _ hx)
  have huv : us = vs := by
    apply List.ext_getElem?
    intro j
    simp only [List.length_map] at hul
    rcases Nat.lt_or_ge j vs.length with hj | hj
    · have hu : us[j]? = some us[j] := List.getElem?_eq_getElem (by omega)
      have h2 : us[j] = vs[j] := hus j (.v vs[j]) us[j] (by simp [hj]) hu
      rw [hu, h2, List.getElem?_eq_getElem hj]
    · rw [List.getElem?_eq_none (by omega), List.getElem?_eq_none hj]
  subst huv
  simp only [List.length_map] at hxe hle hul
  have hrun : ∃ v' w', (Builtin.append_ #[t, t] ty #[ρ r, .slice A us.length c]).run P w = .ok v' w' ∧ w'.ownsRow B e 1 v' (k + us.length) (xs ++ us) ∧ w.grownBy w' (ρ r).ownBlock ∧
      (v'.ownBlock = (ρ r).ownBlock ∨ v'.ownBlock = some w.heap.size) := by
    have hbb : (k + us.length) * i.bytes ≤ (k + us.length) * 64 := Nat.mul_le_mul_left _ (by omega)
    have hnil : us = [] → ∀ c', (Builtin.append_ #[t, t] ty #[ρ r, .slice none 0 c']).run P w = .ok (ρ r) w := by
      intro _ c'
      rcases hown.2 with ⟨hv, hn0⟩ | ⟨g, cap, cur, hv, _, _, hnc, _⟩
      · rw [hv]; simp [Builtin.append_, run_underlying ht, sizeOf, typeInfo, hi, Builtin.lenOf, Builtin.firstCells]
      · rw [hv]; simp [Builtin.append_, run_underlying ht, sizeOf, typeInfo, hi, Builtin.lenOf, Builtin.firstCells, hnc, storeCells]
    cases A with
    | none =>
      have hz : us = [] := by
        cases us with
        | nil => rfl
        | cons b l => obtain ⟨ad, h, _⟩ := hrow 0 b rfl; cases h
      subst hz
      exact ⟨ρ r, w, hnil rfl c, by simpa using hown, World.grownBy.refl w _, .inl rfl⟩
    | some ad =>
      obtain ⟨v', w', h2, h3, h4, _, h6⟩ := run_append_own_at (P := P) w B t ty e i z 1 i.bytes ht hi hz hs rfl hz1 (by omega) (ρ r) k xs hown ad us.length c us (by simp) hrow.cell h1 (by simp only [maxLen]; omega) (by omega) hB
      exact ⟨v', w', h2, h3, h4, h6⟩
  obtain ⟨v', w', hrun, h3, h4, h5⟩ := hrun
  have hwr : ∃ g, Wrote B e g w w' := by
    rcases hown.2 with ⟨hv, _⟩ | ⟨g', cap, cur, hv, hb, hh, _⟩
    · refine ⟨w.heap.size, hB, h4.os, h4.tape, h4.output, h4.size, fun o hx => ?_, fun k hk _ => h4.block k hk (by rw [hv]; simp [Value.ownBlock])⟩
      rw [Array.getElem?_eq_none (Nat.le_refl _)] at hx; cases hx
    · refine ⟨g', hb, h4.os, h4.tape, h4.output, h4.size, fun o hx => ?_, fun k hk hne => h4.block k hk (by rw [hv]; simp [Value.ownBlock]; omega)⟩
      rw [hh] at hx; injection hx with hx; exact ⟨_, _, hx.symm⟩
  have hlt : ∀ g, v'.ownBlock = some g → g < w'.heap.size := fun g hg => by
    rcases h3.2 with ⟨hv, _⟩ | ⟨g', cap, cur, hv, _, hh, _⟩
    · rw [hv] at hg; simp [Value.ownBlock] at hg
    · rw [hv] at hg; simp [Value.ownBlock] at hg; subst hg
      rcases Nat.lt_or_ge g' w'.heap.size with h | h
      · exact h
      · rw [Array.getElem?_eq_none h] at hh; cases hh
  exact out_val (x := v') (w' := w') (by simp [execOp, resolve, invoke, builtin, hxe, hrun]) ⟨hwr, h3, hlt⟩
end
end Go.Proofs.Ytbmpjeheaemgmaa
