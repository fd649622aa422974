/-
  OWN WORDS: a drawn region with operations that change memory of the region's own (append to a row that it made) and are no barriers: they are ordered among themselves, all other operations tell of memory below the region's base, or stand behind them. Nothing of one program stands here.
-/
import Derived.Test.YtdnblilocdddpaaVar
namespace Go.Proofs.Ytdnblilocdddpaa
open Go Go.RowKit
variable {κ : Cx}

def RelX (eff : Bool) (B : Nat) (w w' : World) : Prop := if eff then Below B w w' else Grow w w'
theorem RelX.below {eff : Bool} {B : Nat} {w w' : World} (h : RelX eff B w w') (hB : B ≤ w.heap.size) : Below B w w' := by
  cases eff with
  | true => exact h
  | false => exact Below.mono (show Grow w w' from h) hB
def OpOkX (eff : Bool) (P : Program) (B : Nat) (o : Oper) (E : Env) (d : D) : Prop :=
  ∀ (ρ : Operand → Value) (w : World), B ≤ w.heap.size → (∀ t e, vbase ≤ t → E.look t = some e → e.Of w undef) → (∀ x, x ∈ o.op.operands → ∀ e, E.at x = some e → e.Of w (ρ x)) → Out P o ρ w fun x w' => RelX eff B w w' ∧ d.Of w' x
def GoodX (eff : Bool) (P : Program) (B : Nat) (ops : Array Oper) (o : Oper) (E : Env) (d : D) : Prop :=
  (GuardIs ops E o true ∧ OpOkX eff P B o E d) ∨ (GuardIs ops E o false ∧ d = .v undef)
/-- Of an operation: does it change memory, does what is told of its value stay true whatever happens above the base, and which operation makes it untrue. -/
structure Mk where
  eff : Bool
  stab : Bool
  kill : Option Nat
section
variable {P : Program} {B : Nat} {ops : Array Oper} {Q : Exit → Act → World → Prop}
theorem good_wpX {eff : Bool} {E : Env} {o : Oper} {a : Act} {w : World} {K : Act → World → Prop} {t : Nat} {d : D} (hB : B ≤ w.heap.size) (hvirt : ∀ t e, vbase ≤ t → E.look t = some e → e.Of w undef) (ht : o.dst = some t) (hg : GoodX eff P B ops o E d)
    (hl : ∀ s e, s ∈ o.looksAt ops → E.look s = some e → e.Of w (a.tmps.getD s undef)) (hsz : ∀ s, s ∈ o.looksAt ops → s < a.tmps.size)
    (hK : ∀ x w', RelX eff B w w' → d.Of w' x → K (a.put (some t) x) w') :
    if Region.wanted o (yielded ops a.tmps) = true then o.wpIn (FR κ.rd) 0 P a w K Q else K (a.put o.dst undef) w := by
  have hl' : ∀ s e, s ∈ o.looksAt ops → E.look s = some e → ∀ w, e.Of w (a.tmps.getD s undef) ∨ ∃ F k u, e = .p F k u := fun s e hs he w' => by
    cases e with
    | v y => exact .inl (hl s _ hs he)
    | p F k u => exact .inr ⟨F, k, u, rfl⟩
  rcases hg with ⟨hg, hok⟩ | ⟨hg, rfl⟩
  · rw [wanted_of hg hl' hsz, if_pos rfl]
    refine wp_of_out ht ((hok a.eval w hB hvirt fun x hx e he => ?_).mono fun x w' h => hK x w' h.1 h.2)
    cases x with
    | tmp s => exact hl s e (List.mem_append_left _ (List.mem_filterMap.2 ⟨.tmp s, by simpa using hx, rfl⟩)) he
    | const c => simp only [Env.at, Option.some.injEq] at he; subst he; rfl
    | global g => simp only [Env.at, Option.some.injEq] at he; subst he; rfl
    | func f => simp only [Env.at, Option.some.injEq] at he; subst he; rfl
  · rw [wanted_of hg hl' hsz, if_neg (by simp), ht]
    refine hK undef w ?_ rfl
    cases eff with
    | true => exact Below.refl _ _
    | false => exact Grow.refl w
inductive TraceX (P : Program) (B : Nat) (ops : Array Oper) : List Oper → Env → List Mk → List D → Env → Prop
  | nil {E : Env} : TraceX P B ops [] E [] [] E
  | cons {o : Oper} {rest : List Oper} {E E' : Env} {t : Nat} {d : D} {ds : List D} {m : Mk} {ms : List Mk} (ht : o.dst = some t) (hg : GoodX m.eff P B ops o E d) (hs : m.stab = true → Stays B d) (hr : TraceX P B ops rest ((t, d) :: E) ms ds E') : TraceX P B ops (o :: rest) E (m :: ms) (d :: ds) E'
theorem TraceX.nth {rest : List Oper} {E E' : Env} {ms : List Mk} {ds : List D} (h : TraceX P B ops rest E ms ds E') : ∀ {i : Nat} {o : Oper}, rest[i]? = some o →
    ∃ t d Ei m, o.dst = some t ∧ ds[i]? = some d ∧ ms[i]? = some m ∧ GoodX m.eff P B ops o Ei d ∧ (m.stab = true → Stays B d) ∧ ∀ s e, Ei.look s = some e →
      (∃ j o', j < i ∧ rest[j]? = some o' ∧ o'.dst = some s ∧ ds[j]? = some e) ∨ ((∀ j o', j < i → rest[j]? = some o' → o'.dst ≠ some s) ∧ E.look s = some e) := by
  induction h with
  | nil => intro i o hi; simp at hi
  | @cons o0 rest E E' t0 d0 ds m0 ms ht hg hs hr ih =>
    intro i o hi
    cases i with
    | zero =>
      simp at hi; subst hi
      exact ⟨t0, d0, E, m0, ht, rfl, rfl, hg, hs, fun s e he => .inr ⟨fun j _ hj => by omega, he⟩⟩
    | succ i =>
      obtain ⟨t, d, Ei, m, h1, h2, h2', h3, h3', h4⟩ := ih (i := i) (by simpa using hi)
      refine ⟨t, d, Ei, m, h1, by simpa using h2, by simpa using h2', h3, h3', fun s e he => ?_⟩
      rcases h4 s e he with ⟨j, o', hj, ho', hd, hds⟩ | ⟨hno, hl⟩
      · exact .inl ⟨j + 1, o', by omega, by simpa using ho', hd, by simpa using hds⟩
      · by_cases hs : t0 = s
        · subst hs
          rw [look_here] at hl
          exact .inl ⟨0, o0, by omega, rfl, ht, by simpa using hl⟩
        · rw [look_past _ _ hs] at hl
          refine .inr ⟨fun j o' hj ho' => ?_, hl⟩
          cases j with
          | zero => simp at ho'; subst ho'; rw [ht]; intro h; injection h with h; exact hs h
          | succ j => exact hno j o' (by omega) (by simpa using ho')
theorem TraceX.last {rest : List Oper} {E E' : Env} {ms : List Mk} {ds : List D} (h : TraceX P B ops rest E ms ds E') : ∀ s e, E'.look s = some e →
      (∃ (j : Nat) (o' : Oper), rest[j]? = some o' ∧ o'.dst = some s ∧ ds[j]? = some e) ∨ ((∀ (j : Nat) (o' : Oper), rest[j]? = some o' → o'.dst ≠ some s) ∧ E.look s = some e) := by
  induction h with
  | nil => intro s e he; exact .inr ⟨fun j _ hj => by simp at hj, he⟩
  | @cons o0 rest E E' t0 d0 ds m0 ms ht hg hs hr ih =>
    intro s e he
    rcases ih s e he with ⟨j, o', ho', hd, hds⟩ | ⟨hno, hl⟩
    · exact .inl ⟨j + 1, o', by simpa using ho', hd, by simpa using hds⟩
    · by_cases hs : t0 = s
      · subst hs
        rw [look_here] at hl
        exact .inl ⟨0, o0, rfl, ht, by simpa using hl⟩
      · rw [look_past _ _ hs] at hl
        refine .inr ⟨fun j o' ho' => ?_, hl⟩
        cases j with
        | zero => simp at ho'; subst ho'; rw [ht]; intro h; injection h with h; exact hs h
        | succ j => exact hno j o' (by simpa using ho')
/-- What is told of number j's value is still true when number i has changed memory, as long as anyone looks at it. -/
def chainOk (ops : Array Oper) (ms : List Mk) : Bool :=
  let b := (befores ops).map List.eraseDups
  (List.range ops.size).all fun i => (List.range ops.size).all fun j => match ops[i]?, ms[i]?, ops[j]?, ms[j]? with
    | some o, some m, some q, some mj =>
      (j == i || !m.eff || mj.stab || mj.kill == some i || (b.getD j []).contains i || (match mj.kill with | some k => (b.getD i []).contains k | none => false)) &&
      (match q.dst with
        | some t => !(decide (j < i) && (o.looksAt ops).contains t) || (match mj.kill with | none => true | some k => k == i || (b.getD k []).contains i)
        | none => true)
    | _, _, _, _ => false
theorem chainOk_get {ms : List Mk} (h : chainOk ops ms = true) {i j : Nat} {o q : Oper} {m mj : Mk} (hi : ops[i]? = some o) (hm : ms[i]? = some m) (hj : ops[j]? = some q) (hmj : ms[j]? = some mj) :
    (j = i ∨ m.eff = false ∨ mj.stab = true ∨ mj.kill = some i ∨ i ∈ (befores ops).getD j [] ∨ ∃ k, mj.kill = some k ∧ k ∈ (befores ops).getD i []) ∧
    ∀ t, q.dst = some t → j < i → t ∈ o.looksAt ops → ∀ k, mj.kill = some k → k = i ∨ i ∈ (befores ops).getD k [] := by
  have hmem : ∀ k l, l ∈ (Array.map List.eraseDups (befores ops)).getD k [] → l ∈ (befores ops).getD k [] := fun k l h => by
    rw [Array.getD_eq_getD_getElem?, Array.getElem?_map] at h
    rw [Array.getD_eq_getD_getElem?]
    cases hk : (befores ops)[k]? with
    | none => rw [hk] at h; simp at h
    | some v => rw [hk] at h; simpa using h
  have hli : i < ops.size := (Array.getElem?_eq_some_iff.1 hi).1
  have hlj : j < ops.size := (Array.getElem?_eq_some_iff.1 hj).1
  have h1 := List.all_eq_true.1 (List.all_eq_true.1 h i (List.mem_range.2 hli)) j (List.mem_range.2 hlj)
  simp only [hi, hm, hj, hmj, Bool.and_eq_true] at h1
  obtain ⟨h1, h2⟩ := h1
  refine ⟨?_, fun t ht hji hlk k hk => ?_⟩
  · simp only [Bool.or_eq_true, beq_iff_eq, Bool.not_eq_true', List.contains_eq_mem, decide_eq_true_eq] at h1
    rcases h1 with ((((h | h) | h) | h) | h) | h
    · exact .inl h
    · exact .inr (.inl h)
    · exact .inr (.inr (.inl h))
    · exact .inr (.inr (.inr (.inl h)))
    · exact .inr (.inr (.inr (.inr (.inl (hmem _ _ h)))))
    · split at h
      · rename_i k hk
        exact .inr (.inr (.inr (.inr (.inr ⟨k, hk, hmem _ _ (by simpa using h)⟩))))
      · cases h
  · rw [ht] at h2
    simp only [Bool.or_eq_true, Bool.not_eq_true', Bool.and_eq_false_iff, decide_eq_false_iff_not, List.contains_eq_mem] at h2
    rcases h2 with (h2 | h2) | h2
    · exact absurd hji h2
    · exact absurd hlk h2
    · rw [hk] at h2
      simp only [Bool.or_eq_true, beq_iff_eq, decide_eq_true_eq] at h2
      exact h2.imp id (hmem _ _)
theorem befores_closed (htied : tied ops = true) {listed : Array Bool} (hc : ∀ i o, ops[i]? = some o → listed.getD i false = true → ∀ e ∈ o.after, Region.binds .any e = true → listed.getD e.on false = true) :
    ∀ i j, (∀ o, ops[i]? = some o → ∀ e ∈ o.after, Region.binds .any e = true → listed.getD e.on false = true) → j ∈ (befores ops).getD i [] → listed.getD j false = true := by
  intro i
  induction i using Nat.strongRecOn with
  | _ i ih =>
    intro j hi hj
    obtain ⟨o, e, ho, he, hb, h⟩ := befores_step hj
    have hl := hi o ho e he hb
    rcases h with rfl | h
    · exact hl
    · exact ih e.on (tied_edge htied ho he hb) j (fun o' ho' e' he' hb' => hc e.on o' ho' hl e' he' hb') h
structure InvX (κ : Cx) (n B : Nat) (ops : Array Oper) (ms : List Mk) (ds : List D) (a₀ : Act) (w₀ : World) (listed : Array Bool) (a : Act) (w : World) : Prop where
  below : Below B w₀ w
  base0 : B ≤ w₀.heap.size
  base : B ≤ w.heap.size
  lsize : listed.size = ops.size
  defers : a.defers = κ.df
  size : a.tmps.size = n
  closed : ∀ i o, ops[i]? = some o → listed.getD i false = true → ∀ e ∈ o.after, Region.binds .any e = true → listed.getD e.on false = true
  facts : ∀ i o t d m, ops[i]? = some o → listed.getD i false = true → o.dst = some t → ds[i]? = some d → ms[i]? = some m → (∀ k, m.kill = some k → listed.getD k false = false) → d.Of w (a.tmps.getD t undef)
  frame : ∀ t, (∀ i o, ops[i]? = some o → listed.getD i false = true → o.dst ≠ some t) → a.tmps.getD t undef = a₀.tmps.getD t undef
/-- The slots of which nothing is told at the end. -/
def deadX (ops : Array Oper) (ms : List Mk) : List Nat := (List.range ops.size).filterMap fun i => match ops[i]?, ms[i]? with
  | some o, some m => if m.kill.isSome then o.dst else none
  | _, _ => none
theorem wp_X {n : Nat} {ms : List Mk} {E E' E'' : Env} {ds : List D} {a₀ : Act} {w₀ : World} (htied : tied ops = true) (hfits : fits n ops = true) (hch : chainOk ops ms = true) (ht : TraceX P B ops ops.toList E ms ds E') (h₀ : St κ n B E a₀ w₀) (hE : ∀ p ∈ E, Stays B p.2)
    (hs'' : Sub E'' E') (hd'' : ∀ p ∈ E'', p.1 ∉ deadX ops ms) (hend : ∀ a' w', Below B w₀ w' → St κ n B E'' a' w' → Q .normal a' w') :
    ∀ (fuel : Nat) (listed : Array Bool) (a : Act) (w : World), unlisted ops listed ≤ fuel → InvX κ n B ops ms ds a₀ w₀ listed a w → wpAnyIn (FR κ.rd) 0 P .any ops Q fuel listed a w := by
  have hini : ∀ t e x w, Below B w₀ w → E.look t = some e → e.Of w₀ x → e.Of w x := fun t e x w g hl h => hE _ (look_mem hl) w₀ w x g h₀.base h
  have hmin : ∀ (listed : Array Bool) (a : Act) (w : World), InvX κ n B ops ms ds a₀ w₀ listed a w → Region.ready .any ops listed = [] → ∀ i, i < ops.size → listed.getD i false = true := by
    intro listed a w I hr i
    induction i using Nat.strongRecOn with
    | _ i ih =>
      intro hi
      rcases hb : listed.getD i false with _ | _
      · exfalso
        have : i ∈ Region.ready .any ops listed := by
          rw [mem_ready]
          refine ⟨?_, ops[i], Array.getElem?_eq_getElem hi, fun e he hbd => ih e.on (tied_edge htied (Array.getElem?_eq_getElem hi) he hbd) (Nat.lt_trans (tied_edge htied (Array.getElem?_eq_getElem hi) he hbd) hi)⟩
          have : i < listed.size := by rw [I.lsize]; exact hi
          simp [this] at hb ⊢
          exact hb
        rw [hr] at this
        cases this
      · rfl
  have hends : ∀ (listed : Array Bool) (a : Act) (w : World), InvX κ n B ops ms ds a₀ w₀ listed a w → Region.ready .any ops listed = [] → Q .normal a w := by
    intro listed a w I hr
    have hall := hmin listed a w I hr
    refine hend a w I.below ⟨I.base, I.defers, I.size, fun t e he => ?_⟩
    have hmem := look_mem he
    rcases ht.last t e (hs'' _ hmem) with ⟨j, o, hj, hd, hds⟩ | ⟨hno, hl⟩
    · have hj' : ops[j]? = some o := by simpa using hj
      have hlt := (Array.getElem?_eq_some_iff.1 hj').1
      obtain ⟨_, _, _, m, _, _, hm, _⟩ := ht.nth (i := j) (o := o) hj
      refine I.facts j o t e m hj' (hall j hlt) hd hds hm fun k hk => ?_
      exfalso
      refine hd'' _ hmem (List.mem_filterMap.2 ⟨j, List.mem_range.2 hlt, ?_⟩)
      simp only [hj', hm, hk, Option.isSome_some, if_true, hd]
    · rw [I.frame t fun i o hi _ => hno i o (by simpa using hi)]
      exact hini t e _ _ I.below hl (h₀.of t e hl)
  intro fuel
  induction fuel with
  | zero =>
    intro listed a w hc I
    have hr : Region.ready .any ops listed = [] := by
      rcases hr : Region.ready .any ops listed with _ | ⟨i, l⟩
      · rfl
      · exfalso
        have hi : i ∈ Region.ready .any ops listed := by rw [hr]; exact List.mem_cons_self
        obtain ⟨hu, o, ho, _⟩ := mem_ready.1 hi
        have hpos : 0 < unlisted ops listed := List.countP_pos_iff.2 ⟨i, List.mem_range.2 (Array.getElem?_eq_some_iff.1 ho).1, by simp only [hu]; rfl⟩
        omega
    exact ⟨hr, hends listed a w I hr⟩
  | succ fuel ih =>
    intro listed a w hc I
    refine ⟨hends listed a w I, fun i hi => ?_⟩
    obtain ⟨hu, o, ho, hall⟩ := mem_ready.1 hi
    have hlt : i < ops.size := (Array.getElem?_eq_some_iff.1 ho).1
    have hil : i < listed.size := by rw [I.lsize]; exact hlt
    have huf : listed.getD i false = false := by
      simp [hil] at hu ⊢
      exact hu
    have hready : ∀ o', ops[i]? = some o' → ∀ e ∈ o'.after, Region.binds .any e = true → listed.getD e.on false = true := fun o' ho' e he hb => by
      rw [ho] at ho'; injection ho' with ho'; subst ho'; exact hall e he hb
    obtain ⟨t, d, Ei, m, hdst, hds, hm, hgood, hstab, henv⟩ := ht.nth (i := i) (o := o) (by simpa using ho)
    have hf := fits_mem hfits (o := o) (by simpa using Array.mem_of_getElem? ho)
    have hnb := fits_base hfits
    have hbc : ∀ j, j ∈ (befores ops).getD i [] → listed.getD j false = true := fun j => befores_closed htied I.closed i j hready
    have hbl : ∀ j, listed.getD j false = true → i ∈ (befores ops).getD j [] → False := fun j hj hm => by
      have := befores_closed htied I.closed j i (fun o' ho' e' he' hb' => I.closed j o' ho' hj e' he' hb') hm
      rw [huf] at this; cases this
    refine wpOpR_step ho fun K hK => good_wpX I.base (fun t e hvt he => ?_) hdst hgood (fun r e hs he => ?_) (fun r hs => by rw [I.size]; exact hf.1 r hs) fun x w' g hx => hK _ _ (ih _ _ _ ?_ ?_)
    · rcases henv t e he with ⟨j, q, hji, hj, hpd, hpds⟩ | ⟨hno, hl⟩
      · have h9 : t < n := (fits_mem hfits (o := q) (List.mem_of_getElem? hj)).2 t hpd
        exact absurd (Nat.lt_of_lt_of_le h9 hnb) (Nat.not_lt.2 hvt)
      · exact hini t e _ _ I.below hl ((h₀.virt hnb) t e hvt hl)
    · rcases henv r e he with ⟨j, q, hji, hj, hpd, hpds⟩ | ⟨hno, hl⟩
      · have hj' : ops[j]? = some q := by simpa using hj
        obtain ⟨_, _, _, mj, _, _, hmj, _⟩ := ht.nth (i := j) (o := q) hj
        obtain ⟨ed, he1, hb, hon⟩ := ((tied_pair htied ho hj' hpd (by omega)).2 hs).1 (by omega)
        refine I.facts j q r e mj hj' ?_ hpd hpds hmj fun k hk => ?_
        · rw [← hon]
          exact hall ed he1 hb
        · rcases (chainOk_get hch ho hm hj' hmj).2 r hpd hji hs k hk with rfl | h
          · exact huf
          · rcases hb : listed.getD k false with _ | _
            · rfl
            · exact (hbl k hb h).elim
      · rw [I.frame r]
        · exact hini r e _ _ I.below hl (h₀.of r e hl)
        · intro j q hj hlist hpd
          by_cases hji : j = i
          · subst hji; rw [huf] at hlist; cases hlist
          · rcases Nat.lt_or_ge j i with h | h
            · exact hno j q h (by simpa using hj) hpd
            · obtain ⟨ed, he1, hb, hon⟩ := ((tied_pair htied ho hj hpd hji).2 hs).2 (by omega)
              have := I.closed j q hj hlist ed he1 hb
              rw [hon, huf] at this
              cases this
    · have : unlisted ops (listed.setIfInBounds i true) < unlisted ops listed := by
        refine countP_lt (x := i) (fun y hy => ?_) (List.mem_range.2 hlt) (by simp only [hu]; rfl) ?_
        · by_cases hyi : i = y
          · subst hyi
            simp [hil] at hy
          · rw [getD_set_ne true hyi] at hy; exact hy
        · simp [hil]
      omega
    · have hset : ∀ j, (listed.setIfInBounds i true).getD j false = true → j = i ∨ listed.getD j false = true := fun j hj => by
        by_cases hji : i = j
        · exact .inl hji.symm
        · rw [getD_set_ne false hji] at hj; exact .inr hj
      have hbel := g.below I.base
      refine ⟨I.below.trans hbel, I.base0, Nat.le_trans I.base hbel.size, by simp [I.lsize], I.defers, by simp [Act.put, I.size], ?_, ?_, ?_⟩
      · intro j q hj hl e he hb
        rcases hset j hl with rfl | hl
        · rw [ho] at hj; injection hj with hj; subst hj
          exact getD_set_true (hall e he hb)
        · exact getD_set_true (I.closed j q hj hl e he hb)
      · intro j q r e mj hj hl hpd hpds hmj hal
        by_cases hji : j = i
        · subst hji
          rw [ho] at hj; injection hj with hj; subst hj
          rw [hdst] at hpd; injection hpd with hpd; subst hpd
          rw [hds] at hpds; injection hpds with hpds; subst hpds
          rw [getD_put_here _ _ (by rw [I.size]; exact hf.2 _ hdst)]
          exact hx
        · have hl' := (hset j hl).resolve_left hji
          have hne : t ≠ r := fun h => (tied_pair htied ho hj hpd hji).1 (by rw [hdst, h])
          rw [getD_put_past _ _ hne]
          have halive : ∀ k, mj.kill = some k → listed.getD k false = false := fun k hk => by
            have h1 := hal k hk
            by_cases hki : i = k
            · subst hki; simp [hil] at h1
            · rwa [getD_set_ne false hki] at h1
          have hold := I.facts j q r e mj hj hl' hpd hpds hmj halive
          obtain ⟨_, _, _, mj', _, hds', hmj', _, hstj, _⟩ := ht.nth (i := j) (o := q) (by simpa using hj)
          rw [hmj] at hmj'; injection hmj' with hmj'; subst hmj'
          rw [hpds] at hds'; injection hds' with hds'; subst hds'
          rcases (chainOk_get hch ho hm hj hmj).1 with h | h | h | h | h | ⟨k, hk, h⟩
          · exact absurd h hji
          · rw [h] at g
            exact hold.grow (show Grow w w' from g)
          · exact hstj h w w' _ hbel I.base hold
          · have h1 := hal i h
            simp [hil] at h1
          · exact (hbl j hl' h).elim
          · have h1 := halive k hk
            rw [hbc k h] at h1; cases h1
      · intro r hs
        have hne : t ≠ r := fun h => hs i o ho (by simp [hil]) (by rw [hdst, h])
        rw [getD_put_past _ _ hne]
        refine I.frame r fun j q hj hl => hs j q hj (getD_set_true hl)

/-- The region gone through in the order of the text. -/
def RunX (P : Program) (B : Nat) (ops : Array Oper) (rest : List Oper) (E : Env) (ms : List Mk) (C : Env → Prop) : Prop := ∃ ds E', TraceX P B ops rest E ms ds E' ∧ C E'
variable {E : Env} {C : Env → Prop} {o : Oper} {rest : List Oper} {t : Nat} {d : D} {ms : List Mk}
theorem RunX.nil (h : C E) : RunX P B ops [] E [] C := ⟨[], E, .nil, h⟩
theorem OpOk.x (h : OpOk P B o E d) : OpOkX false P B o E d := fun ρ w hB hv hρ => (h ρ w hB hv hρ).mono fun _ _ hx => ⟨hx.1, hx.2⟩
theorem RunX.step {st : Bool} {kl : Option Nat} (ht : o.dst = some t) (hg : o.guard = none) (h : OpOk P B o E d) (hs : st = true → Stays B d) (hr : RunX P B ops rest ((t, d) :: E) ms C) : RunX P B ops (o :: rest) E (⟨false, st, kl⟩ :: ms) C := by
  obtain ⟨ds, E', h1, h2⟩ := hr
  exact ⟨_, E', .cons ht (.inl ⟨by simp [GuardIs, hg], h.x⟩) hs h1, h2⟩
theorem RunX.eff {st : Bool} {kl : Option Nat} (ht : o.dst = some t) (hg : o.guard = none) (h : OpOkX true P B o E d) (hs : st = true → Stays B d) (hr : RunX P B ops rest ((t, d) :: E) ms C) : RunX P B ops (o :: rest) E (⟨true, st, kl⟩ :: ms) C := by
  obtain ⟨ds, E', h1, h2⟩ := hr
  exact ⟨_, E', .cons ht (.inl ⟨by simp [GuardIs, hg], h⟩) hs h1, h2⟩
theorem RunX.as (x : Value) {y : Value} (h : y = x) (hr : RunX P B ops rest ((t, .v x) :: E) ms C) : RunX P B ops rest ((t, .v y) :: E) ms C := h ▸ hr
theorem RunX.last {E'' : Env} {C : Env → Prop} {dead : List Nat} (hs : Sub E'' E) (hd : (E''.map (·.1)).all (fun k => !dead.contains k) = true) (h : C E'') : RunX P B ops [] E [] (fun E' => ∃ E'', Sub E'' E' ∧ (∀ p ∈ E'', p.1 ∉ dead) ∧ C E'') :=
  RunX.nil ⟨E'', hs, fun p hp hm => by
    have := List.all_eq_true.1 hd p.1 (List.mem_map_of_mem hp)
    simp [hm] at this, h⟩
def StaysL (B : Nat) (E : Env) : Prop := ∀ p ∈ E, Stays B p.2
theorem StaysL.nil : StaysL B [] := fun _ h => by cases h
theorem StaysL.cons {k : Nat} {d : D} {E : Env} (h : Stays B d) (hr : StaysL B E) : StaysL B ((k, d) :: E) := fun p hp => by
  rcases List.mem_cons.1 hp with rfl | hp
  · exact h
  · exact hr p hp
/-- A drawn region whose changes of memory are no barriers. -/
theorem A.regsX {w₀ : World} {n : Nat} {y : Code} {E : Env} {id : Nat} (ms : List Mk) (E' : Nat → Env) (hE : ∀ B, OldH B (E' B) E) (hm : P.follows .mixedOrders = true) (hf : fits n ops = true) (ht : tied ops = true) (hc : chainOk ops ms = true)
    (hs : ∀ B, (∀ k b e xs, E.look k = some (blk b e xs) → b < B) → StaysL B (E' B))
    (hr : ∀ B, w₀.heap.size ≤ B → (∀ k b e xs, E.look k = some (blk b e xs) → b < B) → RunX P B ops ops.toList (E' B) ms (fun E₁ => ∃ E'', Sub E'' E₁ ∧ (∀ p ∈ E'', p.1 ∉ deadX ops ms) ∧ A κ P w₀ n y E'' Q)) : A κ P w₀ n (.seq (.region id ops true) y) E Q := A.seq fun a w g hst => by
  have hlt : ∀ k b e xs, E.look k = some (blk b e xs) → b < w.heap.size := fun k b e xs h => (hst.of k _ h).1
  have hst' : St κ n w.heap.size (E' w.heap.size) a w := ⟨Nat.le_refl _, hst.defers, hst.size, fun t d hd => by
    obtain ⟨d', hd', h⟩ := hE w.heap.size _ (look_mem hd)
    have h1 := hst.of t d' hd'
    rcases h with h2 | h2
    · simp only at h2; rw [h2]; exact h1
    · simp only at h2; rw [h2]; exact ⟨Nat.le_refl _, h1⟩⟩
  have hdr : Below w.heap.size w w.drew := (Below.refl _ w).drew
  obtain ⟨ds, E₁, htr, E'', hsub, hdead, hA⟩ := hr w.heap.size hst.base hlt
  refine wpIn_region_any hm (wp_X ht hf hc htr (hst'.grow (Grow.refl w).drew) (hs _ hlt) hsub hdead (fun a' w' g' h' => hA a' w' (g.trans ((hdr.trans g').mono hst.base)) ⟨Nat.le_trans hst.base (Nat.le_trans hdr.size g'.size), h'.defers, h'.size, h'.of⟩) _ _ _ _ ?_ ⟨Below.refl _ _, (hst'.grow (Grow.refl w).drew).base, (hst'.grow (Grow.refl w).drew).base, by simp, hst.defers, hst.size, fun i o hi hl => ?_, fun i o t d m hi hl => ?_, fun _ _ => rfl⟩)
  · refine Nat.le_trans List.countP_le_length ?_
    simp
  · have hli := (Array.getElem?_eq_some_iff.1 hi).1
    simp [hli] at hl
  · have hli := (Array.getElem?_eq_some_iff.1 hi).1
    simp [hli] at hl
end
section
variable {P : Program} {B : Nat} {E : Env} {dst : Option Tmp} {ty : TypeId} {pos : String} {after : Array Edge} {guard : Option (Nat × Bool)}
/-- append to a row of the region's own. -/
theorem okx_append {t e : TypeId} {z : Value} {nb : Nat} {r x : Operand} {k : Nat} {xs : List Value} {f : D} {vs : List Value} (ht : P.underlying t = some (.slice e)) (hinfo : InfoIs P e z nb) (hnb : nb ≤ 64) (hz1 : z.cells.size = 1)
    (hr : E.at r = some (own B e k xs)) (hx : E.at x = some f) (hf : Le f (lst (vs.map .v))) (h1 : ∀ u ∈ vs, u.oneCell' = true) (hk : k + vs.length ≤ 1099511627776) :
    OpOkX true P B ⟨dst, .call { callee := .builtin .append, args := #[r, x], argTypes := #[t, t] }, ty, pos, after, guard⟩ E (own B e (k + vs.length) (xs ++ vs)) := fun ρ w hB _ hρ => by
  obtain ⟨i, hi, hz, hs, hby⟩ := hinfo.get
  obtain ⟨hown, hob⟩ := hρ r (by simp [Op.operands, Call.operands]) _ hr
  obtain ⟨c, A, us, hxe, hle, hcm, hul, hrow, hus⟩ := hf.of (hρ x (by simp [Op.operands, Call.operands]) _ hx)
  have huv : us = vs := by
    apply List.ext_getElem?
    intro j
    simp only [List.length_map] at hul
    rcases Nat.lt_or_ge j vs.length with hj | hj
    · have hu : us[j]? = some us[j] := List.getElem?_eq_getElem (by omega)
      have h2 : us[j] = vs[j] := hus j (.v vs[j]) us[j] (by simp [hj]) hu
      rw [hu, h2, List.getElem?_eq_getElem hj]
    · rw [List.getElem?_eq_none (by omega), List.getElem?_eq_none hj]
  subst huv
  simp only [List.length_map] at hxe hle hul
  have hrun : ∃ v' w', (Builtin.append_ #[t, t] ty #[ρ r, .slice A us.length c]).run P w = .ok v' w' ∧ w'.ownsRow B e 1 v' (k + us.length) (xs ++ us) ∧ w.grownBy w' (ρ r).ownBlock ∧
      (v'.ownBlock = (ρ r).ownBlock ∨ v'.ownBlock = some w.heap.size) := by
    have hbb : (k + us.length) * i.bytes ≤ (k + us.length) * 64 := Nat.mul_le_mul_left _ (by omega)
    have hnil : us = [] → ∀ c', (Builtin.append_ #[t, t] ty #[ρ r, .slice none 0 c']).run P w = .ok (ρ r) w := by
      intro _ c'
      rcases hown.2 with ⟨hv, hn0⟩ | ⟨g, cap, cur, hv, _, _, hnc, _⟩
      · rw [hv]; simp [Builtin.append_, run_underlying ht, sizeOf, typeInfo, hi, Builtin.lenOf, Builtin.firstCells]
      · rw [hv]; simp [Builtin.append_, run_underlying ht, sizeOf, typeInfo, hi, Builtin.lenOf, Builtin.firstCells, hnc, storeCells]
    cases A with
    | none =>
      have hz : us = [] := by
        cases us with
        | nil => rfl
        | cons b l => obtain ⟨ad, h, _⟩ := hrow 0 b rfl; cases h
      subst hz
      exact ⟨ρ r, w, hnil rfl c, by simpa using hown, World.grownBy.refl w _, .inl rfl⟩
    | some ad =>
      obtain ⟨v', w', h2, h3, h4, _, h6⟩ := run_append_own_at (P := P) w B t ty e i z 1 i.bytes ht hi hz hs rfl hz1 (by omega) (ρ r) k xs hown ad us.length c us (by simp) hrow.cell h1 (by simp only [maxLen]; omega) (by omega) hB
      exact ⟨v', w', h2, h3, h4, h6⟩
  obtain ⟨v', w', hrun, h3, h4, h5⟩ := hrun
  have hbase : ∀ g, (ρ r).ownBlock = some g → B ≤ g := fun g hg => by
    rcases hown.2 with ⟨hv, _⟩ | ⟨g', cap, cur, hv, hb, _⟩
    · rw [hv] at hg; simp [Value.ownBlock] at hg
    · rw [hv] at hg; simp [Value.ownBlock] at hg; omega
  have hbel : Below B w w' := (Below.refl B w).grown h4 hB hbase
  have hlt : ∀ g, v'.ownBlock = some g → g < w'.heap.size := fun g hg => by
    rcases h3.2 with ⟨hv, _⟩ | ⟨g', cap, cur, hv, _, hh, _⟩
    · rw [hv] at hg; simp [Value.ownBlock] at hg
    · rw [hv] at hg; simp [Value.ownBlock] at hg; subst hg
      rcases Nat.lt_or_ge g' w'.heap.size with h | h
      · exact h
      · rw [Array.getElem?_eq_none h] at hh; cases hh
  exact out_val (x := v') (w' := w') (by simp [execOp, resolve, invoke, builtin, hxe, hrun]) ⟨hbel, h3, hlt⟩
end
end Go.Proofs.Ytdnblilocdddpaa
