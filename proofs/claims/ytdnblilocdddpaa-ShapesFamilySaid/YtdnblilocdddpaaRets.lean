/-
  OWN WORDS: a drawn region that leaves the world as it was (variables that are returned: each is loaded and stored again): gone through once in the order of the text; it then holds in every order that its edges allow. Nothing of one program stands here.
-/
import Derived.Test.YtdnblilocdddpaaAny
import Derived.Test.YtdnblilocdddpaaHold
namespace Go.Proofs.Ytdnblilocdddpaa
open Go Go.RowKit
/-- The operation yields v (or stores what is there) and changes nothing. -/
def NopOk (P : Program) (B : Nat) (o : Oper) (E : Env) (v : Value) : Prop := (∀ c, o.op ≠ .defer c) ∧
  ∀ (ρ : Operand → Value) (w : World), B ≤ w.heap.size → (∀ t e, vbase ≤ t → E.look t = some e → e.Of w undef) → (∀ x, x ∈ o.op.operands → ∀ e, E.at x = some e → e.Of w (ρ x)) → ((execOp ρ o).run P w = .ok (.value v) w ∧ o.dst ≠ none) ∨ ((execOp ρ o).run P w = .ok .skip w ∧ o.dst = none)
/-- An environment out of what was known and of what operations have yielded that stand before operation o. -/
inductive FromN (ops : Array Oper) (vals : List Value) (E0 : Env) (o : Oper) : Env → Prop
  | nil : FromN ops vals E0 o []
  | all : FromN ops vals E0 o E0
  | base {t : Nat} {d : D} {E : Env} (h : E0.look t = some d) (hr : FromN ops vals E0 o E) : FromN ops vals E0 o ((t, d) :: E)
  | op {t : Nat} {v : Value} {E : Env} (j : Nat) (he : (o.after.any fun e => Region.binds .any e && e.on == j) = true) (hd : (ops[j]?).bind (·.dst) = some t) (hv : vals[j]? = some v) (hr : FromN ops vals E0 o E) : FromN ops vals E0 o ((t, .v v) :: E)
/-- The same at the region's end. -/
inductive FromE (ops : Array Oper) (vals : List Value) (E0 : Env) : Env → Prop
  | nil : FromE ops vals E0 []
  | all : FromE ops vals E0 E0
  | base {t : Nat} {d : D} {E : Env} (h : E0.look t = some d) (hr : FromE ops vals E0 E) : FromE ops vals E0 ((t, d) :: E)
  | op {t : Nat} {v : Value} {E : Env} (j : Nat) (hd : (ops[j]?).bind (·.dst) = some t) (hv : vals[j]? = some v) (hr : FromE ops vals E0 E) : FromE ops vals E0 ((t, .v v) :: E)
inductive Nops (P : Program) (B : Nat) (ops : Array Oper) (vals : List Value) (E0 : Env) : Nat → List Oper → Prop
  | nil {i : Nat} : Nops P B ops vals E0 i []
  | cons {i : Nat} {o : Oper} {rest : List Oper} {v : Value} (E : Env) (hv : vals[i]? = some v) (hd : o.dst = none ∨ ∃ t, o.dst = some t ∧ (E0.look t = none ∨ E0.look t = some (.v v))) (hf : FromN ops vals E0 o E) (hok : NopOk P B o E v) (hr : Nops P B ops vals E0 (i + 1) rest) : Nops P B ops vals E0 i (o :: rest)
def downsN (ops : Array Oper) : Bool := (List.range ops.size).all fun i => match ops[i]? with
  | none => false
  | some o => o.guard.isNone && o.after.all (fun e => !Region.binds .any e || decide (e.on < i)) && (List.range ops.size).all fun j => match ops[j]? with
    | none => false
    | some q => j == i || o.dst == none || o.dst != q.dst
section
variable {P : Program} {n B : Nat} {ops : Array Oper} {κ : Cx} {Q : Exit → Act → World → Prop} {vals : List Value} {E0 : Env}
theorem Nops.nth {k : Nat} {l : List Oper} (h : Nops P B ops vals E0 k l) : ∀ {i : Nat} {o : Oper}, l[i]? = some o → ∃ E v, vals[k + i]? = some v ∧ (o.dst = none ∨ ∃ t, o.dst = some t ∧ (E0.look t = none ∨ E0.look t = some (.v v))) ∧ FromN ops vals E0 o E ∧ NopOk P B o E v := by
  induction h with
  | nil => intro i o hi; simp at hi
  | @cons k o0 rest v E hv hd hf hok _ ih =>
    intro i o hi
    cases i with
    | zero => simp at hi; subst hi; exact ⟨E, v, hv, hd, hf, hok⟩
    | succ i =>
      obtain ⟨E, v, h1, h2⟩ := ih (i := i) (by simpa using hi)
      exact ⟨E, v, by rw [show k + (i + 1) = k + 1 + i from by omega]; exact h1, h2⟩
structure InvN (κ : Cx) (n B : Nat) (ops : Array Oper) (vals : List Value) (E0 : Env) (listed : Array Bool) (a : Act) (w : World) : Prop where
  st : St κ n B E0 a w
  lsize : listed.size = ops.size
  got : ∀ (i : Nat) (o : Oper) (t : Nat) (v : Value), ops[i]? = some o → listed.getD i false = true → o.dst = some t → vals[i]? = some v → a.tmps.getD t undef = v
theorem downs_get (h : downsN ops = true) {i : Nat} {o : Oper} (hi : ops[i]? = some o) : o.guard = none ∧ (∀ e ∈ o.after, Region.binds .any e = true → e.on < i) ∧ ∀ j q, ops[j]? = some q → j ≠ i → o.dst ≠ none → o.dst ≠ q.dst := by
  have hlt : i < ops.size := (Array.getElem?_eq_some_iff.1 hi).1
  have h1 := List.all_eq_true.1 h i (List.mem_range.2 hlt)
  simp only [hi, Bool.and_eq_true] at h1
  refine ⟨by simpa using h1.1.1, fun e he hb => ?_, fun j q hj hne hnn => ?_⟩
  · have h2 := Array.all_eq_true_iff_forall_mem.1 h1.1.2 e he
    simpa [hb] using h2
  · have h3 := List.all_eq_true.1 h1.2 j (List.mem_range.2 (Array.getElem?_eq_some_iff.1 hj).1)
    simp only [hj, Bool.or_eq_true, beq_iff_eq, bne_iff_ne, ne_eq] at h3
    rcases h3 with (h3 | h3) | h3
    · exact absurd h3 hne
    · exact absurd h3 hnn
    · exact h3
theorem wp_nops (hn0 : n ≤ vbase) (hfit : fits n ops = true) (hd : downsN ops = true) (hn : Nops P B ops vals E0 0 ops.toList) :
    ∀ (fuel : Nat) (listed : Array Bool) (a : Act) (w : World), unlisted ops listed ≤ fuel → InvN κ n B ops vals E0 listed a w → (∀ l a' , InvN κ n B ops vals E0 l a' w → (∀ i, i < ops.size → l.getD i false = true) → Q .normal a' w) → wpAnyIn (FR κ.rd) 0 P .any ops Q fuel listed a w := by
  have hmin : ∀ (listed : Array Bool), listed.size = ops.size → Region.ready .any ops listed = [] → ∀ i, i < ops.size → listed.getD i false = true := by
    intro listed hl hr i
    induction i using Nat.strongRecOn with
    | _ i ih =>
      intro hi
      rcases hb : listed.getD i false with _ | _
      · exfalso
        have hdi := (downs_get hd (Array.getElem?_eq_getElem hi)).2.1
        have : i ∈ Region.ready .any ops listed := by
          rw [mem_ready]
          refine ⟨?_, ops[i], Array.getElem?_eq_getElem hi, fun e he hbd => ih e.on (hdi e he hbd) (Nat.lt_trans (hdi e he hbd) hi)⟩
          have : i < listed.size := by rw [hl]; exact hi
          simp [this] at hb ⊢
          exact hb
        rw [hr] at this
        cases this
      · rfl
  intro fuel
  induction fuel with
  | zero =>
    intro listed a w hc I hQ'
    have hr : Region.ready .any ops listed = [] := by
      rcases hr : Region.ready .any ops listed with _ | ⟨i, l⟩
      · rfl
      · exfalso
        have hi : i ∈ Region.ready .any ops listed := by rw [hr]; exact List.mem_cons_self
        obtain ⟨hu, o, ho, _⟩ := mem_ready.1 hi
        have hpos : 0 < unlisted ops listed := List.countP_pos_iff.2 ⟨i, List.mem_range.2 (Array.getElem?_eq_some_iff.1 ho).1, by simp only [hu]; rfl⟩
        omega
    exact ⟨hr, hQ' listed a I (hmin listed I.lsize hr)⟩
  | succ fuel ih =>
    intro listed a w hc I hQ'
    refine ⟨fun hr => hQ' listed a I (hmin listed I.lsize hr), fun i hi => ?_⟩
    obtain ⟨hu, o, ho, hall⟩ := mem_ready.1 hi
    have hlt : i < ops.size := (Array.getElem?_eq_some_iff.1 ho).1
    obtain ⟨E, v, hv, hdo, hfr, hnd, hok⟩ := hn.nth (i := i) (o := o) (by simpa using ho)
    rw [Nat.zero_add] at hv
    obtain ⟨hg, _, hdis⟩ := downs_get hd ho
    have hst : ∀ {E : Env}, FromN ops vals E0 o E → ∀ t d, E.look t = some d → d.Of w (a.tmps.getD t undef) := fun {E} h => by
      induction h with
      | nil => intro t d hl; cases hl
      | all => exact I.st.of
      | @base s e E h _ ih =>
        intro t d hl
        by_cases hts : s = t
        · subst hts; rw [look_here] at hl; injection hl with hl; subst hl; exact I.st.of _ _ h
        · rw [look_past _ _ hts] at hl; exact ih t d hl
      | @op s v E j he hdj hvj _ ih =>
        intro t d hl
        by_cases hts : s = t
        · subst hts; rw [look_here] at hl; injection hl with hl; subst hl
          obtain ⟨e, he1, he2⟩ := Array.any_eq_true'.1 he
          simp only [Bool.and_eq_true, beq_iff_eq] at he2
          have hl := hall e he1 he2.1
          rw [he2.2] at hl
          cases hq : ops[j]? with
          | none => rw [hq] at hdj; cases hdj
          | some q =>
            rw [hq] at hdj
            exact I.got j q _ _ hq hl hdj hvj
        · rw [look_past _ _ hts] at hl; exact ih t d hl
    have hE : St κ n B E a w := ⟨I.st.base, I.st.defers, I.st.size, hst hfr⟩
    have hres := hok a.eval w I.st.base (hE.virt hn0) fun x _ e he => hE.at_ x _ he
    refine wpOpR_step ho fun K hK => ?_
    rw [if_pos (by simp [Region.wanted, hg])]
    refine opR hnd ?_
    unfold Oper.wp
    have hcl : unlisted ops (listed.setIfInBounds i true) ≤ fuel := by
      have : unlisted ops (listed.setIfInBounds i true) < unlisted ops listed := by
        refine countP_lt (x := i) (fun y hy => ?_) (List.mem_range.2 hlt) (by simp only [hu]; rfl) ?_
        · by_cases hyi : i = y
          · subst hyi
            have : i < listed.size := by rw [I.lsize]; exact hlt
            simp [this] at hy
          · rw [getD_set_ne true hyi] at hy; exact hy
        · have : i < listed.size := by rw [I.lsize]; exact hlt
          simp [this]
      omega
    have hset : ∀ j, (listed.setIfInBounds i true).getD j false = true → j = i ∨ listed.getD j false = true := fun j hj => by
      by_cases hji : i = j
      · exact .inl hji.symm
      · rw [getD_set_ne false hji] at hj; exact .inr hj
    rcases hres with ⟨hrun, hdn⟩ | ⟨hrun, hdn⟩
    · rw [hrun, Oper.upon_value]
      obtain ⟨t, ht, hE0⟩ := hdo.resolve_left hdn
      have htn : t < n := (fits_mem hfit (o := o) (by simpa using Array.mem_of_getElem? ho)).2 t ht
      rw [ht]
      refine hK _ _ (ih _ _ _ hcl ⟨⟨I.st.base, I.st.defers, by simp [Act.put, I.st.size], fun s d hs => ?_⟩, by simp [I.lsize], fun j q s u hj hl hds hvs => ?_⟩ hQ')
      · by_cases hts : t = s
        · subst hts
          rw [getD_put_here _ _ (by rw [I.st.size]; exact htn)]
          rcases hE0 with h | h
          · rw [h] at hs; cases hs
          · rw [h] at hs; injection hs with hs; subst hs; rfl
        · rw [getD_put_past _ _ hts]; exact I.st.of s d hs
      · rcases hset j hl with rfl | hl
        · rw [ho] at hj; injection hj with hj; subst hj
          rw [ht] at hds; injection hds with hds; subst hds
          rw [hv] at hvs; injection hvs with hvs; subst hvs
          rw [getD_put_here _ _ (by rw [I.st.size]; exact htn)]
        · by_cases hji : j = i
          · subst hji
            rw [ho] at hj; injection hj with hj; subst hj
            rw [ht] at hds; injection hds with hds; subst hds
            rw [hv] at hvs; injection hvs with hvs; subst hvs
            rw [getD_put_here _ _ (by rw [I.st.size]; exact htn)]
          · have hne : t ≠ s := fun he => hdis j q hj hji hdn (by rw [ht, hds, he])
            rw [getD_put_past _ _ hne]
            exact I.got j q s u hj hl hds hvs
    · rw [hrun, Oper.upon_skip]
      have hput : a.put o.dst undef = a := by rw [hdn]; rfl
      rw [hput]
      refine hK _ _ (ih _ _ _ hcl ⟨I.st, by simp [I.lsize], fun j q s u hj hl hds hvs => ?_⟩ hQ')
      rcases hset j hl with rfl | hl
      · rw [ho] at hj; injection hj with hj; subst hj
        rw [hdn] at hds; cases hds
      · exact I.got j q s u hj hl hds hvs
theorem A.regsN {w₀ : World} {y : Code} {E1 : Env} {id : Nat} (vals : List Value) (hm : P.follows .mixedOrders = true) (hfit : fits n ops = true) (hd : downsN ops = true) (hn : Nops P w₀.heap.size ops vals E0 0 ops.toList) (hf : FromE ops vals E0 E1) (h : A κ P w₀ n y E1 Q) : A κ P w₀ n (.seq (.region id ops true) y) E0 Q := A.seq fun a w hg hst => by
  have hdr : Below w₀.heap.size w w.drew := (Below.refl _ w).drew
  have hfin : ∀ l a', InvN κ n w₀.heap.size ops vals E0 l a' w.drew → (∀ i, i < ops.size → l.getD i false = true) → Exit.then (y.wpIn (FR κ.rd) 0 P Q) Q .normal a' w.drew := fun l a' I hall => by
    refine h a' w.drew (hg.trans hdr) ⟨I.st.base, I.st.defers, I.st.size, fun t d hl => ?_⟩
    have key : ∀ t d, E1.look t = some d → d.Of w.drew (a'.tmps.getD t undef) := by
      clear hl h
      induction hf with
      | nil => intro t d hl; cases hl
      | all => exact I.st.of
      | @base s e E h _ ih =>
        intro t d hl
        by_cases hts : s = t
        · subst hts; rw [look_here] at hl; injection hl with hl; subst hl; exact I.st.of _ _ h
        · rw [look_past _ _ hts] at hl; exact ih t d hl
      | @op s v E j hdj hvj _ ih =>
        intro t d hl
        by_cases hts : s = t
        · subst hts; rw [look_here] at hl; injection hl with hl; subst hl
          cases hq : ops[j]? with
          | none => rw [hq] at hdj; cases hdj
          | some q =>
            rw [hq] at hdj
            exact I.got j q _ _ hq (hall j (Array.getElem?_eq_some_iff.1 hq).1) hdj hvj
        · rw [look_past _ _ hts] at hl; exact ih t d hl
    exact key t d hl
  refine wpIn_region_any hm (wp_nops (Q := Exit.then (y.wpIn (FR κ.rd) 0 P Q) Q) (fits_base hfit) hfit hd hn _ _ _ _ ?_ ⟨hst.grow (Grow.refl w).drew, by simp, fun i o t v hi hl => ?_⟩ hfin)
  · refine Nat.le_trans List.countP_le_length ?_
    simp
  · simp [(Array.getElem?_eq_some_iff.1 hi).1] at hl
end
/-! ### Such operations -/
section
variable {P : Program} {B : Nat} {E : Env} {d : Tmp} {ty : TypeId} {pos : String} {after : Array Edge} {guard : Option (Nat × Bool)}
theorem nop_move {x : Operand} {v : Value} (hx : E.at x = some (.v v)) : NopOk P B ⟨some d, .move x, ty, pos, after, guard⟩ E v :=
  ⟨by nofun, fun ρ w _ _ hρ => .inl ⟨by simp [execOp, show ρ x = v from hρ x (by simp [Op.operands]) _ hx], by simp⟩⟩
theorem nop_assign {x : Operand} {v : Value} (hx : E.at x = some (.v v)) : NopOk P B ⟨some d, .assign x, ty, pos, after, guard⟩ E v :=
  ⟨by nofun, fun ρ w _ _ hρ => .inl ⟨by simp [execOp, show ρ x = v from hρ x (by simp [Op.operands]) _ hx], by simp⟩⟩
theorem nop_loadA {T : TypeId} {td : TypeDesc} {x : Operand} {b s : Nat} {e : TypeId} {xs : List Value} (hsl : vbase ≤ s) (ht : P.underlying T = some td) (hp : (match td with | .struct _ | .array _ _ => true | _ => false) = true) (hsz : SizeIs P T xs.length)
    (hx : E.at x = some (.v (.pointer (some ⟨b, 0, none⟩)))) (hblk : E.look s = some (blk b e xs)) : NopOk P B ⟨some d, .load T x, ty, pos, after, guard⟩ E (aggV xs) :=
  ⟨by nofun, fun ρ w _ hv hρ => .inl ⟨by
    have h1 : ρ x = _ := hρ x (by simp [Op.operands]) _ hx
    obtain ⟨_, hh⟩ := hv s _ hsl hblk
    simp [execOp, h1, Instr.loadAt, Instr.sureAddr, load_cell ht hp hsz hh], by simp⟩⟩
theorem nop_loadV {T : TypeId} {td : TypeDesc} {x : Operand} {b s : Nat} {e : TypeId} {v : Value} (hsl : vbase ≤ s) (ht : P.underlying T = some td) (hp : (match td with | .struct _ | .array _ _ => true | _ => false) = false)
    (hx : E.at x = some (.v (.pointer (some ⟨b, 0, none⟩)))) (hblk : E.look s = some (blk b e [v])) : NopOk P B ⟨some d, .load T x, ty, pos, after, guard⟩ E v :=
  ⟨by nofun, fun ρ w _ hv hρ => .inl ⟨by
    have h1 : ρ x = _ := hρ x (by simp [Op.operands]) _ hx
    obtain ⟨_, hh⟩ := hv s _ hsl hblk
    have hl₀ : (loadVar T ⟨b, 0, none⟩).run P w = .ok v w := by
      have hagg : (isAgg T).run P w = .ok false w := by
        unfold isAgg
        rw [Sem.run_bind, run_underlying ht w]
        cases td <;> simp_all
      have hc : w.cell? ⟨b, 0, none⟩ = some v := by simp [World.cell?, hh]
      simp [loadVar, Sem.run_bind, hagg, hc]
    simp [execOp, h1, Instr.loadAt, Instr.sureAddr, hl₀], by simp⟩⟩
theorem setRow_same {w : World} {b : Nat} {e : TypeId} {cs : Array Value} {fr : Nat × Nat} (h : w.heap[b]? = some (.cells cs e fr)) : w.setRow b cs = w := by
  have hh : (w.setRow b cs).heap = w.heap := by
    apply Array.ext_getElem?
    intro k
    by_cases hk : b = k
    · subst hk
      simp [World.setRow, Array.getElem?_modify, h]
    · simp [World.setRow, Array.getElem?_modify, hk]
  calc w.setRow b cs = { w with heap := (w.setRow b cs).heap } := rfl
    _ = w := by rw [hh]
theorem nop_storeA {T : TypeId} {p x : Operand} {b s : Nat} {e : TypeId} {ys : List Value} (hsl : vbase ≤ s) (hsz : SizeIs P T ys.length) (hp : E.at p = some (.v (.pointer (some ⟨b, 0, none⟩)))) (hx : E.at x = some (.v (aggV ys))) (h1 : ys.all (·.oneCell') = true)
    (hblk : E.look s = some (blk b e ys)) : NopOk P B ⟨none, .store T p x, ty, pos, after, guard⟩ E (.tuple #[]) :=
  ⟨by nofun, fun ρ w _ hv hρ => .inr ⟨by
    have hp' : ρ p = _ := hρ p (by simp [Op.operands]) _ hp
    have hx' : ρ x = _ := hρ x (by simp [Op.operands]) _ hx
    obtain ⟨_, hh⟩ := hv s _ hsl hblk
    have := run_storeVar_row (P := P) w b e T ys.toArray ys.toArray hh (by simpa [SizeIs] using hsz) (by simp) (by simpa using h1)
    rw [setRow_same hh] at this
    simp [execOp, hp', hx', Instr.storeAt, Instr.sureAddr, aggV, this], rfl⟩⟩
theorem nop_storeV {T : TypeId} {z : Value} {nb : Nat} {p x : Operand} {b s : Nat} {e : TypeId} {v : Value} (hsl : vbase ≤ s) (hs : InfoIs P T z nb) (hp : E.at p = some (.v (.pointer (some ⟨b, 0, none⟩)))) (hx : E.at x = some (.v v)) (h1 : v.oneCell' = true)
    (hblk : E.look s = some (blk b e [v])) : NopOk P B ⟨none, .store T p x, ty, pos, after, guard⟩ E (.tuple #[]) :=
  ⟨by nofun, fun ρ w _ hv hρ => .inr ⟨by
    have hp' : ρ p = _ := hρ p (by simp [Op.operands]) _ hp
    have hx' : ρ x = _ := hρ x (by simp [Op.operands]) _ hx
    obtain ⟨_, hh⟩ := hv s _ hsl hblk
    obtain ⟨i, hi, _, hsz, _⟩ := hs.get
    have hcu : v.cells = #[v] := by cases v <;> simp_all [Value.oneCell', Value.cells]
    have hcell : w.cell? ⟨b, 0, none⟩ = some v := by simp [World.cell?, hh]
    have hfr : w.frozen? ⟨b, 0, none⟩ = false := by simp [World.frozen?, hh]
    have hadd : (⟨b, 0, none⟩ : Addr).add 0 = ⟨b, 0, none⟩ := rfl
    have hset := setCell_eq_setRow w b 0 [v].toArray e (0, 0) v hh
    have hsame : w.setCell ⟨b, 0, none⟩ v = w := by rw [hset]; exact setRow_same (by simpa using hh)
    simp [execOp, hp', hx', Instr.storeAt, Instr.sureAddr, storeVar, hcu, sizeOf, typeInfo, hi, hsz, storeCells, hadd, run_store P w ⟨b, 0, none⟩ v .plain h1, hcell, hfr, hsame], rfl⟩⟩
end
end Go.Proofs.Ytdnblilocdddpaa
