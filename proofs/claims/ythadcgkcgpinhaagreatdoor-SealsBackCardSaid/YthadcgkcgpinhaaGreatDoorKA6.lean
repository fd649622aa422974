/-
  OWN TEXTS of this seat, put together, part 6: SealE, Rets, C09a, C09b, Vars, C09c, C09e, Law4, Law6.
-/
import Derived.Test.YthadcgkcgpinhaaGreatDoorKA5
import Derived.Test.YthadcgkcgpinhaaGreatDoorKA2
import Derived.Test.YthadcgkcgpinhaaGreatDoorKA4
import Derived.Test.YthadcgkcgpinhaaGreatDoorKA3
import Derived.Test.YthadcgkcgpinhaaGreatDoorKA1
namespace Go.Proofs.YthadcgkcgpinhaaGreatDoor
open Go Go.RowKit
theorem kinB {n : Nat} {l : List UInt8} (h : l.length = n) : Kin (fun _ _ => True) (List.replicate n .u8) (l.map byteV) := by
  refine ⟨by simp [h], fun i k hk => ?_⟩
  rw [List.getElem?_replicate] at hk
  split at hk
  · rename_i hi
    injection hk with hk; subst hk
    exact ⟨_, by rw [List.getElem?_map, List.getElem?_eq_getElem (by omega)]; rfl, trivial⟩
  · cases hk
theorem kinZ (n : Nat) : Kin (fun _ _ => True) (List.replicate n .u8) (List.replicate n (.int .u8 0)) := by
  have := kinB (n := n) (l := List.replicate n 0) (by simp)
  rwa [List.map_replicate] at this
theorem decB (a b : List UInt8) : decide (a = b) = true ↔ a.map byteV = b.map byteV := by
  rw [decide_eq_true_iff]
  exact ⟨fun h => by rw [h], fun h => bytes_inj h⟩
end Go.Proofs.YthadcgkcgpinhaaGreatDoor
namespace Go.Proofs.YthadcgkcgpinhaaGreatDoor
open Go Go.RowKit
/-- The operation yields v (or stores what is there) and changes nothing. -/
def NopOk (P : Program) (B : Nat) (o : Oper) (E : Env) (v : Value) : Prop := (∀ c, o.op ≠ .defer c) ∧
  ∀ (ρ : Operand → Value) (w : World), B ≤ w.heap.size → (∀ t e, vbase ≤ t → E.look t = some e → e.Of w undef) → (∀ x, x ∈ o.op.operands → ∀ e, E.at x = some e → e.Of w (ρ x)) → ((execOp ρ o).run P w = .ok (.value v) w ∧ o.dst ≠ none) ∨ ((execOp ρ o).run P w = .ok .skip w ∧ o.dst = none)
/-- An environment out of what was known and of what operations have yielded that stand before operation o. -/
inductive FromN (ops : Array Oper) (vals : List Value) (E0 : Env) (o : Oper) : Env → Prop
  | nil : FromN ops vals E0 o []
  | all : FromN ops vals E0 o E0
  | base {t : Nat} {d : D} {E : Env} (h : E0.look t = some d) (hr : FromN ops vals E0 o E) : FromN ops vals E0 o ((t, d) :: E)
  | op {t : Nat} {v : Value} {E : Env} (j : Nat) (he : (o.after.any fun e => Region.binds .any e && e.on == j) = true) (hd : (ops[j]?).bind (·.dst) = some t) (hv : vals[j]? = some v) (hr : FromN ops vals E0 o E) : FromN ops vals E0 o ((t, .v v) :: E)
/-- The same at the region's end. -/
inductive FromE (ops : Array Oper) (vals : List Value) (E0 : Env) : Env → Prop
  | nil : FromE ops vals E0 []
  | all : FromE ops vals E0 E0
  | base {t : Nat} {d : D} {E : Env} (h : E0.look t = some d) (hr : FromE ops vals E0 E) : FromE ops vals E0 ((t, d) :: E)
  | op {t : Nat} {v : Value} {E : Env} (j : Nat) (hd : (ops[j]?).bind (·.dst) = some t) (hv : vals[j]? = some v) (hr : FromE ops vals E0 E) : FromE ops vals E0 ((t, .v v) :: E)
inductive Nops (P : Program) (B : Nat) (ops : Array Oper) (vals : List Value) (E0 : Env) : Nat → List Oper → Prop
  | nil {i : Nat} : Nops P B ops vals E0 i []
  | cons {i : Nat} {o : Oper} {rest : List Oper} {v : Value} (E : Env) (hv : vals[i]? = some v) (hd : o.dst = none ∨ ∃ t, o.dst = some t ∧ (E0.look t = none ∨ E0.look t = some (.v v))) (hf : FromN ops vals E0 o E) (hok : NopOk P B o E v) (hr : Nops P B ops vals E0 (i + 1) rest) : Nops P B ops vals E0 i (o :: rest)
def downsN (ops : Array Oper) : Bool := (List.range ops.size).all fun i => match ops[i]? with
  | none => false
  | some o => o.guard.isNone && o.after.all (fun e => !Region.binds .any e || decide (e.on < i)) && (List.range ops.size).all fun j => match ops[j]? with
    | none => false
    | some q => j == i || o.dst == none || o.dst != q.dst
section
variable {P : Program} {n B : Nat} {ops : Array Oper} {κ : Cx} {Q : Exit → Act → World → Prop} {vals : List Value} {E0 : Env}
theorem Nops.nth {k : Nat} {l : List Oper} (h : Nops P B ops vals E0 k l) : ∀ {i : Nat} {o : Oper}, l[i]? = some o → ∃ E v, vals[k + i]? = some v ∧ (o.dst = none ∨ ∃ t, o.dst = some t ∧ (E0.look t = none ∨ E0.look t = some (.v v))) ∧ FromN ops vals E0 o E ∧ NopOk P B o E v := by
  induction h with
  | nil => intro i o hi; simp at hi
  | @cons k o0 rest v E hv hd hf hok _ ih =>
    intro i o hi
    cases i with
    | zero => simp at hi; subst hi; exact ⟨E, v, hv, hd, hf, hok⟩
    | succ i =>
      obtain ⟨E, v, h1, h2⟩ := ih (i := i) (by simpa using hi)
      exact ⟨E, v, by rw [show k + (i + 1) = k + 1 + i from by omega]; exact h1, h2⟩
structure InvN (κ : Cx) (n B : Nat) (ops : Array Oper) (vals : List Value) (E0 : Env) (listed : Array Bool) (a : Act) (w : World) : Prop where
  st : St κ n B E0 a w
  lsize : listed.size = ops.size
  got : ∀ (i : Nat) (o : Oper) (t : Nat) (v : Value), ops[i]? = some o → listed.getD i false = true → o.dst = some t → vals[i]? = some v → a.tmps.getD t undef = v
theorem downs_get (h : downsN ops = true) {i : Nat} {o : Oper} (hi : ops[i]? = some o) : o.guard = none ∧ (∀ e ∈ o.after, Region.binds .any e = true → e.on < i) ∧ ∀ j q, ops[j]? = some q → j ≠ i → o.dst ≠ none → o.dst ≠ q.dst := by
  have hlt : i < ops.size := (Array.getElem?_eq_some_iff.1 hi).1
  have h1 := List.all_eq_true.1 h i (List.mem_range.2 hlt)
  simp only [hi, Bool.and_eq_true] at h1
  refine ⟨by simpa using h1.1.1, fun e he hb => ?_, fun j q hj hne hnn => ?_⟩
  · have h2 := Array.all_eq_true_iff_forall_mem.1 h1.1.2 e he
    simpa [hb] using h2
  · have h3 := List.all_eq_true.1 h1.2 j (List.mem_range.2 (Array.getElem?_eq_some_iff.1 hj).1)
    simp only [hj, Bool.or_eq_true, beq_iff_eq, bne_iff_ne, ne_eq] at h3
    rcases h3 with (h3 | h3) | h3
    · exact absurd h3 hne
    · exact absurd h3 hnn
    · exact h3
theorem wp_nops (hn0 : n ≤ vbase) (hfit : fits n ops = true) (hd : downsN ops = true) (hn : Nops P B ops vals E0 0 ops.toList) :
    ∀ (fuel : Nat) (listed : Array Bool) (a : Act) (w : World), unlisted ops listed ≤ fuel → InvN κ n B ops vals E0 listed a w → (∀ l a' , InvN κ n B ops vals E0 l a' w → (∀ i, i < ops.size → l.getD i false = true) → Q .normal a' w) → wpAnyIn (FR κ.rd) 0 P .any ops Q fuel listed a w := by
  have hmin : ∀ (listed : Array Bool), listed.size = ops.size → Region.ready .any ops listed = [] → ∀ i, i < ops.size → listed.getD i false = true := by
    intro listed hl hr i
    induction i using Nat.strongRecOn with
    | _ i ih =>
      intro hi
      rcases hb : listed.getD i false with _ | _
      · exfalso
        have hdi := (downs_get hd (Array.getElem?_eq_getElem hi)).2.1
        have : i ∈ Region.ready .any ops listed := by
          rw [mem_ready]
          refine ⟨?_, ops[i], Array.getElem?_eq_getElem hi, fun e he hbd => ih e.on (hdi e he hbd) (Nat.lt_trans (hdi e he hbd) hi)⟩
          have : i < listed.size := by rw [hl]; exact hi
          simp [this] at hb ⊢
          exact hb
        rw [hr] at this
        cases this
      · rfl
  intro fuel
  induction fuel with
  | zero =>
    intro listed a w hc I hQ'
    have hr : Region.ready .any ops listed = [] := by
      rcases hr : Region.ready .any ops listed with _ | ⟨i, l⟩
      · rfl
      · exfalso
        have hi : i ∈ Region.ready .any ops listed := by rw [hr]; exact List.mem_cons_self
        obtain ⟨hu, o, ho, _⟩ := mem_ready.1 hi
        have hpos : 0 < unlisted ops listed := List.countP_pos_iff.2 ⟨i, List.mem_range.2 (Array.getElem?_eq_some_iff.1 ho).1, by simp only [hu]; rfl⟩
        omega
    exact ⟨hr, hQ' listed a I (hmin listed I.lsize hr)⟩
  | succ fuel ih =>
    intro listed a w hc I hQ'
    refine ⟨fun hr => hQ' listed a I (hmin listed I.lsize hr), fun i hi => ?_⟩
    obtain ⟨hu, o, ho, hall⟩ := mem_ready.1 hi
    have hlt : i < ops.size := (Array.getElem?_eq_some_iff.1 ho).1
    obtain ⟨E, v, hv, hdo, hfr, hnd, hok⟩ := hn.nth (i := i) (o := o) (by simpa using ho)
    rw [Nat.zero_add] at hv
    obtain ⟨hg, _, hdis⟩ := downs_get hd ho
    have hst : ∀ {E : Env}, FromN ops vals E0 o E → ∀ t d, E.look t = some d → d.Of w (a.tmps.getD t undef) := fun {E} h => by
      induction h with
      | nil => intro t d hl; cases hl
      | all => exact I.st.of
      | @base s e E h _ ih =>
        intro t d hl
        by_cases hts : s = t
        · subst hts; rw [look_here] at hl; injection hl with hl; subst hl; exact I.st.of _ _ h
        · rw [look_past _ _ hts] at hl; exact ih t d hl
      | @op s v E j he hdj hvj _ ih =>
        intro t d hl
        by_cases hts : s = t
        · subst hts; rw [look_here] at hl; injection hl with hl; subst hl
          obtain ⟨e, he1, he2⟩ := Array.any_eq_true'.1 he
          simp only [Bool.and_eq_true, beq_iff_eq] at he2
          have hl := hall e he1 he2.1
          rw [he2.2] at hl
          cases hq : ops[j]? with
          | none => rw [hq] at hdj; cases hdj
          | some q =>
            rw [hq] at hdj
            exact I.got j q _ _ hq hl hdj hvj
        · rw [look_past _ _ hts] at hl; exact ih t d hl
    have hE : St κ n B E a w := ⟨I.st.base, I.st.defers, I.st.size, hst hfr⟩
    have hres := hok a.eval w I.st.base (hE.virt hn0) fun x _ e he => hE.at_ x _ he
    refine wpOpR_step ho fun K hK => ?_
    rw [if_pos (by simp [Region.wanted, hg])]
    refine opR hnd ?_
    unfold Oper.wp
    have hcl : unlisted ops (listed.setIfInBounds i true) ≤ fuel := by
      have : unlisted ops (listed.setIfInBounds i true) < unlisted ops listed := by
        refine countP_lt (x := i) (fun y hy => ?_) (List.mem_range.2 hlt) (by simp only [hu]; rfl) ?_
        · by_cases hyi : i = y
          · subst hyi
            have : i < listed.size := by rw [I.lsize]; exact hlt
            simp [this] at hy
          · rw [getD_set_ne true hyi] at hy; exact hy
        · have : i < listed.size := by rw [I.lsize]; exact hlt
          simp [this]
      omega
    have hset : ∀ j, (listed.setIfInBounds i true).getD j false = true → j = i ∨ listed.getD j false = true := fun j hj => by
      by_cases hji : i = j
      · exact .inl hji.symm
      · rw [getD_set_ne false hji] at hj; exact .inr hj
    rcases hres with ⟨hrun, hdn⟩ | ⟨hrun, hdn⟩
    · rw [hrun, Oper.upon_value]
      obtain ⟨t, ht, hE0⟩ := hdo.resolve_left hdn
      have htn : t < n := (fits_mem hfit (o := o) (by simpa using Array.mem_of_getElem? ho)).2 t ht
      rw [ht]
      refine hK _ _ (ih _ _ _ hcl ⟨⟨I.st.base, I.st.defers, by simp [Act.put, I.st.size], fun s d hs => ?_⟩, by simp [I.lsize], fun j q s u hj hl hds hvs => ?_⟩ hQ')
      · by_cases hts : t = s
        · subst hts
          rw [getD_put_here _ _ (by rw [I.st.size]; exact htn)]
          rcases hE0 with h | h
          · rw [h] at hs; cases hs
          · rw [h] at hs; injection hs with hs; subst hs; rfl
        · rw [getD_put_past _ _ hts]; exact I.st.of s d hs
      · rcases hset j hl with rfl | hl
        · rw [ho] at hj; injection hj with hj; subst hj
          rw [ht] at hds; injection hds with hds; subst hds
          rw [hv] at hvs; injection hvs with hvs; subst hvs
          rw [getD_put_here _ _ (by rw [I.st.size]; exact htn)]
        · by_cases hji : j = i
          · subst hji
            rw [ho] at hj; injection hj with hj; subst hj
            rw [ht] at hds; injection hds with hds; subst hds
            rw [hv] at hvs; injection hvs with hvs; subst hvs
            rw [getD_put_here _ _ (by rw [I.st.size]; exact htn)]
          · have hne : t ≠ s := fun he => hdis j q hj hji hdn (by rw [ht, hds, he])
            rw [getD_put_past _ _ hne]
            exact I.got j q s u hj hl hds hvs
    · rw [hrun, Oper.upon_skip]
      have hput : a.put o.dst undef = a := by rw [hdn]; rfl
      rw [hput]
      refine hK _ _ (ih _ _ _ hcl ⟨I.st, by simp [I.lsize], fun j q s u hj hl hds hvs => ?_⟩ hQ')
      rcases hset j hl with rfl | hl
      · rw [ho] at hj; injection hj with hj; subst hj
        rw [hdn] at hds; cases hds
      · exact I.got j q s u hj hl hds hvs
theorem A.regsN {w₀ : World} {y : Code} {E1 : Env} {id : Nat} (vals : List Value) (hm : P.follows .mixedOrders = true) (hfit : fits n ops = true) (hd : downsN ops = true) (hn : Nops P w₀.heap.size ops vals E0 0 ops.toList) (hf : FromE ops vals E0 E1) (h : A κ P w₀ n y E1 Q) : A κ P w₀ n (.seq (.region id ops true) y) E0 Q := A.seq fun a w hg hst => by
  have hdr : Below w₀.heap.size w w.drew := (Below.refl _ w).drew
  have hfin : ∀ l a', InvN κ n w₀.heap.size ops vals E0 l a' w.drew → (∀ i, i < ops.size → l.getD i false = true) → Exit.then (y.wpIn (FR κ.rd) 0 P Q) Q .normal a' w.drew := fun l a' I hall => by
    refine h a' w.drew (hg.trans hdr) ⟨I.st.base, I.st.defers, I.st.size, fun t d hl => ?_⟩
    have key : ∀ t d, E1.look t = some d → d.Of w.drew (a'.tmps.getD t undef) := by
      clear hl h
      induction hf with
      | nil => intro t d hl; cases hl
      | all => exact I.st.of
      | @base s e E h _ ih =>
        intro t d hl
        by_cases hts : s = t
        · subst hts; rw [look_here] at hl; injection hl with hl; subst hl; exact I.st.of _ _ h
        · rw [look_past _ _ hts] at hl; exact ih t d hl
      | @op s v E j hdj hvj _ ih =>
        intro t d hl
        by_cases hts : s = t
        · subst hts; rw [look_here] at hl; injection hl with hl; subst hl
          cases hq : ops[j]? with
          | none => rw [hq] at hdj; cases hdj
          | some q =>
            rw [hq] at hdj
            exact I.got j q _ _ hq (hall j (Array.getElem?_eq_some_iff.1 hq).1) hdj hvj
        · rw [look_past _ _ hts] at hl; exact ih t d hl
    exact key t d hl
  refine wpIn_region_any hm (wp_nops (Q := Exit.then (y.wpIn (FR κ.rd) 0 P Q) Q) (fits_base hfit) hfit hd hn _ _ _ _ ?_ ⟨hst.grow (Grow.refl w).drew, by simp, fun i o t v hi hl => ?_⟩ hfin)
  · refine Nat.le_trans List.countP_le_length ?_
    simp
  · simp [(Array.getElem?_eq_some_iff.1 hi).1] at hl
end
/-! ### Such operations -/
section
variable {P : Program} {B : Nat} {E : Env} {d : Tmp} {ty : TypeId} {pos : String} {after : Array Edge} {guard : Option (Nat × Bool)}
theorem nop_move {x : Operand} {v : Value} (hx : E.at x = some (.v v)) : NopOk P B ⟨some d, .move x, ty, pos, after, guard⟩ E v :=
  ⟨by nofun, fun ρ w _ _ hρ => .inl ⟨by simp [execOp, show ρ x = v from hρ x (by simp [Op.operands]) _ hx], by simp⟩⟩
theorem nop_assign {x : Operand} {v : Value} (hx : E.at x = some (.v v)) : NopOk P B ⟨some d, .assign x, ty, pos, after, guard⟩ E v :=
  ⟨by nofun, fun ρ w _ _ hρ => .inl ⟨by simp [execOp, show ρ x = v from hρ x (by simp [Op.operands]) _ hx], by simp⟩⟩
theorem nop_loadA {T : TypeId} {td : TypeDesc} {x : Operand} {b s : Nat} {e : TypeId} {xs : List Value} (hsl : vbase ≤ s) (ht : P.underlying T = some td) (hp : (match td with | .struct _ | .array _ _ => true | _ => false) = true) (hsz : SizeIs P T xs.length)
    (hx : E.at x = some (.v (.pointer (some ⟨b, 0, none⟩)))) (hblk : E.look s = some (blk b e xs)) : NopOk P B ⟨some d, .load T x, ty, pos, after, guard⟩ E (aggV xs) :=
  ⟨by nofun, fun ρ w _ hv hρ => .inl ⟨by
    have h1 : ρ x = _ := hρ x (by simp [Op.operands]) _ hx
    obtain ⟨_, hh⟩ := hv s _ hsl hblk
    simp [execOp, h1, Instr.loadAt, Instr.sureAddr, load_cell ht hp hsz hh], by simp⟩⟩
theorem nop_loadV {T : TypeId} {td : TypeDesc} {x : Operand} {b s : Nat} {e : TypeId} {v : Value} (hsl : vbase ≤ s) (ht : P.underlying T = some td) (hp : (match td with | .struct _ | .array _ _ => true | _ => false) = false)
    (hx : E.at x = some (.v (.pointer (some ⟨b, 0, none⟩)))) (hblk : E.look s = some (blk b e [v])) : NopOk P B ⟨some d, .load T x, ty, pos, after, guard⟩ E v :=
  ⟨by nofun, fun ρ w _ hv hρ => .inl ⟨by
    have h1 : ρ x = _ := hρ x (by simp [Op.operands]) _ hx
    obtain ⟨_, hh⟩ := hv s _ hsl hblk
    have hl₀ : (loadVar T ⟨b, 0, none⟩).run P w = .ok v w := by
      have hagg : (isAgg T).run P w = .ok false w := by
        unfold isAgg
        rw [Sem.run_bind, run_underlying ht w]
        cases td <;> simp_all
      have hc : w.cell? ⟨b, 0, none⟩ = some v := by simp [World.cell?, hh]
      simp [loadVar, Sem.run_bind, hagg, hc]
    simp [execOp, h1, Instr.loadAt, Instr.sureAddr, hl₀], by simp⟩⟩
theorem setRow_same {w : World} {b : Nat} {e : TypeId} {cs : Array Value} {fr : Nat × Nat} (h : w.heap[b]? = some (.cells cs e fr)) : w.setRow b cs = w := by
  have hh : (w.setRow b cs).heap = w.heap := by
    apply Array.ext_getElem?
    intro k
    by_cases hk : b = k
    · subst hk
      simp [World.setRow, Array.getElem?_modify, h]
    · simp [World.setRow, Array.getElem?_modify, hk]
  calc w.setRow b cs = { w with heap := (w.setRow b cs).heap } := rfl
    _ = w := by rw [hh]
theorem nop_storeA {T : TypeId} {p x : Operand} {b s : Nat} {e : TypeId} {ys : List Value} (hsl : vbase ≤ s) (hsz : SizeIs P T ys.length) (hp : E.at p = some (.v (.pointer (some ⟨b, 0, none⟩)))) (hx : E.at x = some (.v (aggV ys))) (h1 : ys.all (·.oneCell') = true)
    (hblk : E.look s = some (blk b e ys)) : NopOk P B ⟨none, .store T p x, ty, pos, after, guard⟩ E (.tuple #[]) :=
  ⟨by nofun, fun ρ w _ hv hρ => .inr ⟨by
    have hp' : ρ p = _ := hρ p (by simp [Op.operands]) _ hp
    have hx' : ρ x = _ := hρ x (by simp [Op.operands]) _ hx
    obtain ⟨_, hh⟩ := hv s _ hsl hblk
    have := run_storeVar_row (P := P) w b e T ys.toArray ys.toArray hh (by simpa [SizeIs] using hsz) (by simp) (by simpa using h1)
    rw [setRow_same hh] at this
    simp [execOp, hp', hx', Instr.storeAt, Instr.sureAddr, aggV, this], rfl⟩⟩
theorem nop_storeV {T : TypeId} {z : Value} {nb : Nat} {p x : Operand} {b s : Nat} {e : TypeId} {v : Value} (hsl : vbase ≤ s) (hs : InfoIs P T z nb) (hp : E.at p = some (.v (.pointer (some ⟨b, 0, none⟩)))) (hx : E.at x = some (.v v)) (h1 : v.oneCell' = true)
    (hblk : E.look s = some (blk b e [v])) : NopOk P B ⟨none, .store T p x, ty, pos, after, guard⟩ E (.tuple #[]) :=
  ⟨by nofun, fun ρ w _ hv hρ => .inr ⟨by
    have hp' : ρ p = _ := hρ p (by simp [Op.operands]) _ hp
    have hx' : ρ x = _ := hρ x (by simp [Op.operands]) _ hx
    obtain ⟨_, hh⟩ := hv s _ hsl hblk
    obtain ⟨i, hi, _, hsz, _⟩ := hs.get
    have hcu : v.cells = #[v] := by cases v <;> simp_all [Value.oneCell', Value.cells]
    have hcell : w.cell? ⟨b, 0, none⟩ = some v := by simp [World.cell?, hh]
    have hfr : w.frozen? ⟨b, 0, none⟩ = false := by simp [World.frozen?, hh]
    have hadd : (⟨b, 0, none⟩ : Addr).add 0 = ⟨b, 0, none⟩ := rfl
    have hset := setCell_eq_setRow w b 0 [v].toArray e (0, 0) v hh
    have hsame : w.setCell ⟨b, 0, none⟩ v = w := by rw [hset]; exact setRow_same (by simpa using hh)
    simp [execOp, hp', hx', Instr.storeAt, Instr.sureAddr, storeVar, hcu, sizeOf, typeInfo, hi, hsz, storeCells, hadd, run_store P w ⟨b, 0, none⟩ v .plain h1, hcell, hfr, hsame], rfl⟩⟩
end
end Go.Proofs.YthadcgkcgpinhaaGreatDoor
namespace Go.Proofs.YthadcgkcgpinhaaGreatDoor
open Go Go.RowKit
set_option linter.unusedVariables false
set_option maxRecDepth 20000
theorem flat33 : flat Tryz.prog 3 33 = some (List.replicate 32 .u8) := by kernel_rfl
theorem flat34 : flat Tryz.prog 3 34 = some (List.replicate 32 .u8) := by kernel_rfl

theorem zero33 : ZeroIs Tryz.prog 33 (List.replicate 32 (.int .u8 0)) := by unfold ZeroIs; kernel_rfl
theorem size33 : SizeIs Tryz.prog 33 32 := by unfold SizeIs; kernel_rfl
theorem checkIndex_neg (i : Int) (h : i < 0) : Fn Tryz.prog 18 [.v (.int .i64 i)] (.v (.int .i64 1)) := by
 refine Fn.of Tryz.func18 rfl (by kernel_rfl) Tryz.ntmps18 (by simp) (fun w => [(0, .v (.int .i64 i))]) (fun w => (Start.v rfl Start.nil)) fun w₀ => ?_
 refine GS ?_
 refine TL ?_
 refine RA rfl ?_
 refine RN ?_
 refine A.seq ?_
 refine GS ?_
 refine TL ?_
 refine RM rfl ?_
 refine RBS rfl rfl rfl (.bool true) (by simp [h]) ?_
 refine RM rfl ?_
 refine RK ?_
 refine RK ?_
 refine RP rfl rfl ?_
 refine RN ?_
 refine A.yes rfl ?_
 refine GS ?_
 refine TL ?_
 refine RA rfl ?_
 refine RN ?_
 refine A.ret ?_
 refine End.ret_then ?_
 exact End.ret1 rfl rfl (by first | exact Le.refl _ | exact Le.old _ _)
theorem checkIndex_big (i : Int) (h0 : 0 ≤ i) (h : 4096 ≤ i) : Fn Tryz.prog 18 [.v (.int .i64 i)] (.v (.int .i64 1)) := by
 refine Fn.of Tryz.func18 rfl (by kernel_rfl) Tryz.ntmps18 (by simp) (fun w => [(0, .v (.int .i64 i))]) (fun w => (Start.v rfl Start.nil)) fun w₀ => ?_
 refine GS ?_
 refine TL ?_
 refine RA rfl ?_
 refine RN ?_
 refine A.seq ?_
 refine GS ?_
 refine TL ?_
 refine RM rfl ?_
 refine RBS rfl rfl rfl (.bool false) (by simp; omega) ?_
 refine RM rfl ?_
 refine RQ (ok_move rfl) ?_
 refine RQ (ok_bin rfl rfl rfl) ?_; refine RZ (.bool true) (by simp; omega) ?_
 refine RP rfl rfl ?_
 refine RN ?_
 refine A.yes rfl ?_
 refine GS ?_
 refine TL ?_
 refine RA rfl ?_
 refine RN ?_
 refine A.ret ?_
 refine End.ret_then ?_
 exact End.ret1 rfl rfl (by first | exact Le.refl _ | exact Le.old _ _)
theorem checkIndex_ok (i : Int) (h0 : 0 ≤ i) (h : i < 4096) : Fn Tryz.prog 18 [.v (.int .i64 i)] (.v (.int .i64 0)) := by
 refine Fn.of Tryz.func18 rfl (by kernel_rfl) Tryz.ntmps18 (by simp) (fun w => [(0, .v (.int .i64 i))]) (fun w => (Start.v rfl Start.nil)) fun w₀ => ?_
 refine GS ?_
 refine TL ?_
 refine RA rfl ?_
 refine RN ?_
 refine A.seq ?_
 refine GS ?_
 refine TL ?_
 refine RM rfl ?_
 refine RBS rfl rfl rfl (.bool false) (by simp; omega) ?_
 refine RM rfl ?_
 refine RQ (ok_move rfl) ?_
 refine RQ (ok_bin rfl rfl rfl) ?_; refine RZ (.bool false) (by simp; omega) ?_
 refine RP rfl rfl ?_
 refine RN ?_
 refine A.no rfl ?_
 refine A.skip ?_
 refine EN ?_
 refine GS ?_
 refine TL ?_
 refine RA rfl ?_
 refine RN ?_
 refine A.ret ?_
 exact End.ret1 rfl rfl (by first | exact Le.refl _ | exact Le.old _ _)
theorem checkIndex_no (i : Int) (h : i < 0 ∨ 4096 ≤ i) : Fn Tryz.prog 18 [.v (.int .i64 i)] (.v (.int .i64 1)) := by
 by_cases h0 : i < 0
 ·exact checkIndex_neg i h0
 ·exact checkIndex_big i (by omega) (by omega)
theorem indexOf_fn (l : List UInt8) (h : 4 ≤ l.length) : Fn Tryz.prog 35 [byt l] (.v (nI ((num (l.take 4))))) := by
 have h4 : (l.take 4).length = 4 := by simp; omega
 have hn := num_lt (l.take 4)
 rw [h4] at hn
 refine Fn.of Tryz.func35 rfl (by kernel_rfl) Tryz.ntmps35 (by simp) (fun w => [(0, old w.heap.size (byt l))]) (fun w => (Start.old rfl Start.nil)) fun w₀ => ?_
 refine GS ?_
 refine TL ?_
 refine RA rfl ?_
 refine RN ?_
 refine GS ?_
 refine TL ?_
 refine RM rfl ?_
 refine RS ((ok_slice (ds := l.map byteD) 0 4 Tryz.underlying49 info5 rfl (Le.old _ _) (.inr ⟨rfl, rfl⟩) (.inl ⟨_, _, rfl, rfl⟩) (by omega) (by simp; omega)).le (d' := byt (l.take 4)) (Le.eq (by rw [List.drop_zero, ← List.map_take]; rfl))) ?_
 refine RS (ok_call (Get32_fn (l.take 4)) (A1 rfl)) ?_
 refine RM rfl ?_
 refine RS (ok_extract rfl rfl) ?_; refine RZ (nW ((num (l.take 4)))) (by rw [getV, if_pos h4]) ?_
 refine RS (ok_extract rfl rfl) ?_
 refine RA rfl ?_
 refine RA rfl ?_
 refine RN ?_
 refine GS ?_
 refine TL ?_
 refine RM rfl ?_
 refine RS (ok_conv Tryz.underlying27 Tryz.underlying3 rfl) ?_; refine RZ (nI ((num (l.take 4)))) (by rw [wrapN_i64 (by omega)]) ?_
 refine RA rfl ?_
 refine RN ?_
 refine A.ret ?_
 exact End.ret1 rfl rfl (by first | exact Le.refl _ | exact Le.old _ _)
theorem checkMessage_short (l : List UInt8) (h : l.length < 48) : Fn Tryz.prog 33 [byt l] (.v (.int .i64 6)) := by
 refine Fn.of Tryz.func33 rfl (by kernel_rfl) Tryz.ntmps33 (by simp) (fun w => [(0, old w.heap.size (byt l))]) (fun w => (Start.old rfl Start.nil)) fun w₀ => ?_
 refine GS ?_
 refine TL ?_
 refine RA rfl ?_
 refine RN ?_
 refine A.seq ?_
 refine A.block ?_
 refine GS ?_
 refine TL ?_
 refine RM rfl ?_
 refine RS (ok_lenB Tryz.underlying49 rfl LA) ?_
 refine RBS rfl rfl rfl (.bool true) (by simp; omega) ?_
 refine RA rfl ?_
 refine RN ?_
 refine A.yes rfl ?_
 refine GS ?_
 refine TL ?_
 refine RA rfl ?_
 refine RN ?_
 refine A.ret ?_
 refine End.ret_block ?_
 refine End.ret_then ?_
 exact End.ret1 rfl rfl (by first | exact Le.refl _ | exact Le.old _ _)
theorem checkMessage_long (l : List UInt8) (h : 48 < l.length) : Fn Tryz.prog 33 [byt l] (.v (.int .i64 5)) := by
 refine Fn.of Tryz.func33 rfl (by kernel_rfl) Tryz.ntmps33 (by simp) (fun w => [(0, old w.heap.size (byt l))]) (fun w => (Start.old rfl Start.nil)) fun w₀ => ?_
 refine GS ?_
 refine TL ?_
 refine RA rfl ?_
 refine RN ?_
 refine A.seq ?_
 refine A.block ?_
 refine GS ?_
 refine TL ?_
 refine RM rfl ?_
 refine RS (ok_lenB Tryz.underlying49 rfl LA) ?_
 refine RBS rfl rfl rfl (.bool false) (by simp; omega) ?_
 refine RA rfl ?_
 refine RN ?_
 refine A.no rfl ?_
 refine GS ?_
 refine TL ?_
 refine RM rfl ?_
 refine RS (ok_lenB Tryz.underlying49 rfl LA) ?_
 refine RBS rfl rfl rfl (.bool true) (by simp; omega) ?_
 refine RA rfl ?_
 refine RN ?_
 refine A.yes rfl ?_
 refine GS ?_
 refine TL ?_
 refine RA rfl ?_
 refine RN ?_
 refine A.ret ?_
 refine End.ret_block ?_
 refine End.ret_then ?_
 exact End.ret1 rfl rfl (by first | exact Le.refl _ | exact Le.old _ _)
theorem checkMessage_bad (l : List UInt8) (h : l.length = 48) (hn : 4096 ≤ (num (l.take 4))) : Fn Tryz.prog 33 [byt l] (.v (.int .i64 1)) := by
 refine Fn.of Tryz.func33 rfl (by kernel_rfl) Tryz.ntmps33 (by simp) (fun w => [(0, old w.heap.size (byt l))]) (fun w => (Start.old rfl Start.nil)) fun w₀ => ?_
 refine GS ?_
 refine TL ?_
 refine RA rfl ?_
 refine RN ?_
 refine A.seq ?_
 refine A.block ?_
 refine GS ?_
 refine TL ?_
 refine RM rfl ?_
 refine RS (ok_lenB Tryz.underlying49 rfl LA) ?_
 refine RBS rfl rfl rfl (.bool false) (by simp; omega) ?_
 refine RA rfl ?_
 refine RN ?_
 refine A.no rfl ?_
 refine GS ?_
 refine TL ?_
 refine RM rfl ?_
 refine RS (ok_lenB Tryz.underlying49 rfl LA) ?_
 refine RBS rfl rfl rfl (.bool false) (by simp; omega) ?_
 refine RA rfl ?_
 refine RN ?_
 refine A.no rfl ?_
 refine A.skip ?_
 refine End.normal_block ?_
 refine EN ?_
 refine GS ?_
 refine TL ?_
 refine RM rfl ?_
 refine RS (ok_call (indexOf_fn l (by omega)) (Args.cons rfl LA Args.nil)) ?_
 refine RS (ok_call (checkIndex_big (((num (l.take 4)) : Nat) : Int) (by omega) (by omega)) (A1 rfl)) ?_
 refine RA rfl ?_
 refine RN ?_
 refine A.ret ?_
 exact End.ret1 rfl rfl (by first | exact Le.refl _ | exact Le.old _ _)
theorem checkMessage_ok (l : List UInt8) (h : l.length = 48) (hn : (num (l.take 4)) < 4096) : Fn Tryz.prog 33 [byt l] (.v (.int .i64 0)) := by
 refine Fn.of Tryz.func33 rfl (by kernel_rfl) Tryz.ntmps33 (by simp) (fun w => [(0, old w.heap.size (byt l))]) (fun w => (Start.old rfl Start.nil)) fun w₀ => ?_
 refine GS ?_
 refine TL ?_
 refine RA rfl ?_
 refine RN ?_
 refine A.seq ?_
 refine A.block ?_
 refine GS ?_
 refine TL ?_
 refine RM rfl ?_
 refine RS (ok_lenB Tryz.underlying49 rfl LA) ?_
 refine RBS rfl rfl rfl (.bool false) (by simp; omega) ?_
 refine RA rfl ?_
 refine RN ?_
 refine A.no rfl ?_
 refine GS ?_
 refine TL ?_
 refine RM rfl ?_
 refine RS (ok_lenB Tryz.underlying49 rfl LA) ?_
 refine RBS rfl rfl rfl (.bool false) (by simp; omega) ?_
 refine RA rfl ?_
 refine RN ?_
 refine A.no rfl ?_
 refine A.skip ?_
 refine End.normal_block ?_
 refine EN ?_
 refine GS ?_
 refine TL ?_
 refine RM rfl ?_
 refine RS (ok_call (indexOf_fn l (by omega)) (Args.cons rfl LA Args.nil)) ?_
 refine RS (ok_call (checkIndex_ok (((num (l.take 4)) : Nat) : Int) (by omega) (by omega)) (A1 rfl)) ?_
 refine RA rfl ?_
 refine RN ?_
 refine A.ret ?_
 exact End.ret1 rfl rfl (by first | exact Le.refl _ | exact Le.old _ _)
theorem messageOf_fn (i : Nat) (s c : Nat) (hs : s < 4294967296) (hc : c < 18446744073709551616) (d : List UInt8) (hd : d.length = 32) (hi : i < 4096) : Fn Tryz.prog 39 [.v (nI i), .v (aggV ([nW s, nQ c])), .v (aggV (d.map byteV))] (bytes (msgL i s c d) 48) := by
 refine Fn.of Tryz.func39 rfl (by kernel_rfl) Tryz.ntmps39 (by simp) (fun w => [(0, .v (nI i)), (1, .v (aggV ([nW s, nQ c]))), (2, .v (aggV (d.map byteV)))]) (fun w => (Start.v rfl (Start.v rfl (Start.v rfl Start.nil)))) fun w₀ => ?_
 refine GS ?_
 refine TN 0 ?_
 refine RN ?_
 refine ⟨_, _, eff_box (n := 15) (d := 4) (k := 1000004) rfl (by decide), fun b4 hb4 => ?_⟩
 have hBb4 := hb4.1
 refine TN 1 ?_
 refine RN ?_
 refine ⟨_, _, eff_box (n := 15) (d := 5) (k := 1000005) rfl (by decide), fun b5 hb5 => ?_⟩
 have hBb5 := hb5.1
 refine TL ?_
 refine RA rfl ?_
 refine RN ?_
 refine GD ?_
 refine TL ?_
 refine RM rfl ?_
 refine RS (ok_conv Tryz.underlying3 Tryz.underlying27 rfl) ?_; refine RZ (nW i) (by rw [wrapN_u32 (by omega)]) ?_
 refine RS (ok_call ((Put32_fn ((i : Nat) : Int) (by omega) (by omega)).le (d' := bytes (be 4 i) 4) (Le.refl _)) (A1 rfl)) ?_
 refine RS (ok_loadA (s := 1000004) (by decide) Tryz.underlying30 rfl (size30.of (rfl)) rfl rfl) ?_
 refine RS (ok_call (Put_fn s c hs hc) (A1 rfl)) ?_
 refine RS ((ok_sliceA (s := 1000005) 0 32 (by decide) Tryz.underlying33 info5 rfl rfl (.inr ⟨rfl, rfl⟩) (.inr ⟨rfl, rfl⟩) (by omega) (by omega) (by rw [List.length_map, hd]) (by decide)).le (d' := byt d) (byt_all hd)) ?_
 refine RS (ok_build [bytes (be 4 i) 4, bytes (nonceL s c) 12, byt d] Tryz.underlying102 info49 rfl (by decide) (by decide) rfl ⟨rfl, rfl, rfl, rfl, rfl, rfl, trivial⟩ (fun d' hd' w x h => by simp only [List.mem_cons, List.not_mem_nil, or_false] at hd'; rcases hd' with rfl | rfl | rfl <;> first | exact list_one h | exact lst_one h)) ?_
 refine RS ((ok_call (Join_fn [be 4 i, nonceL s c, d] (by simp) (by simp [be_length, nonceL_length, hd])) (Args.cons rfl (list_lst3 (le_byt _ 4) (le_byt _ 12) (Le.refl _)) Args.nil)).le (d' := bytes (msgL i s c d) 48) (Le.eq (by rw [msg_flat, msgL_length hd]))) ?_
 refine RA rfl ?_
 refine RN ?_
 refine A.ret ?_
 exact End.ret1 rfl rfl (by first | exact Le.refl _ | exact Le.old _ _)
theorem messageOf_fnB (i : Nat) (s c : Nat) (hs : s < 4294967296) (hc : c < 18446744073709551616) (d : List UInt8) (hd : d.length = 32) (hi : i < 4096) : FnB Tryz.prog 39 [.v (nI i), .v (aggV ([nW s, nQ c])), .v (aggV (d.map byteV))] (fun B => fresh B 5 ((msgL i s c d).map byteV) 48) := by
 refine FnB.of Tryz.func39 rfl (by kernel_rfl) Tryz.ntmps39 (by simp) (fun w => [(0, .v (nI i)), (1, .v (aggV ([nW s, nQ c]))), (2, .v (aggV (d.map byteV)))]) (fun w => (Start.v rfl (Start.v rfl (Start.v rfl Start.nil)))) fun w₀ => ?_
 refine GS ?_
 refine TN 0 ?_
 refine RN ?_
 refine ⟨_, _, eff_box (n := 15) (d := 4) (k := 1000004) rfl (by decide), fun b4 hb4 => ?_⟩
 have hBb4 := hb4.1
 refine TN 1 ?_
 refine RN ?_
 refine ⟨_, _, eff_box (n := 15) (d := 5) (k := 1000005) rfl (by decide), fun b5 hb5 => ?_⟩
 have hBb5 := hb5.1
 refine TL ?_
 refine RA rfl ?_
 refine RN ?_
 refine GD ?_
 refine TL ?_
 refine RM rfl ?_
 refine RS (ok_conv Tryz.underlying3 Tryz.underlying27 rfl) ?_; refine RZ (nW i) (by rw [wrapN_u32 (by omega)]) ?_
 refine RS (ok_call ((Put32_fn ((i : Nat) : Int) (by omega) (by omega)).le (d' := bytes (be 4 i) 4) (Le.refl _)) (A1 rfl)) ?_
 refine RS (ok_loadA (s := 1000004) (by decide) Tryz.underlying30 rfl (size30.of (rfl)) rfl rfl) ?_
 refine RS (ok_call (Put_fn s c hs hc) (A1 rfl)) ?_
 refine RS ((ok_sliceA (s := 1000005) 0 32 (by decide) Tryz.underlying33 info5 rfl rfl (.inr ⟨rfl, rfl⟩) (.inr ⟨rfl, rfl⟩) (by omega) (by omega) (by rw [List.length_map, hd]) (by decide)).le (d' := byt d) (byt_all hd)) ?_
 refine RS (ok_build [bytes (be 4 i) 4, bytes (nonceL s c) 12, byt d] Tryz.underlying102 info49 rfl (by decide) (by decide) rfl ⟨rfl, rfl, rfl, rfl, rfl, rfl, trivial⟩ (fun d' hd' w x h => by simp only [List.mem_cons, List.not_mem_nil, or_false] at hd'; rcases hd' with rfl | rfl | rfl <;> first | exact list_one h | exact lst_one h)) ?_
 refine RS ((ok_callB (Join_fnB [be 4 i, nonceL s c, d] (by simp) (by simp [be_length, nonceL_length, hd])) (fun _ _ => fresh_mono _ _) (Args.cons rfl (list_lst3 (le_byt _ 4) (le_byt _ 12) (Le.refl _)) Args.nil)).le (d' := fresh w₀.heap.size 5 ((msgL i s c d).map byteV) 48) (Le.eq (by rw [msg_flat, msgL_length hd]))) ?_
 refine RA rfl ?_
 refine RN ?_
 refine A.ret ?_
 exact End.ret1 rfl rfl (by first | exact Le.refl _ | exact Le.old _ _)
set_option maxHeartbeats 1000000 in
theorem tagOf_fn (f : Nat → Nat) (mk : List UInt8) (hf : By f) (hmk : mk.length = 32) (i : Nat) (s c : Nat) (hs : s < 4294967296) (hc : c < 18446744073709551616) (d : List UInt8) (hd : d.length = 32) (hi : i < 4096) : FnM Tryz.prog 21 tabs [.v (aggV ((rowV 16 f ++ mk.map byteV))), .v (nI i), .v (aggV ([nW s, nQ c])), .v (aggV (d.map byteV))] (.v (aggV ((hmac mk (msgL i s c d)).map byteV))) := by
 refine FnM.of Tryz.func21 rfl (by kernel_rfl) Tryz.ntmps21 (by simp) (by decide) (fun w => [(0, .v (aggV ((rowV 16 f ++ mk.map byteV)))), (1, .v (nI i)), (2, .v (aggV ([nW s, nQ c]))), (3, .v (aggV (d.map byteV))), (1900000, tab 0 (H8.list.map u32V)), (1900001, tab 1 (K64.map u32V))]) (fun w => (StartM.v rfl (StartM.v rfl (StartM.v rfl (StartM.v rfl (StartM.m (by simp [tabs]) (by decide) (StartM.m (by simp [tabs]) (by decide) StartM.nil))))))) fun w₀ hM => ?_
 have htab := tabs_hi hM
 refine GS ?_
 refine TN 0 ?_
 refine RN ?_
 refine ⟨_, _, eff_box (n := 17) (d := 4) (k := 1000004) rfl (by decide), fun b4 hb4 => ?_⟩
 have hBb4 := hb4.1
 refine TN 1 ?_
 refine RN ?_
 refine ⟨_, _, eff_box (n := 17) (d := 6) (k := 1000006) rfl (by decide), fun b6 hb6 => ?_⟩
 have hBb6 := hb6.1
 refine TN 2 ?_
 refine RN ?_
 refine ⟨_, _, eff_box (n := 17) (d := 7) (k := 1000007) rfl (by decide), fun b7 hb7 => ?_⟩
 have hBb7 := hb7.1
 refine TN 3 ?_
 refine RN ?_
 refine ⟨_, _, eff_alloc (n := 17) (d := 8) (k := 1000008) zero34 (by decide), fun b8 hb8 => ?_⟩
 have hBb8 := hb8.1
 refine TL ?_
 refine RN ?_
 refine GD ?_
 refine TD 8 ?_
 refine RS (ok_field field26_1 (by decide) rfl) ?_
 refine RS (OpOk.fact (ok_sliceX (l := 0) (h := 32) (m := 32) Tryz.underlying24 info5 rfl (.inr ⟨rfl, rfl⟩) (.inr ⟨rfl, rfl, rfl⟩) (.inr ⟨rfl, rfl⟩) (by decide) (by decide) (by decide) (.inl (by decide))) (d := byt mk) (s := 1000004) (by decide) rfl (slice_byt mk hmk.symm (by decide) (by simp only [maxLen]; omega) (KM_mac f hmk))) ?_
 refine RM rfl ?_
 refine RS (ok_loadA (s := 1000006) (by decide) Tryz.underlying30 rfl (size30.of (rfl)) rfl rfl) ?_
 refine RS (ok_loadA (s := 1000007) (by decide) Tryz.underlying33 rfl (size33.of (by rw [List.length_map, hd])) rfl rfl) ?_
 refine RS (ok_call (messageOf_fn i s c hs hc d hd hi) (A3 rfl rfl rfl)) ?_
 refine RS (ok_build [bytes (msgL i s c d) 48] Tryz.underlying102 info49 rfl (by decide) (by decide) rfl ⟨rfl, rfl, trivial⟩ (fun d' hd' w x h => by simp only [List.mem_cons, List.not_mem_nil, or_false] at hd'; subst hd'; exact list_one h)) ?_
 refine RS (ok_callM (macOf_fn mk [(msgL i s c d)] (msgL i s c d) (by simp) (by omega) (by simp) (by rw [msgL_length hd]; decide)) (Sub.cons rfl (Sub.cons rfl KN)) tabs_v (Args.cons rfl (Le.refl _) (Args.cons rfl (list_lst1 (le_byt _ 48)) Args.nil))) ?_
 refine RN ?_
 refine ⟨_, eff_storeA (n := 17) (s := 1000008) (size34.of (by rw [List.length_map, hmac_length])) rfl rfl (all_bytes _) hBb8 rfl (by simp [hmac_length]) (LV 8 rfl (LT 1000004 rfl (LT 1000006 rfl (LT 1000007 rfl (LeftS.cons (t := 1900000) rfl (Surv.tab (by omega)) (LeftS.cons (t := 1900001) rfl (Surv.tab (by omega)) LN)))))), ?_⟩
 refine TL ?_
 refine RN ?_
 refine A.ret ?_
 exact End.cell1 (s := 1000008) rfl Tryz.underlying34 rfl (size34.of (by rw [List.length_map, hmac_length])) rfl rfl (Le.refl _)
set_option maxHeartbeats 1000000 in
theorem combined_fn (f : Nat → Nat) (mk : List UInt8) (hf : By f) (hmk : mk.length = 32) (s c : Nat) (hs : s < 4294967296) (hc : c < 18446744073709551616) (d : List UInt8) (hd : d.length = 32)  : Fn Tryz.prog 20 [.v (aggV ((rowV 16 f ++ mk.map byteV))), .v (aggV ([nW s, nQ c])), .v (aggV (d.map byteV))] (.v (aggV ((xorK f s c 0 d).map byteV))) := by
 refine Fn.of Tryz.func20 rfl (by kernel_rfl) Tryz.ntmps20 (by simp) (fun w => [(0, .v (aggV ((rowV 16 f ++ mk.map byteV)))), (1, .v (aggV ([nW s, nQ c]))), (2, .v (aggV (d.map byteV)))]) (fun w => (Start.v rfl (Start.v rfl (Start.v rfl Start.nil)))) fun w₀ => ?_
 refine GS ?_
 refine TN 0 ?_
 refine RN ?_
 refine ⟨_, _, eff_box (n := 20) (d := 3) (k := 1000003) rfl (by decide), fun b3 hb3 => ?_⟩
 have hBb3 := hb3.1
 refine TN 1 ?_
 refine RN ?_
 refine ⟨_, _, eff_box (n := 20) (d := 4) (k := 1000004) rfl (by decide), fun b4 hb4 => ?_⟩
 have hBb4 := hb4.1
 refine TN 2 ?_
 refine RN ?_
 refine ⟨_, _, eff_box (n := 20) (d := 5) (k := 1000005) rfl (by decide), fun b5 hb5 => ?_⟩
 have hBb5 := hb5.1
 refine TN 3 ?_
 refine RN ?_
 refine ⟨_, _, eff_alloc (n := 20) (d := 6) (k := 1000006) zero33 (by decide), fun b6 hb6 => ?_⟩
 have hBb6 := hb6.1
 have hlt_b5_b6 : b5 < b6 := hb6.2 1000005 _ _ _ rfl
 refine TL ?_
 refine RN ?_
 refine GD ?_
 refine TL ?_
 refine RS (ok_field field26_0 (by decide) rfl) ?_
 refine RS (ok_loadP (s := 1000003) (by decide) Tryz.underlying22 rfl size22 rfl rfl (by simp [rowV_length, hmk]) (K_key f _)) ?_
 refine RS (ok_loadA (s := 1000004) (by decide) Tryz.underlying30 rfl (size30.of (rfl)) rfl rfl) ?_
 refine RS ((ok_sliceA (s := 1000005) 0 32 (by decide) Tryz.underlying33 info5 rfl rfl (.inr ⟨rfl, rfl⟩) (.inr ⟨rfl, rfl⟩) (by omega) (by omega) (by rw [List.length_map, hd]) (by decide)).le (d' := byt d) (byt_all hd)) ?_
 refine RS (ok_call (Xor7_fn f hf s c 0 d hs hc (by omega)) (Args.cons rfl (Le.refl _) (A3 rfl rfl rfl))) ?_
 refine RM rfl ?_
 refine RS (ok_extract rfl rfl) ?_
 refine RS (ok_extract rfl rfl) ?_
 refine RA rfl ?_
 refine RA rfl ?_
 refine RN ?_
 refine GS ?_
 refine TF 3 ?_
 refine RM rfl ?_
 refine RS (ok_arrayB (xorK f s c 0 d) (by rw [xorK_length, hd]; exact Tryz.underlying33) rfl (le_byt _ _) (by rw [xorK_length, hd]; decide)) ?_
 refine RS (ok_loadB Tryz.underlying33 rfl (size33.of (by rw [xorK_length, hd])) rfl) ?_
 refine RN ?_
 refine ⟨_, eff_storeA (n := 20) (s := 1000006) (size33.of (by rw [List.length_map, xorK_length, hd])) rfl rfl (all_bytes _) hBb6 rfl (by simp [xorK_length, hd]) (LV 6 rfl (LT 1000003 rfl (LT 1000004 rfl (LB 1000005 rfl LN)))), ?_⟩
 refine TL ?_
 refine RN ?_
 refine A.ret ?_
 exact End.cell1 (s := 1000006) rfl Tryz.underlying33 rfl (size33.of (by rw [List.length_map, xorK_length, hd])) rfl rfl (Le.refl _)
theorem checkTag_bad (f : Nat → Nat) (mk : List UInt8) (hf : By f) (hmk : mk.length = 32) (i : Int) (h : i < 0 ∨ 4096 ≤ i) (s c : Nat) (hs : s < 4294967296) (hc : c < 18446744073709551616) (d : List UInt8) (hd : d.length = 32) (tg : List UInt8) (htg : tg.length = 32)  : FnM Tryz.prog 22 tabs [.v (aggV ((rowV 16 f ++ mk.map byteV))), .v (.int .i64 i), .v (aggV ([nW s, nQ c])), .v (aggV (d.map byteV)), .v (aggV (tg.map byteV))] (.v (.int .i64 1)) := by
 refine FnM.of Tryz.func22 rfl (by kernel_rfl) Tryz.ntmps22 (by simp) (by decide) (fun w => [(0, .v (aggV ((rowV 16 f ++ mk.map byteV)))), (1, .v (.int .i64 i)), (2, .v (aggV ([nW s, nQ c]))), (3, .v (aggV (d.map byteV))), (4, .v (aggV (tg.map byteV))), (1900000, tab 0 (H8.list.map u32V)), (1900001, tab 1 (K64.map u32V))]) (fun w => (StartM.v rfl (StartM.v rfl (StartM.v rfl (StartM.v rfl (StartM.v rfl (StartM.m (by simp [tabs]) (by decide) (StartM.m (by simp [tabs]) (by decide) StartM.nil)))))))) fun w₀ hM => ?_
 have htab := tabs_hi hM
 refine GS ?_
 refine TN 0 ?_
 refine RN ?_
 refine ⟨_, _, eff_box (n := 24) (d := 5) (k := 1000005) rfl (by decide), fun b5 hb5 => ?_⟩
 have hBb5 := hb5.1
 refine TN 1 ?_
 refine RN ?_
 refine ⟨_, _, eff_box (n := 24) (d := 7) (k := 1000007) rfl (by decide), fun b7 hb7 => ?_⟩
 have hBb7 := hb7.1
 refine TN 2 ?_
 refine RN ?_
 refine ⟨_, _, eff_box (n := 24) (d := 8) (k := 1000008) rfl (by decide), fun b8 hb8 => ?_⟩
 have hBb8 := hb8.1
 refine TN 3 ?_
 refine RN ?_
 refine ⟨_, _, eff_box (n := 24) (d := 9) (k := 1000009) rfl (by decide), fun b9 hb9 => ?_⟩
 have hBb9 := hb9.1
 refine TL ?_
 refine RA rfl ?_
 refine RN ?_
 refine A.seq ?_
 refine GS ?_
 refine TL ?_
 refine RM rfl ?_
 refine RS (ok_call (checkIndex_no i h) (A1 rfl)) ?_
 refine RA rfl ?_
 refine RN ?_
 refine GS ?_
 refine TL ?_
 refine RM rfl ?_
 refine RBS rfl rfl rfl (.bool true) (by rfl) ?_
 refine RN ?_
 refine A.yes rfl ?_
 refine GS ?_
 refine TL ?_
 refine RM rfl ?_
 refine RA rfl ?_
 refine RN ?_
 refine A.ret ?_
 refine End.ret_then ?_
 exact End.ret1 rfl rfl (by first | exact Le.refl _ | exact Le.old _ _)
theorem checkTag_int (f : Nat → Nat) (mk : List UInt8) (hf : By f) (hmk : mk.length = 32) (i : Nat) (s c : Nat) (hs : s < 4294967296) (hc : c < 18446744073709551616) (d : List UInt8) (hd : d.length = 32) (hi : i < 4096)(tg : List UInt8) (htg : tg.length = 32) (h : tg ≠ (hmac mk (msgL i s c d))) : FnM Tryz.prog 22 tabs [.v (aggV ((rowV 16 f ++ mk.map byteV))), .v (nI i), .v (aggV ([nW s, nQ c])), .v (aggV (d.map byteV)), .v (aggV (tg.map byteV))] (.v (.int .i64 9)) := by
 refine FnM.of Tryz.func22 rfl (by kernel_rfl) Tryz.ntmps22 (by simp) (by decide) (fun w => [(0, .v (aggV ((rowV 16 f ++ mk.map byteV)))), (1, .v (nI i)), (2, .v (aggV ([nW s, nQ c]))), (3, .v (aggV (d.map byteV))), (4, .v (aggV (tg.map byteV))), (1900000, tab 0 (H8.list.map u32V)), (1900001, tab 1 (K64.map u32V))]) (fun w => (StartM.v rfl (StartM.v rfl (StartM.v rfl (StartM.v rfl (StartM.v rfl (StartM.m (by simp [tabs]) (by decide) (StartM.m (by simp [tabs]) (by decide) StartM.nil)))))))) fun w₀ hM => ?_
 have htab := tabs_hi hM
 refine GS ?_
 refine TN 0 ?_
 refine RN ?_
 refine ⟨_, _, eff_box (n := 24) (d := 5) (k := 1000005) rfl (by decide), fun b5 hb5 => ?_⟩
 have hBb5 := hb5.1
 refine TN 1 ?_
 refine RN ?_
 refine ⟨_, _, eff_box (n := 24) (d := 7) (k := 1000007) rfl (by decide), fun b7 hb7 => ?_⟩
 have hBb7 := hb7.1
 refine TN 2 ?_
 refine RN ?_
 refine ⟨_, _, eff_box (n := 24) (d := 8) (k := 1000008) rfl (by decide), fun b8 hb8 => ?_⟩
 have hBb8 := hb8.1
 refine TN 3 ?_
 refine RN ?_
 refine ⟨_, _, eff_box (n := 24) (d := 9) (k := 1000009) rfl (by decide), fun b9 hb9 => ?_⟩
 have hBb9 := hb9.1
 refine TL ?_
 refine RA rfl ?_
 refine RN ?_
 refine A.seq ?_
 refine GS ?_
 refine TL ?_
 refine RM rfl ?_
 refine RS (ok_call (checkIndex_ok (i : Int) (by omega) (by omega)) (A1 rfl)) ?_
 refine RA rfl ?_
 refine RN ?_
 refine GS ?_
 refine TL ?_
 refine RM rfl ?_
 refine RBS rfl rfl rfl (.bool false) (by rfl) ?_
 refine RN ?_
 refine A.no rfl ?_
 refine A.skip ?_
 refine EN ?_
 refine A.seq ?_
 refine GD ?_
 refine TL ?_
 refine RS (ok_loadA (s := 1000009) (by decide) Tryz.underlying34 rfl (size34.of (by rw [List.length_map, htg])) rfl rfl) ?_
 refine RS (ok_loadA (s := 1000005) (by decide) Tryz.underlying26 rfl (size26.of (KM_len f hmk)) rfl rfl) ?_
 refine RM rfl ?_
 refine RS (ok_loadA (s := 1000007) (by decide) Tryz.underlying30 rfl (size30.of (rfl)) rfl rfl) ?_
 refine RS (ok_loadA (s := 1000008) (by decide) Tryz.underlying33 rfl (size33.of (by rw [List.length_map, hd])) rfl rfl) ?_
 refine RS (ok_callM (tagOf_fn f mk hf hmk i s c hs hc d hd hi) (Sub.cons rfl (Sub.cons rfl KN)) tabs_v (Args.cons rfl (Le.refl _) (A3 rfl rfl rfl))) ?_
 refine RS (ok_neqT (n := 3) (decide (tg = (hmac mk (msgL i s c d)))) flat34 (by decide) (by kernel_rfl) (by kernel_rfl) rfl rfl (kinB htg) (kinB (hmac_length _ _)) (decB _ _)) ?_; refine RZ (.bool true) (by simp [h]) ?_
 refine RN ?_
 refine A.yes rfl ?_
 refine GS ?_
 refine TL ?_
 refine RA rfl ?_
 refine RN ?_
 refine A.ret ?_
 refine End.ret_then ?_
 exact End.ret1 rfl rfl (by first | exact Le.refl _ | exact Le.old _ _)
theorem checkTag_ok (f : Nat → Nat) (mk : List UInt8) (hf : By f) (hmk : mk.length = 32) (i : Nat) (s c : Nat) (hs : s < 4294967296) (hc : c < 18446744073709551616) (d : List UInt8) (hd : d.length = 32) (hi : i < 4096)(tg : List UInt8) (htg : tg.length = 32) (h : tg = (hmac mk (msgL i s c d))) : FnM Tryz.prog 22 tabs [.v (aggV ((rowV 16 f ++ mk.map byteV))), .v (nI i), .v (aggV ([nW s, nQ c])), .v (aggV (d.map byteV)), .v (aggV (tg.map byteV))] (.v (.int .i64 0)) := by
 refine FnM.of Tryz.func22 rfl (by kernel_rfl) Tryz.ntmps22 (by simp) (by decide) (fun w => [(0, .v (aggV ((rowV 16 f ++ mk.map byteV)))), (1, .v (nI i)), (2, .v (aggV ([nW s, nQ c]))), (3, .v (aggV (d.map byteV))), (4, .v (aggV (tg.map byteV))), (1900000, tab 0 (H8.list.map u32V)), (1900001, tab 1 (K64.map u32V))]) (fun w => (StartM.v rfl (StartM.v rfl (StartM.v rfl (StartM.v rfl (StartM.v rfl (StartM.m (by simp [tabs]) (by decide) (StartM.m (by simp [tabs]) (by decide) StartM.nil)))))))) fun w₀ hM => ?_
 have htab := tabs_hi hM
 refine GS ?_
 refine TN 0 ?_
 refine RN ?_
 refine ⟨_, _, eff_box (n := 24) (d := 5) (k := 1000005) rfl (by decide), fun b5 hb5 => ?_⟩
 have hBb5 := hb5.1
 refine TN 1 ?_
 refine RN ?_
 refine ⟨_, _, eff_box (n := 24) (d := 7) (k := 1000007) rfl (by decide), fun b7 hb7 => ?_⟩
 have hBb7 := hb7.1
 refine TN 2 ?_
 refine RN ?_
 refine ⟨_, _, eff_box (n := 24) (d := 8) (k := 1000008) rfl (by decide), fun b8 hb8 => ?_⟩
 have hBb8 := hb8.1
 refine TN 3 ?_
 refine RN ?_
 refine ⟨_, _, eff_box (n := 24) (d := 9) (k := 1000009) rfl (by decide), fun b9 hb9 => ?_⟩
 have hBb9 := hb9.1
 refine TL ?_
 refine RA rfl ?_
 refine RN ?_
 refine A.seq ?_
 refine GS ?_
 refine TL ?_
 refine RM rfl ?_
 refine RS (ok_call (checkIndex_ok (i : Int) (by omega) (by omega)) (A1 rfl)) ?_
 refine RA rfl ?_
 refine RN ?_
 refine GS ?_
 refine TL ?_
 refine RM rfl ?_
 refine RBS rfl rfl rfl (.bool false) (by rfl) ?_
 refine RN ?_
 refine A.no rfl ?_
 refine A.skip ?_
 refine EN ?_
 refine A.seq ?_
 refine GD ?_
 refine TL ?_
 refine RS (ok_loadA (s := 1000009) (by decide) Tryz.underlying34 rfl (size34.of (by rw [List.length_map, htg])) rfl rfl) ?_
 refine RS (ok_loadA (s := 1000005) (by decide) Tryz.underlying26 rfl (size26.of (KM_len f hmk)) rfl rfl) ?_
 refine RM rfl ?_
 refine RS (ok_loadA (s := 1000007) (by decide) Tryz.underlying30 rfl (size30.of (rfl)) rfl rfl) ?_
 refine RS (ok_loadA (s := 1000008) (by decide) Tryz.underlying33 rfl (size33.of (by rw [List.length_map, hd])) rfl rfl) ?_
 refine RS (ok_callM (tagOf_fn f mk hf hmk i s c hs hc d hd hi) (Sub.cons rfl (Sub.cons rfl KN)) tabs_v (Args.cons rfl (Le.refl _) (A3 rfl rfl rfl))) ?_
 refine RS (ok_neqT (n := 3) (decide (tg = (hmac mk (msgL i s c d)))) flat34 (by decide) (by kernel_rfl) (by kernel_rfl) rfl rfl (kinB htg) (kinB (hmac_length _ _)) (decB _ _)) ?_; refine RZ (.bool false) (by simp [h]) ?_
 refine RN ?_
 refine A.no rfl ?_
 refine A.skip ?_
 refine EN ?_
 refine GS ?_
 refine TL ?_
 refine RA rfl ?_
 refine RN ?_
 refine A.ret ?_
 exact End.ret1 rfl rfl (by first | exact Le.refl _ | exact Le.old _ _)
theorem behind_no (e : Int) (h : e ≠ 0) (v : Value) : Fn Tryz.prog 17 [.v (.int .i64 e), .v v] (.v (.int .i64 e)) := by
 refine Fn.of Tryz.func17 rfl (by kernel_rfl) Tryz.ntmps17 (by simp) (fun w => [(0, .v (.int .i64 e)), (1, .v v)]) (fun w => (Start.v rfl (Start.v rfl Start.nil))) fun w₀ => ?_
 refine GS ?_
 refine TL ?_
 refine RA rfl ?_
 refine RN ?_
 refine A.seq ?_
 refine GS ?_
 refine TL ?_
 refine RM rfl ?_
 refine RBS rfl rfl rfl (.bool false) (by simp [h]) ?_
 refine RN ?_
 refine A.no rfl ?_
 refine A.skip ?_
 refine EN ?_
 refine GS ?_
 refine TL ?_
 refine RM rfl ?_
 refine RA rfl ?_
 refine RN ?_
 refine A.ret ?_
 exact End.ret1 rfl rfl (by first | exact Le.refl _ | exact Le.old _ _)
theorem behind_fnL {B fa : Nat} {gs : List (TypeId × Nat)} {us : List Value} {M : Env} {G : Nat → Nat → Prop} {M' : Nat → Env} (hG : ∀ m m' i, m ≤ m' → G m' i → G m i) (hgB : ∀ p ∈ gs, B ≤ p.2) (ha : FnL Tryz.prog fa B gs us M G (fun _ => .tuple #[]) M') : FnL Tryz.prog 17 B gs [.int .i64 0, .func (.func fa) #[] us.toArray] M G (fun _ => .int .i64 0) M' := by
 refine FnL.unpacked (k := 1000090) (k' := 1000091) ?_
 have ha' := ha.packed 1000090 1000091
 refine FnL.of (n := 10) (kw := 1000099) (ks := 1000098) Tryz.func17 rfl (by kernel_rfl) Tryz.ntmps17 (by simp) (by decide) (vbL_cons (vL rfl) vbL_nil) (vL rfl) (vL rfl) [(0, .v (.int .i64 0)), (1, .v (.func (.func fa) #[] us.toArray))]
  (fun p hp => by simp only [List.mem_cons, List.not_mem_nil, or_false] at hp; rcases hp with rfl | rfl <;> exact ⟨_, rfl, rfl⟩) fun w₀ w₁ hw hw₁ => ?_
 subst hw
 refine GS ?_
 refine TL ?_
 refine RA rfl ?_
 refine RN ?_
 refine A.seq ?_
 refine GS ?_
 refine TL ?_
 refine RM rfl ?_
 refine RBS rfl rfl rfl (.bool true) (by rfl) ?_
 refine RN ?_
 refine A.yes rfl ?_
 refine GE ?_
 refine TN 1 ?_
 refine RM rfl ?_
 refine RN ?_
 refine ⟨_, _, eff_callL (n := 10) (vs := []) (us := us) ha' rfl Args.nil (subL_M (KC 1000090 rfl KN) (vbL_cons (vL rfl) vbL_nil)) (fun _ => vbL_cons (vL rfl) vbL_nil) hgB (fun κ a w h => selfL_self (h.of 1000098 _ rfl)) (by decide) (by decide) (leftG_v (t := 0) rfl (leftG_w (t := 1000099) rfl leftG_nil)), fun i hi => ?_⟩
 obtain ⟨m, _, _, hm, hGi⟩ := hi
 have hGw := hG _ _ _ (hm 1000099 _ _ rfl) hGi
 refine TL ?_
 refine RN ?_
 refine EN ?_
 refine GS ?_
 refine TL ?_
 refine RM rfl ?_
 refine RA rfl ?_
 refine RN ?_
 refine A.ret ?_
 exact End.wroteL1 (.inl rfl) rfl (kw := 1000099) rfl i rfl hGw (by decide) (lookL_cons (k := 1000091) (vL rfl) rfl lookL_nil)
set_option maxHeartbeats 1000000 in
theorem Message1_fnL (B : Nat) (p0 p1 p2 p3 : Nat) (i : Nat) (s c : Nat) (hs : s < 4294967296) (hc : c < 18446744073709551616) (d : List UInt8) (hd : d.length = 32) (hi : i < 4096) (hB3 : B ≤ p3) : FnL Tryz.prog 42 B [(49, p3)] [ptr p0, ptr p1, ptr p2, ptr p3] [(1000003, blk p0 3 [nI i]), (1000004, blk p1 30 [nW s, nQ c]), (1000005, blk p2 33 (d.map byteV)), (1000008, blk p3 49 [.slice none 0 0])] (fun m b => m ≤ b) (fun _ => .tuple #[]) (fun b => [(1000008, blk p3 49 [.slice (some ⟨b, 0, none⟩) 48 48]), (1000013, blk b 5 ((msgL i s c d).map byteV))]) := by
 refine FnL.of (n := 8) (kw := 1000099) (ks := 1000098) Tryz.func42 rfl (by kernel_rfl) Tryz.ntmps42 (by simp) (by decide) (vbL_cons (vL rfl) (vbL_cons (vL rfl) (vbL_cons (vL rfl) (vbL_cons (vL rfl) vbL_nil)))) (vL rfl) (vL rfl) [(0, .v (ptr p0)), (1, .v (ptr p1)), (2, .v (ptr p2)), (3, .v (ptr p3))]
  (fun p hp => by simp only [List.mem_cons, List.not_mem_nil, or_false] at hp; rcases hp with rfl | rfl | rfl | rfl <;> exact ⟨_, rfl, rfl⟩) fun w₀ w₁ hw hw₁ => ?_
 have hBp3 : w₀.heap.size ≤ p3 := by omega
 refine GE ?_
 refine TN 3 ?_
 refine RS (ok_loadV (s := 1000003) (by decide) Tryz.underlying3 rfl rfl rfl (rfl)) ?_
 refine RS (ok_loadA (s := 1000004) (by decide) Tryz.underlying30 rfl (size30.of (rfl)) rfl rfl) ?_
 refine RS (ok_loadA (s := 1000005) (by decide) Tryz.underlying33 rfl (size33.of (by rw [List.length_map, hd])) rfl rfl) ?_
 refine RN ?_
 refine ⟨_, _, eff_nameFL (c := 48) (by rw [List.length_map, msgL_length hd]) (n := 8) (d := 7) (k := 1000007) rfl rfl (fun B' => ok_callB (messageOf_fnB i s c hs hc d hd hi) (fun _ _ => fresh_mono _ _) (A3 rfl rfl rfl)) (by decide) (by decide), fun b7 hb7 => ?_⟩
 have hBb7 := hb7.1
 have hlt_p0_b7 : p0 < b7 := hb7.2.1 1000003 _ _ _ rfl
 have hlt_p1_b7 : p1 < b7 := hb7.2.1 1000004 _ _ _ rfl
 have hlt_p2_b7 : p2 < b7 := hb7.2.1 1000005 _ _ _ rfl
 have hlt_p3_b7 : p3 < b7 := hb7.2.1 1000008 _ _ _ rfl
 have hw_b7 := hb7.2.2 1000099 _ _ rfl
 refine TF 4 ?_
 refine RN ?_
 refine ⟨_, eff_storeS (n := 8) (s := 1000008) info49 rfl rfl rfl hBp3 rfl (by simp) (LT 1000003 rfl (LT 1000004 rfl (LT 1000005 rfl (LT 1000007 rfl (LeftS.cons (t := 1000099) rfl (Surv.wroteL (by simp)) LN))))), ?_⟩
 refine TL ?_
 refine RN ?_
 exact End.wroteL0 (.inr rfl) rfl (kw := 1000099) rfl b7 hw_b7 (by decide) (lookL_cons (k := 1000008) (vL rfl) rfl (lookL_cons (k := 1000007) (vL rfl) rfl lookL_nil))
set_option maxHeartbeats 1000000 in
theorem Message_ok (i : Nat) (s c : Nat) (hs : s < 4294967296) (hc : c < 18446744073709551616) (d : List UInt8) (hd : d.length = 32) (hi : i < 4096) : FnB Tryz.prog 25 [.v (nI i), .v (aggV ([nW s, nQ c])), .v (aggV (d.map byteV))] (fun B => newD B 5 (fun b => .tuple #[.slice (some ⟨b, 0, none⟩) 48 48, .int .i64 0]) ((msgL i s c d).map byteV)) := by
 refine FnB.of Tryz.func25 rfl (by kernel_rfl) Tryz.ntmps25 (by simp) (fun w => [(0, .v (nI i)), (1, .v (aggV ([nW s, nQ c]))), (2, .v (aggV (d.map byteV)))]) (fun w => (Start.v rfl (Start.v rfl (Start.v rfl Start.nil)))) fun w₀ => ?_
 refine GS ?_
 refine TN 0 ?_
 refine RN ?_
 refine ⟨_, _, eff_box1 (n := 16) (d := 3) (k := 1000003) rfl rfl (by decide), fun b3 hb3 => ?_⟩
 have hBb3 := hb3.1
 refine TN 1 ?_
 refine RN ?_
 refine ⟨_, _, eff_box (n := 16) (d := 4) (k := 1000004) rfl (by decide), fun b4 hb4 => ?_⟩
 have hBb4 := hb4.1
 refine TN 2 ?_
 refine RN ?_
 refine ⟨_, _, eff_box (n := 16) (d := 5) (k := 1000005) rfl (by decide), fun b5 hb5 => ?_⟩
 have hBb5 := hb5.1
 refine TL ?_
 refine RA rfl ?_
 refine RA rfl ?_
 refine RN ?_
 refine GS ?_
 refine TN 0 ?_
 refine RN ?_
 refine ⟨_, _, eff_alloc (n := 16) (d := 8) (k := 1000008) zero49 (by decide), fun b8 hb8 => ?_⟩
 have hBb8 := hb8.1
 refine TL ?_
 refine RN ?_
 refine GS ?_
 refine TN 3 ?_
 refine RS (ok_loadV (s := 1000003) (by decide) Tryz.underlying3 rfl rfl rfl (rfl)) ?_
 refine RS (ok_call (checkIndex_ok (i : Int) (by omega) (by omega)) (A1 rfl)) ?_
 refine RS (ok_makeFuncN [ptr b3, ptr b4, ptr b5, ptr b8] ⟨rfl, rfl, rfl, rfl, trivial⟩) ?_
 refine RN ?_
 refine ⟨_, _, eff_callLN (n := 16) (vs := [.int .i64 0, .func (.func 42) #[] #[ptr b3, ptr b4, ptr b5, ptr b8]]) (us := []) (behind_fnL (fun _ _ _ h1 h2 => Nat.le_trans h1 h2) (fun p hp => by simp only [List.mem_cons, List.not_mem_nil, or_false] at hp; rcases hp with rfl <;> assumption) (Message1_fnL w₀.heap.size b3 b4 b5 b8 i s c hs hc d hd hi hBb8)) rfl (A2 rfl rfl) (subL_M (KC 1000003 rfl (KC 1000004 rfl (KC 1000005 rfl (KC 1000008 rfl KN)))) (vbL_cons (vL rfl) (vbL_cons (vL rfl) (vbL_cons (vL rfl) (vbL_cons (vL rfl) vbL_nil))))) (fun _ => (vbL_cons (vL rfl) (vbL_cons (vL rfl) vbL_nil))) (gsL_cons (k := 1000008) hBb8 rfl gsL_nil) (by decide) (by decide) (LeftL.one (LV 8 rfl (LT 1000003 rfl (LT 1000004 rfl (LT 1000005 rfl LN))))), fun b13 hb13 => ?_⟩
 have hBb13 := hb13.1
 have hlt_b3_b13 : b3 < b13 := hb13.2.1 1000003 _ _ _ rfl
 have hlt_b4_b13 : b4 < b13 := hb13.2.1 1000004 _ _ _ rfl
 have hlt_b5_b13 : b5 < b13 := hb13.2.1 1000005 _ _ _ rfl
 have hlt_b8_b13 : b8 < b13 := hb13.2.1 1000008 _ _ _ rfl
 refine TL ?_
 refine RA rfl ?_
 refine RN ?_
 refine GS ?_
 refine TL ?_
 refine RS (ok_loadV (s := 1000008) (by decide) Tryz.underlying49 rfl rfl rfl (rfl)) ?_
 refine RM rfl ?_
 refine RA rfl ?_
 refine RA rfl ?_
 refine RN ?_
 refine A.ret ?_
 exact End.newTT (kg := 1000013) rfl rfl rfl rfl hBb13 rfl rfl
theorem Message_bad (i : Int) (h : i < 0 ∨ 4096 ≤ i) (s c : Nat) (hs : s < 4294967296) (hc : c < 18446744073709551616) (d : List UInt8) (hd : d.length = 32)  : Fn Tryz.prog 25 [.v (.int .i64 i), .v (aggV ([nW s, nQ c])), .v (aggV (d.map byteV))] (.v (.tuple #[.slice none 0 0, .int .i64 1])) := by
 refine Fn.of Tryz.func25 rfl (by kernel_rfl) Tryz.ntmps25 (by simp) (fun w => [(0, .v (.int .i64 i)), (1, .v (aggV ([nW s, nQ c]))), (2, .v (aggV (d.map byteV)))]) (fun w => (Start.v rfl (Start.v rfl (Start.v rfl Start.nil)))) fun w₀ => ?_
 refine GS ?_
 refine TN 0 ?_
 refine RN ?_
 refine ⟨_, _, eff_box1 (n := 16) (d := 3) (k := 1000003) rfl rfl (by decide), fun b3 hb3 => ?_⟩
 have hBb3 := hb3.1
 refine TN 1 ?_
 refine RN ?_
 refine ⟨_, _, eff_box (n := 16) (d := 4) (k := 1000004) rfl (by decide), fun b4 hb4 => ?_⟩
 have hBb4 := hb4.1
 refine TN 2 ?_
 refine RN ?_
 refine ⟨_, _, eff_box (n := 16) (d := 5) (k := 1000005) rfl (by decide), fun b5 hb5 => ?_⟩
 have hBb5 := hb5.1
 refine TL ?_
 refine RA rfl ?_
 refine RA rfl ?_
 refine RN ?_
 refine GS ?_
 refine TN 0 ?_
 refine RN ?_
 refine ⟨_, _, eff_alloc (n := 16) (d := 8) (k := 1000008) zero49 (by decide), fun b8 hb8 => ?_⟩
 have hBb8 := hb8.1
 refine TL ?_
 refine RN ?_
 refine GS ?_
 refine TL ?_
 refine RS (ok_loadV (s := 1000003) (by decide) Tryz.underlying3 rfl rfl rfl (rfl)) ?_
 refine RS (ok_call (checkIndex_no i h) (A1 rfl)) ?_
 refine RS (ok_makeFuncN [ptr b3, ptr b4, ptr b5, ptr b8] ⟨rfl, rfl, rfl, rfl, trivial⟩) ?_
 refine RS (ok_call (behind_no 1 (by decide) _) (A2 rfl rfl)) ?_
 refine RA rfl ?_
 refine RN ?_
 refine GS ?_
 refine TL ?_
 refine RS (ok_loadV (s := 1000008) (by decide) Tryz.underlying49 rfl rfl rfl (rfl)) ?_
 refine RM rfl ?_
 refine RA rfl ?_
 refine RA rfl ?_
 refine RN ?_
 refine A.ret ?_
 exact End.ret2V rfl rfl rfl
set_option maxHeartbeats 1000000 in
theorem Parse1_fnL (B : Nat) (p0 p1 p2 p3 : Nat) (A₀ : Option Addr) (m₀ : Nat) (l : List UInt8) (h : l.length = 48) (hB1 : B ≤ p1) (hB2 : B ≤ p2) (hB3 : B ≤ p3) : FnL Tryz.prog 34 B [(3, p1), (30, p2), (33, p3)] [ptr p0, ptr p1, ptr p2, ptr p3] [(1000001, blk p0 49 [.slice A₀ l.length m₀]), (1000002, blk p1 3 [.int .i64 0]), (1000003, blk p2 30 [.int .u32 0, .int .u64 0]), (1000004, blk p3 33 (List.replicate 32 (.int .u8 0))), (1000200, old B (valM (.slice A₀ l.length m₀) (byt l)))] (fun _ _ => True) (fun _ => .tuple #[]) (fun b => [(1000002, blk p1 3 [nI ((num (l.take 4)))]), (1000003, blk p2 30 [nW (gS ((l.drop 4).take 12)), nQ (gC ((l.drop 4).take 12))]), (1000004, blk p3 33 ((l.drop 16).map byteV))]) := by
 refine FnL.of (n := 16) (kw := 1000099) (ks := 1000098) Tryz.func34 rfl (by kernel_rfl) Tryz.ntmps34 (by simp) (by decide) (vbL_cons (vL rfl) (vbL_cons (vL rfl) (vbL_cons (vL rfl) (vbL_cons (vL rfl) (vbL_cons (vL rfl) vbL_nil))))) (vL rfl) (vL rfl) [(0, .v (ptr p0)), (1, .v (ptr p1)), (2, .v (ptr p2)), (3, .v (ptr p3))]
  (fun p hp => by simp only [List.mem_cons, List.not_mem_nil, or_false] at hp; rcases hp with rfl | rfl | rfl | rfl <;> exact ⟨_, rfl, rfl⟩) fun w₀ w₁ hw hw₁ => ?_
 have hBp1 : w₀.heap.size ≤ p1 := by omega
 have hBp2 : w₀.heap.size ≤ p2 := by omega
 have hBp3 : w₀.heap.size ≤ p3 := by omega
 have hd16 : (l.drop 16).length = 32 := by simp [h]
 subst hw
 refine GS ?_
 refine TF 2 ?_
 refine RS (OpOk.valO (ok_loadV (s := 1000001) (by decide) Tryz.underlying49 rfl rfl rfl (rfl)) (k := 1000200) (by decide) rfl) ?_
 refine RS (ok_call (indexOf_fn l (by omega)) (Args.cons rfl (Le.old _ _) Args.nil)) ?_
 refine RN ?_
 refine ⟨_, eff_storeS (n := 16) (s := 1000002) info3 rfl rfl rfl hBp1 rfl (by simp) (LV 0 rfl (LV 2 rfl (LV 3 rfl (LT 1000001 rfl (LT 1000003 rfl (LT 1000004 rfl (LeftS.cons (t := 1000099) rfl (Surv.wroteL (by simp)) (LO 1000200 rfl LN)))))))), ?_⟩
 refine TL ?_
 refine RN ?_
 refine GS ?_
 refine TF 6 ?_
 refine RS (OpOk.valO (ok_loadV (s := 1000001) (by decide) Tryz.underlying49 rfl rfl rfl (rfl)) (k := 1000200) (by decide) rfl) ?_
 refine RS ((ok_slice (ds := l.map byteD) 4 16 Tryz.underlying49 info5 rfl (Le.old _ _) (.inl ⟨_, _, rfl, rfl⟩) (.inl ⟨_, _, rfl, rfl⟩) (by omega) (by simp; omega)).le (d' := byt ((l.drop 4).take 12)) (Le.eq (by rw [← List.map_take, ← List.map_drop, List.drop_take]; rfl))) ?_
 refine RS (ok_call (Get_fn ((l.drop 4).take 12)) (A1 rfl)) ?_
 refine RM rfl ?_
 refine RS (ok_extract rfl rfl) ?_
 refine RS (ok_extract rfl rfl) ?_
 refine RN ?_
 refine ⟨_, eff_storeA (n := 16) (s := 1000003) (size30.of (rfl)) rfl rfl (rfl) hBp2 rfl (rfl) (LV 0 rfl (LV 3 rfl (LT 1000001 rfl (LT 1000002 rfl (LT 1000004 rfl (LeftS.cons (t := 1000099) rfl (Surv.wroteL (by simp)) (LO 1000200 rfl LN))))))), ?_⟩
 refine TL ?_
 refine RN ?_
 refine GE ?_
 refine TF 4 ?_
 refine RS (OpOk.valO (ok_loadV (s := 1000001) (by decide) Tryz.underlying49 rfl rfl rfl (rfl)) (k := 1000200) (by decide) rfl) ?_
 refine RS ((ok_slice (ds := l.map byteD) 16 l.length Tryz.underlying49 info5 rfl (Le.old _ _) (.inl ⟨_, _, rfl, rfl⟩) (.inr ⟨rfl, by simp⟩) (by omega) (by simp)).le (d' := byt (l.drop 16)) (Le.eq (by rw [List.take_of_length_le (by simp), ← List.map_drop]; rfl))) ?_
 refine RS (ok_arrayB (l.drop 16) (by rw [hd16]; exact Tryz.underlying33) rfl (Le.refl _) (by rw [hd16]; decide)) ?_
 refine RS (ok_loadB Tryz.underlying33 rfl (size33.of hd16) rfl) ?_
 refine RN ?_
 refine ⟨_, eff_storeA (n := 16) (s := 1000004) (size33.of (by rw [List.length_map, hd16])) rfl rfl (all_bytes _) hBp3 rfl (by simp [h]) (LT 1000001 rfl (LT 1000002 rfl (LT 1000003 rfl (LeftS.cons (t := 1000099) rfl (Surv.wroteL (by simp)) (LO 1000200 rfl LN))))), ?_⟩
 refine TL ?_
 refine RN ?_
 exact End.wroteL0 (.inr rfl) rfl (kw := 1000099) rfl 0 trivial (by decide) (lookL_cons (k := 1000002) (vL rfl) rfl (lookL_cons (k := 1000003) (vL rfl) rfl (lookL_cons (k := 1000004) (vL rfl) rfl lookL_nil)))
set_option maxHeartbeats 1000000 in
theorem Parse_ok (l : List UInt8) (h : l.length = 48) (hn : (num (l.take 4)) < 4096) : Fn Tryz.prog 16 [byt l] (.v (.tuple #[nI ((num (l.take 4))), aggV [nW (gS ((l.drop 4).take 12)), nQ (gC ((l.drop 4).take 12))], aggV ((l.drop 16).map byteV), .int .i64 0])) := by
 have hd16 : (l.drop 16).length = 32 := by simp [h]
 refine Fn.of Tryz.func16 rfl (by kernel_rfl) Tryz.ntmps16 (by simp) (fun w => [(0, old w.heap.size (byt l))]) (fun w => (Start.old rfl Start.nil)) fun w₀ => ?_
 refine A.nameS (t := 0) (k := 1000200) rfl fun A₀ m₀ => ?_
 refine GS ?_
 refine TN 0 ?_
 refine RN ?_
 refine ⟨_, _, eff_box1 (n := 14) (d := 1) (k := 1000001) rfl rfl (by decide), fun b1 hb1 => ?_⟩
 have hBb1 := hb1.1
 refine TN 1 ?_
 refine RN ?_
 refine ⟨_, _, eff_alloc (n := 14) (d := 2) (k := 1000002) zero3 (by decide), fun b2 hb2 => ?_⟩
 have hBb2 := hb2.1
 refine TN 2 ?_
 refine RN ?_
 refine ⟨_, _, eff_alloc (n := 14) (d := 3) (k := 1000003) zero30 (by decide), fun b3 hb3 => ?_⟩
 have hBb3 := hb3.1
 refine TN 3 ?_
 refine RN ?_
 refine ⟨_, _, eff_alloc (n := 14) (d := 4) (k := 1000004) zero33 (by decide), fun b4 hb4 => ?_⟩
 have hBb4 := hb4.1
 refine TL ?_
 refine RA rfl ?_
 refine RN ?_
 refine GS ?_
 refine TF 3 ?_
 refine RS (OpOk.valO (ok_loadV (s := 1000001) (by decide) Tryz.underlying49 rfl rfl rfl (rfl)) (k := 1000200) (by decide) rfl) ?_
 refine RS (ok_call (checkMessage_ok l h hn) (Args.cons rfl (Le.old _ _) Args.nil)) ?_
 refine RS (ok_makeFuncN [ptr b1, ptr b2, ptr b3, ptr b4] ⟨rfl, rfl, rfl, rfl, trivial⟩) ?_
 refine RN ?_
 refine ⟨_, eff_callL1 (n := 14) (vs := [.int .i64 0, .func (.func 34) #[] #[ptr b1, ptr b2, ptr b3, ptr b4]]) (us := []) (behind_fnL (fun _ _ _ _ _ => trivial) (fun p hp => by simp only [List.mem_cons, List.not_mem_nil, or_false] at hp; rcases hp with rfl | rfl | rfl <;> assumption) (Parse1_fnL w₀.heap.size b1 b2 b3 b4 A₀ m₀ l h hBb2 hBb3 hBb4)) rfl (A2 rfl rfl) (subL_M (KC 1000001 rfl (KC 1000002 rfl (KC 1000003 rfl (KC 1000004 rfl (KC 1000200 rfl KN))))) (vbL_cons (vL rfl) (vbL_cons (vL rfl) (vbL_cons (vL rfl) (vbL_cons (vL rfl) (vbL_cons (vL rfl) vbL_nil)))))) (vbL_cons (vL rfl) (vbL_cons (vL rfl) (vbL_cons (vL rfl) vbL_nil))) (gsL_cons (k := 1000002) hBb2 rfl (gsL_cons (k := 1000003) hBb3 rfl (gsL_cons (k := 1000004) hBb4 rfl gsL_nil))) (by decide) (by decide) (LeftL.cons (LV 2 rfl (LV 3 rfl (LV 4 rfl (LT 1000001 rfl (LO 1000200 rfl LN))))) (LeftL.cons (LV 2 rfl (LV 3 rfl (LV 4 rfl (LT 1000001 rfl (LO 1000200 rfl LN))))) (LeftL.one (LV 2 rfl (LV 3 rfl (LV 4 rfl (LT 1000001 rfl (LO 1000200 rfl LN)))))))), ?_⟩
 refine TL ?_
 refine RA rfl ?_
 refine RN ?_
 refine A.regsN (E1 := ((10, .v _) :: (11, .v _) :: (12, .v _) :: (13, .v _) :: (5, .v _) :: _)) [_, _, _, _, _, _, _, _] (by kernel_rfl) (by kernel_rfl) (by kernel_rfl) (Nops.cons (_) rfl (.inr ⟨_, rfl, .inl rfl⟩) FromN.all (nop_loadV (s := 1000002) (vL rfl) Tryz.underlying3 rfl rfl rfl) (Nops.cons (_) rfl (.inr ⟨_, rfl, .inl rfl⟩) FromN.all (nop_loadA (s := 1000003) (vL rfl) Tryz.underlying30 rfl (size30.of (rfl)) rfl rfl) (Nops.cons (_) rfl (.inr ⟨_, rfl, .inl rfl⟩) FromN.all (nop_loadA (s := 1000004) (vL rfl) Tryz.underlying33 rfl (size33.of (by rw [List.length_map, hd16])) rfl rfl) (Nops.cons (_) rfl (.inr ⟨_, rfl, .inl rfl⟩) FromN.all (nop_move rfl) (Nops.cons ((10, .v _) :: _) rfl (.inl rfl) (FromN.op 0 (by kernel_rfl) rfl rfl FromN.all) (nop_storeV (s := 1000002) (vL rfl) info3 rfl rfl rfl rfl) (Nops.cons ((11, .v _) :: _) rfl (.inl rfl) (FromN.op 1 (by kernel_rfl) rfl rfl FromN.all) (nop_storeA (s := 1000003) (vL rfl) (size30.of (rfl)) rfl rfl (rfl) rfl) (Nops.cons ((12, .v _) :: _) rfl (.inl rfl) (FromN.op 2 (by kernel_rfl) rfl rfl FromN.all) (nop_storeA (s := 1000004) (vL rfl) (size33.of (by rw [List.length_map, hd16])) rfl rfl (all_bytes _) rfl) (Nops.cons ((13, .v _) :: _) rfl (.inr ⟨_, rfl, .inr rfl⟩) (FromN.op 3 (by kernel_rfl) rfl rfl FromN.all) (nop_assign rfl) Nops.nil)))))))) (FromE.op 0 rfl rfl (FromE.op 1 rfl rfl (FromE.op 2 rfl rfl (FromE.op 3 rfl rfl (FromE.op 7 rfl rfl FromE.all))))) ?_
 refine A.ret ?_
 exact End.cell4 (s₀ := 1000002) (s := 1000003) (s₂ := 1000004) rfl Tryz.underlying3 rfl Tryz.underlying30 rfl (size30.of rfl) Tryz.underlying33 rfl (size33.of (by rw [List.length_map, hd16])) rfl rfl rfl rfl rfl rfl rfl
set_option maxHeartbeats 1000000 in
theorem Parse_err (l : List UInt8) (e : Int) (he : e ≠ 0) (hc : Fn Tryz.prog 33 [byt l] (.v (.int .i64 e))) : Fn Tryz.prog 16 [byt l] (.v (.tuple #[.int .i64 0, aggV [.int .u32 0, .int .u64 0], aggV (List.replicate 32 (.int .u8 0)), .int .i64 e])) := by
 refine Fn.of Tryz.func16 rfl (by kernel_rfl) Tryz.ntmps16 (by simp) (fun w => [(0, old w.heap.size (byt l))]) (fun w => (Start.old rfl Start.nil)) fun w₀ => ?_
 refine A.nameS (t := 0) (k := 1000200) rfl fun A₀ m₀ => ?_
 refine GS ?_
 refine TN 0 ?_
 refine RN ?_
 refine ⟨_, _, eff_box1 (n := 14) (d := 1) (k := 1000001) rfl rfl (by decide), fun b1 hb1 => ?_⟩
 have hBb1 := hb1.1
 refine TN 1 ?_
 refine RN ?_
 refine ⟨_, _, eff_alloc (n := 14) (d := 2) (k := 1000002) zero3 (by decide), fun b2 hb2 => ?_⟩
 have hBb2 := hb2.1
 refine TN 2 ?_
 refine RN ?_
 refine ⟨_, _, eff_alloc (n := 14) (d := 3) (k := 1000003) zero30 (by decide), fun b3 hb3 => ?_⟩
 have hBb3 := hb3.1
 refine TN 3 ?_
 refine RN ?_
 refine ⟨_, _, eff_alloc (n := 14) (d := 4) (k := 1000004) zero33 (by decide), fun b4 hb4 => ?_⟩
 have hBb4 := hb4.1
 refine TL ?_
 refine RA rfl ?_
 refine RN ?_
 refine GS ?_
 refine TL ?_
 refine RS (OpOk.valO (ok_loadV (s := 1000001) (by decide) Tryz.underlying49 rfl rfl rfl (rfl)) (k := 1000200) (by decide) rfl) ?_
 refine RS (ok_call hc (Args.cons rfl (Le.old _ _) Args.nil)) ?_
 refine RS (ok_makeFuncN [ptr b1, ptr b2, ptr b3, ptr b4] ⟨rfl, rfl, rfl, rfl, trivial⟩) ?_
 refine RS (ok_call (behind_no e he _) (A2 rfl rfl)) ?_
 refine RA rfl ?_
 refine RN ?_
 refine A.regsN (E1 := ((10, .v _) :: (11, .v _) :: (12, .v _) :: (13, .v _) :: (5, .v _) :: _)) [_, _, _, _, _, _, _, _] (by kernel_rfl) (by kernel_rfl) (by kernel_rfl) (Nops.cons (_) rfl (.inr ⟨_, rfl, .inl rfl⟩) FromN.all (nop_loadV (s := 1000002) (vL rfl) Tryz.underlying3 rfl rfl rfl) (Nops.cons (_) rfl (.inr ⟨_, rfl, .inl rfl⟩) FromN.all (nop_loadA (s := 1000003) (vL rfl) Tryz.underlying30 rfl (size30.of (rfl)) rfl rfl) (Nops.cons (_) rfl (.inr ⟨_, rfl, .inl rfl⟩) FromN.all (nop_loadA (s := 1000004) (vL rfl) Tryz.underlying33 rfl (size33.of (rfl)) rfl rfl) (Nops.cons (_) rfl (.inr ⟨_, rfl, .inl rfl⟩) FromN.all (nop_move rfl) (Nops.cons ((10, .v _) :: _) rfl (.inl rfl) (FromN.op 0 (by kernel_rfl) rfl rfl FromN.all) (nop_storeV (s := 1000002) (vL rfl) info3 rfl rfl rfl rfl) (Nops.cons ((11, .v _) :: _) rfl (.inl rfl) (FromN.op 1 (by kernel_rfl) rfl rfl FromN.all) (nop_storeA (s := 1000003) (vL rfl) (size30.of (rfl)) rfl rfl (rfl) rfl) (Nops.cons ((12, .v _) :: _) rfl (.inl rfl) (FromN.op 2 (by kernel_rfl) rfl rfl FromN.all) (nop_storeA (s := 1000004) (vL rfl) (size33.of (rfl)) rfl rfl (rfl) rfl) (Nops.cons ((13, .v _) :: _) rfl (.inr ⟨_, rfl, .inr rfl⟩) (FromN.op 3 (by kernel_rfl) rfl rfl FromN.all) (nop_assign rfl) Nops.nil)))))))) (FromE.op 0 rfl rfl (FromE.op 1 rfl rfl (FromE.op 2 rfl rfl (FromE.op 3 rfl rfl (FromE.op 7 rfl rfl FromE.all))))) ?_
 refine A.ret ?_
 exact End.cell4 (s₀ := 1000002) (s := 1000003) (s₂ := 1000004) rfl Tryz.underlying3 rfl Tryz.underlying30 rfl (size30.of rfl) Tryz.underlying33 rfl (size33.of (rfl)) rfl rfl rfl rfl rfl rfl rfl
set_option maxHeartbeats 1000000 in
theorem Seal1_fnL (B : Nat) (p0 p1 p2 p3 p4 p5 : Nat) (htab : 1 < B) (f : Nat → Nat) (mk : List UInt8) (hf : By f) (hmk : mk.length = 32) (i : Nat) (s c : Nat) (hs : s < 4294967296) (hc : c < 18446744073709551616) (d : List UInt8) (hd : d.length = 32) (hi : i < 4096) (hB3 : B ≤ p3) (hB5 : B ≤ p5) (hne : p2 < p3) : FnL Tryz.prog 19 B [(33, p3), (34, p5)] [ptr p0, ptr p1, ptr p2, ptr p3, ptr p4, ptr p5] [(1000004, blk p0 26 (rowV 16 f ++ mk.map byteV)), (1000006, blk p1 30 [nW s, nQ c]), (1000007, blk p2 33 (d.map byteV)), (1000008, blk p3 33 (List.replicate 32 (.int .u8 0))), (1000005, blk p4 3 [nI i]), (1000009, blk p5 34 (List.replicate 32 (.int .u8 0))), (1900000, tab 0 (H8.list.map u32V)), (1900001, tab 1 (K64.map u32V))] (fun _ _ => True) (fun _ => .tuple #[]) (fun b => [(1000008, blk p3 33 ((xorK f s c 0 d).map byteV)), (1000009, blk p5 34 ((hmac mk (msgL i s c (xorK f s c 0 d))).map byteV))]) := by
 refine FnL.of (n := 15) (kw := 1000099) (ks := 1000098) Tryz.func19 rfl (by kernel_rfl) Tryz.ntmps19 (by simp) (by decide) (vbL_cons (vL rfl) (vbL_cons (vL rfl) (vbL_cons (vL rfl) (vbL_cons (vL rfl) (vbL_cons (vL rfl) (vbL_cons (vL rfl) (vbL_cons (vL rfl) (vbL_cons (vL rfl) vbL_nil)))))))) (vL rfl) (vL rfl) [(0, .v (ptr p0)), (1, .v (ptr p1)), (2, .v (ptr p2)), (3, .v (ptr p3)), (4, .v (ptr p4)), (5, .v (ptr p5))]
  (fun p hp => by simp only [List.mem_cons, List.not_mem_nil, or_false] at hp; rcases hp with rfl | rfl | rfl | rfl | rfl | rfl <;> exact ⟨_, rfl, rfl⟩) fun w₀ w₁ hw hw₁ => ?_
 have hBp3 : w₀.heap.size ≤ p3 := by omega
 have hBp5 : w₀.heap.size ≤ p5 := by omega
 refine GS ?_
 refine TF 4 ?_
 refine RS (ok_loadA (s := 1000004) (by decide) Tryz.underlying26 rfl (size26.of (KM_len f hmk)) rfl rfl) ?_
 refine RS (ok_loadA (s := 1000006) (by decide) Tryz.underlying30 rfl (size30.of (rfl)) rfl rfl) ?_
 refine RS (ok_loadA (s := 1000007) (by decide) Tryz.underlying33 rfl (size33.of (by rw [List.length_map, hd])) rfl rfl) ?_
 refine RS (ok_call (combined_fn f mk hf hmk s c hs hc d hd) (A3 rfl rfl rfl)) ?_
 refine RN ?_
 refine ⟨_, eff_storeA (n := 15) (s := 1000008) (size33.of (by rw [List.length_map, xorK_length, hd])) rfl rfl (all_bytes _) hBp3 rfl (by simp [xorK_length, hd]) (LV 0 rfl (LV 1 rfl (LV 3 rfl (LV 4 rfl (LV 5 rfl (LT 1000004 rfl (LT 1000005 rfl (LT 1000006 rfl (LB 1000007 rfl (LT 1000009 rfl (LeftS.cons (t := 1000099) rfl (Surv.wroteL (by simp)) (LeftS.cons (t := 1900000) rfl (Surv.tab (by omega)) (LeftS.cons (t := 1900001) rfl (Surv.tab (by omega)) LN))))))))))))), ?_⟩
 refine TL ?_
 refine RN ?_
 refine GE ?_
 refine TF 5 ?_
 refine RS (ok_loadA (s := 1000004) (by decide) Tryz.underlying26 rfl (size26.of (KM_len f hmk)) rfl rfl) ?_
 refine RS (ok_loadV (s := 1000005) (by decide) Tryz.underlying3 rfl rfl rfl (rfl)) ?_
 refine RS (ok_loadA (s := 1000006) (by decide) Tryz.underlying30 rfl (size30.of (rfl)) rfl rfl) ?_
 refine RS (ok_loadA (s := 1000008) (by decide) Tryz.underlying33 rfl (size33.of (by rw [List.length_map, xorK_length, hd])) rfl rfl) ?_
 refine RS (ok_callM (tagOf_fn f mk hf hmk i s c hs hc (xorK f s c 0 d) (by rw [xorK_length, hd]) hi) (Sub.cons rfl (Sub.cons rfl KN)) tabs_v (Args.cons rfl (Le.refl _) (A3 rfl rfl rfl))) ?_
 refine RN ?_
 refine ⟨_, eff_storeA (n := 15) (s := 1000009) (size34.of (by rw [List.length_map, hmac_length])) rfl rfl (all_bytes _) hBp5 rfl (by simp [hmac_length]) (LT 1000004 rfl (LT 1000005 rfl (LT 1000006 rfl (LT 1000007 rfl (LT 1000008 rfl (LeftS.cons (t := 1000099) rfl (Surv.wroteL (by simp)) (LeftS.cons (t := 1900000) rfl (Surv.tab (by omega)) (LeftS.cons (t := 1900001) rfl (Surv.tab (by omega)) LN)))))))), ?_⟩
 refine TL ?_
 refine RN ?_
 exact End.wroteL0 (.inr rfl) rfl (kw := 1000099) rfl 0 trivial (by decide) (lookL_cons (k := 1000008) (vL rfl) rfl (lookL_cons (k := 1000009) (vL rfl) rfl lookL_nil))
set_option maxHeartbeats 2000000 in
theorem Seal_ok (f : Nat → Nat) (mk : List UInt8) (hf : By f) (hmk : mk.length = 32) (i : Nat) (s c : Nat) (hs : s < 4294967296) (hc : c < 18446744073709551616) (d : List UInt8) (hd : d.length = 32) (hi : i < 4096) : FnM Tryz.prog 7 tabs [.v (aggV ((rowV 16 f ++ mk.map byteV))), .v (nI i), .v (aggV ([nW s, nQ c])), .v (aggV (d.map byteV))] (.v (.tuple #[aggV ((xorK f s c 0 d).map byteV), aggV ((hmac mk (msgL i s c (xorK f s c 0 d))).map byteV), .int .i64 0])) := by
 refine FnM.of Tryz.func7 rfl (by kernel_rfl) Tryz.ntmps7 (by simp) (by decide) (fun w => [(0, .v (aggV ((rowV 16 f ++ mk.map byteV)))), (1, .v (nI i)), (2, .v (aggV ([nW s, nQ c]))), (3, .v (aggV (d.map byteV))), (1900000, tab 0 (H8.list.map u32V)), (1900001, tab 1 (K64.map u32V))]) (fun w => (StartM.v rfl (StartM.v rfl (StartM.v rfl (StartM.v rfl (StartM.m (by simp [tabs]) (by decide) (StartM.m (by simp [tabs]) (by decide) StartM.nil))))))) fun w₀ hM => ?_
 have htab := tabs_hi hM
 refine GS ?_
 refine TN 0 ?_
 refine RN ?_
 refine ⟨_, _, eff_box (n := 18) (d := 4) (k := 1000004) rfl (by decide), fun b4 hb4 => ?_⟩
 have hBb4 := hb4.1
 refine TN 1 ?_
 refine RN ?_
 refine ⟨_, _, eff_box1 (n := 18) (d := 5) (k := 1000005) rfl rfl (by decide), fun b5 hb5 => ?_⟩
 have hBb5 := hb5.1
 refine TN 2 ?_
 refine RN ?_
 refine ⟨_, _, eff_box (n := 18) (d := 6) (k := 1000006) rfl (by decide), fun b6 hb6 => ?_⟩
 have hBb6 := hb6.1
 refine TN 3 ?_
 refine RN ?_
 refine ⟨_, _, eff_box (n := 18) (d := 7) (k := 1000007) rfl (by decide), fun b7 hb7 => ?_⟩
 have hBb7 := hb7.1
 refine TN 4 ?_
 refine RN ?_
 refine ⟨_, _, eff_alloc (n := 18) (d := 8) (k := 1000008) zero33 (by decide), fun b8 hb8 => ?_⟩
 have hBb8 := hb8.1
 have hlt_b7_b8 : b7 < b8 := hb8.2 1000007 _ _ _ rfl
 refine TN 5 ?_
 refine RN ?_
 refine ⟨_, _, eff_alloc (n := 18) (d := 9) (k := 1000009) zero34 (by decide), fun b9 hb9 => ?_⟩
 have hBb9 := hb9.1
 refine TL ?_
 refine RA rfl ?_
 refine RN ?_
 refine GS ?_
 refine TF 3 ?_
 refine RS (ok_loadV (s := 1000005) (by decide) Tryz.underlying3 rfl rfl rfl (rfl)) ?_
 refine RS (ok_call (checkIndex_ok (i : Int) (by omega) (by omega)) (A1 rfl)) ?_
 refine RS (ok_makeFuncN [ptr b4, ptr b6, ptr b7, ptr b8, ptr b5, ptr b9] ⟨rfl, rfl, rfl, rfl, rfl, rfl, trivial⟩) ?_
 refine RN ?_
 refine ⟨_, eff_callL1 (n := 18) (vs := [.int .i64 0, .func (.func 19) #[] #[ptr b4, ptr b6, ptr b7, ptr b8, ptr b5, ptr b9]]) (us := []) (behind_fnL (fun _ _ _ _ _ => trivial) (fun p hp => by simp only [List.mem_cons, List.not_mem_nil, or_false] at hp; rcases hp with rfl | rfl <;> assumption) (Seal1_fnL w₀.heap.size b4 b6 b7 b8 b5 b9 htab f mk hf hmk i s c hs hc d hd hi hBb8 hBb9 (by omega))) rfl (A2 rfl rfl) (subL_M (KC 1000004 rfl (KC 1000006 rfl (KC 1000007 rfl (KC 1000008 rfl (KC 1000005 rfl (KC 1000009 rfl (KC 1900000 rfl (KC 1900001 rfl KN)))))))) (vbL_cons (vL rfl) (vbL_cons (vL rfl) (vbL_cons (vL rfl) (vbL_cons (vL rfl) (vbL_cons (vL rfl) (vbL_cons (vL rfl) (vbL_cons (vL rfl) (vbL_cons (vL rfl) vbL_nil))))))))) (vbL_cons (vL rfl) (vbL_cons (vL rfl) vbL_nil)) (gsL_cons (k := 1000008) hBb8 rfl (gsL_cons (k := 1000009) hBb9 rfl gsL_nil)) (by decide) (by decide) (LeftL.cons (LV 8 rfl (LV 9 rfl (LT 1000004 rfl (LT 1000005 rfl (LT 1000006 rfl (LB 1000007 rfl (LeftS.cons (t := 1900000) rfl (Surv.tab (by omega)) (LeftS.cons (t := 1900001) rfl (Surv.tab (by omega)) LN)))))))) (LeftL.one (LV 8 rfl (LV 9 rfl (LT 1000004 rfl (LT 1000005 rfl (LT 1000006 rfl (LT 1000007 rfl (LeftS.cons (t := 1900000) rfl (Surv.tab (by omega)) (LeftS.cons (t := 1900001) rfl (Surv.tab (by omega)) LN)))))))))), ?_⟩
 refine TL ?_
 refine RA rfl ?_
 refine RN ?_
 refine A.regsN (E1 := ((15, .v _) :: (16, .v _) :: (17, .v _) :: (10, .v _) :: _)) [_, _, _, _, _, _] (by kernel_rfl) (by kernel_rfl) (by kernel_rfl) (Nops.cons (_) rfl (.inr ⟨_, rfl, .inl rfl⟩) FromN.all (nop_loadA (s := 1000008) (vL rfl) Tryz.underlying33 rfl (size33.of (by rw [List.length_map, xorK_length, hd])) rfl rfl) (Nops.cons (_) rfl (.inr ⟨_, rfl, .inl rfl⟩) FromN.all (nop_loadA (s := 1000009) (vL rfl) Tryz.underlying34 rfl (size34.of (by rw [List.length_map, hmac_length])) rfl rfl) (Nops.cons (_) rfl (.inr ⟨_, rfl, .inl rfl⟩) FromN.all (nop_move rfl) (Nops.cons ((15, .v _) :: _) rfl (.inl rfl) (FromN.op 0 (by kernel_rfl) rfl rfl FromN.all) (nop_storeA (s := 1000008) (vL rfl) (size33.of (by rw [List.length_map, xorK_length, hd])) rfl rfl (all_bytes _) rfl) (Nops.cons ((16, .v _) :: _) rfl (.inl rfl) (FromN.op 1 (by kernel_rfl) rfl rfl FromN.all) (nop_storeA (s := 1000009) (vL rfl) (size34.of (by rw [List.length_map, hmac_length])) rfl rfl (all_bytes _) rfl) (Nops.cons ((17, .v _) :: _) rfl (.inr ⟨_, rfl, .inr rfl⟩) (FromN.op 2 (by kernel_rfl) rfl rfl FromN.all) (nop_assign rfl) Nops.nil)))))) (FromE.op 0 rfl rfl (FromE.op 1 rfl rfl (FromE.op 2 rfl rfl (FromE.op 5 rfl rfl FromE.all)))) ?_
 refine A.ret ?_
 exact End.cell3 (s := 1000008) (s₂ := 1000009) rfl Tryz.underlying33 rfl (size33.of (by rw [List.length_map, xorK_length, hd])) Tryz.underlying34 rfl (size34.of (by rw [List.length_map, hmac_length])) rfl rfl rfl rfl rfl
set_option maxHeartbeats 1000000 in
theorem Seal_bad (f : Nat → Nat) (mk : List UInt8) (hf : By f) (hmk : mk.length = 32) (i : Int) (h : i < 0 ∨ 4096 ≤ i) (s c : Nat) (hs : s < 4294967296) (hc : c < 18446744073709551616) (d : List UInt8) (hd : d.length = 32)  : FnM Tryz.prog 7 tabs [.v (aggV ((rowV 16 f ++ mk.map byteV))), .v (.int .i64 i), .v (aggV ([nW s, nQ c])), .v (aggV (d.map byteV))] (.v (.tuple #[aggV (List.replicate 32 (.int .u8 0)), aggV (List.replicate 32 (.int .u8 0)), .int .i64 1])) := by
 refine FnM.of Tryz.func7 rfl (by kernel_rfl) Tryz.ntmps7 (by simp) (by decide) (fun w => [(0, .v (aggV ((rowV 16 f ++ mk.map byteV)))), (1, .v (.int .i64 i)), (2, .v (aggV ([nW s, nQ c]))), (3, .v (aggV (d.map byteV))), (1900000, tab 0 (H8.list.map u32V)), (1900001, tab 1 (K64.map u32V))]) (fun w => (StartM.v rfl (StartM.v rfl (StartM.v rfl (StartM.v rfl (StartM.m (by simp [tabs]) (by decide) (StartM.m (by simp [tabs]) (by decide) StartM.nil))))))) fun w₀ hM => ?_
 have htab := tabs_hi hM
 refine GS ?_
 refine TN 0 ?_
 refine RN ?_
 refine ⟨_, _, eff_box (n := 18) (d := 4) (k := 1000004) rfl (by decide), fun b4 hb4 => ?_⟩
 have hBb4 := hb4.1
 refine TN 1 ?_
 refine RN ?_
 refine ⟨_, _, eff_box1 (n := 18) (d := 5) (k := 1000005) rfl rfl (by decide), fun b5 hb5 => ?_⟩
 have hBb5 := hb5.1
 refine TN 2 ?_
 refine RN ?_
 refine ⟨_, _, eff_box (n := 18) (d := 6) (k := 1000006) rfl (by decide), fun b6 hb6 => ?_⟩
 have hBb6 := hb6.1
 refine TN 3 ?_
 refine RN ?_
 refine ⟨_, _, eff_box (n := 18) (d := 7) (k := 1000007) rfl (by decide), fun b7 hb7 => ?_⟩
 have hBb7 := hb7.1
 refine TN 4 ?_
 refine RN ?_
 refine ⟨_, _, eff_alloc (n := 18) (d := 8) (k := 1000008) zero33 (by decide), fun b8 hb8 => ?_⟩
 have hBb8 := hb8.1
 have hlt_b7_b8 : b7 < b8 := hb8.2 1000007 _ _ _ rfl
 refine TN 5 ?_
 refine RN ?_
 refine ⟨_, _, eff_alloc (n := 18) (d := 9) (k := 1000009) zero34 (by decide), fun b9 hb9 => ?_⟩
 have hBb9 := hb9.1
 refine TL ?_
 refine RA rfl ?_
 refine RN ?_
 refine GS ?_
 refine TL ?_
 refine RS (ok_loadV (s := 1000005) (by decide) Tryz.underlying3 rfl rfl rfl (rfl)) ?_
 refine RS (ok_call (checkIndex_no i h) (A1 rfl)) ?_
 refine RS (ok_makeFuncN [ptr b4, ptr b6, ptr b7, ptr b8, ptr b5, ptr b9] ⟨rfl, rfl, rfl, rfl, rfl, rfl, trivial⟩) ?_
 refine RS (ok_call (behind_no 1 (by decide) _) (A2 rfl rfl)) ?_
 refine RA rfl ?_
 refine RN ?_
 refine A.regsN (E1 := ((15, .v _) :: (16, .v _) :: (17, .v _) :: (10, .v _) :: _)) [_, _, _, _, _, _] (by kernel_rfl) (by kernel_rfl) (by kernel_rfl) (Nops.cons (_) rfl (.inr ⟨_, rfl, .inl rfl⟩) FromN.all (nop_loadA (s := 1000008) (vL rfl) Tryz.underlying33 rfl (size33.of (rfl)) rfl rfl) (Nops.cons (_) rfl (.inr ⟨_, rfl, .inl rfl⟩) FromN.all (nop_loadA (s := 1000009) (vL rfl) Tryz.underlying34 rfl (size34.of (rfl)) rfl rfl) (Nops.cons (_) rfl (.inr ⟨_, rfl, .inl rfl⟩) FromN.all (nop_move rfl) (Nops.cons ((15, .v _) :: _) rfl (.inl rfl) (FromN.op 0 (by kernel_rfl) rfl rfl FromN.all) (nop_storeA (s := 1000008) (vL rfl) (size33.of (rfl)) rfl rfl (rfl) rfl) (Nops.cons ((16, .v _) :: _) rfl (.inl rfl) (FromN.op 1 (by kernel_rfl) rfl rfl FromN.all) (nop_storeA (s := 1000009) (vL rfl) (size34.of (rfl)) rfl rfl (rfl) rfl) (Nops.cons ((17, .v _) :: _) rfl (.inr ⟨_, rfl, .inr rfl⟩) (FromN.op 2 (by kernel_rfl) rfl rfl FromN.all) (nop_assign rfl) Nops.nil)))))) (FromE.op 0 rfl rfl (FromE.op 1 rfl rfl (FromE.op 2 rfl rfl (FromE.op 5 rfl rfl FromE.all)))) ?_
 refine A.ret ?_
 exact End.cell3 (s := 1000008) (s₂ := 1000009) rfl Tryz.underlying33 rfl (size33.of (rfl)) Tryz.underlying34 rfl (size34.of (rfl)) rfl rfl rfl rfl rfl
set_option maxHeartbeats 1000000 in
theorem Open1_fnL (B : Nat) (p0 p1 p2 p3 : Nat) (f : Nat → Nat) (mk : List UInt8) (hf : By f) (hmk : mk.length = 32) (s c : Nat) (hs : s < 4294967296) (hc : c < 18446744073709551616) (d : List UInt8) (hd : d.length = 32)  (hB3 : B ≤ p3) (hne : p2 < p3) : FnL Tryz.prog 23 B [(33, p3)] [ptr p0, ptr p1, ptr p2, ptr p3] [(1000005, blk p0 26 (rowV 16 f ++ mk.map byteV)), (1000007, blk p1 30 [nW s, nQ c]), (1000008, blk p2 33 (d.map byteV)), (1000012, blk p3 33 (List.replicate 32 (.int .u8 0)))] (fun _ _ => True) (fun _ => .tuple #[]) (fun b => [(1000012, blk p3 33 ((xorK f s c 0 d).map byteV))]) := by
 refine FnL.of (n := 8) (kw := 1000099) (ks := 1000098) Tryz.func23 rfl (by kernel_rfl) Tryz.ntmps23 (by simp) (by decide) (vbL_cons (vL rfl) (vbL_cons (vL rfl) (vbL_cons (vL rfl) (vbL_cons (vL rfl) vbL_nil)))) (vL rfl) (vL rfl) [(0, .v (ptr p0)), (1, .v (ptr p1)), (2, .v (ptr p2)), (3, .v (ptr p3))]
  (fun p hp => by simp only [List.mem_cons, List.not_mem_nil, or_false] at hp; rcases hp with rfl | rfl | rfl | rfl <;> exact ⟨_, rfl, rfl⟩) fun w₀ w₁ hw hw₁ => ?_
 have hBp3 : w₀.heap.size ≤ p3 := by omega
 refine GE ?_
 refine TF 4 ?_
 refine RS (ok_loadA (s := 1000005) (by decide) Tryz.underlying26 rfl (size26.of (KM_len f hmk)) rfl rfl) ?_
 refine RS (ok_loadA (s := 1000007) (by decide) Tryz.underlying30 rfl (size30.of (rfl)) rfl rfl) ?_
 refine RS (ok_loadA (s := 1000008) (by decide) Tryz.underlying33 rfl (size33.of (by rw [List.length_map, hd])) rfl rfl) ?_
 refine RS (ok_call (combined_fn f mk hf hmk s c hs hc d hd) (A3 rfl rfl rfl)) ?_
 refine RN ?_
 refine ⟨_, eff_storeA (n := 8) (s := 1000012) (size33.of (by rw [List.length_map, xorK_length, hd])) rfl rfl (all_bytes _) hBp3 rfl (by simp [xorK_length, hd]) (LT 1000005 rfl (LT 1000007 rfl (LB 1000008 rfl (LeftS.cons (t := 1000099) rfl (Surv.wroteL (by simp)) LN)))), ?_⟩
 refine TL ?_
 refine RN ?_
 exact End.wroteL0 (.inr rfl) rfl (kw := 1000099) rfl 0 trivial (by decide) (lookL_cons (k := 1000012) (vL rfl) rfl lookL_nil)
set_option maxHeartbeats 1000000 in
theorem Open_bad (f : Nat → Nat) (mk : List UInt8) (hf : By f) (hmk : mk.length = 32) (i : Int) (h : i < 0 ∨ 4096 ≤ i) (s c : Nat) (hs : s < 4294967296) (hc : c < 18446744073709551616) (d : List UInt8) (hd : d.length = 32) (tg : List UInt8) (htg : tg.length = 32)  : FnM Tryz.prog 9 tabs [.v (aggV ((rowV 16 f ++ mk.map byteV))), .v (.int .i64 i), .v (aggV ([nW s, nQ c])), .v (aggV (d.map byteV)), .v (aggV (tg.map byteV))] (.v (.tuple #[aggV (List.replicate 32 (.int .u8 0)), .int .i64 1])) := by
 refine FnM.of Tryz.func9 rfl (by kernel_rfl) Tryz.ntmps9 (by simp) (by decide) (fun w => [(0, .v (aggV ((rowV 16 f ++ mk.map byteV)))), (1, .v (.int .i64 i)), (2, .v (aggV ([nW s, nQ c]))), (3, .v (aggV (d.map byteV))), (4, .v (aggV (tg.map byteV))), (1900000, tab 0 (H8.list.map u32V)), (1900001, tab 1 (K64.map u32V))]) (fun w => (StartM.v rfl (StartM.v rfl (StartM.v rfl (StartM.v rfl (StartM.v rfl (StartM.m (by simp [tabs]) (by decide) (StartM.m (by simp [tabs]) (by decide) StartM.nil)))))))) fun w₀ hM => ?_
 have htab := tabs_hi hM
 refine GS ?_
 refine TN 0 ?_
 refine RN ?_
 refine ⟨_, _, eff_box (n := 24) (d := 5) (k := 1000005) rfl (by decide), fun b5 hb5 => ?_⟩
 have hBb5 := hb5.1
 refine TN 1 ?_
 refine RN ?_
 refine ⟨_, _, eff_box (n := 24) (d := 7) (k := 1000007) rfl (by decide), fun b7 hb7 => ?_⟩
 have hBb7 := hb7.1
 refine TN 2 ?_
 refine RN ?_
 refine ⟨_, _, eff_box (n := 24) (d := 8) (k := 1000008) rfl (by decide), fun b8 hb8 => ?_⟩
 have hBb8 := hb8.1
 refine TN 3 ?_
 refine RN ?_
 refine ⟨_, _, eff_box (n := 24) (d := 9) (k := 1000009) rfl (by decide), fun b9 hb9 => ?_⟩
 have hBb9 := hb9.1
 refine TN 4 ?_
 refine RN ?_
 refine ⟨_, _, eff_alloc (n := 24) (d := 10) (k := 1000010) zero33 (by decide), fun b10 hb10 => ?_⟩
 have hBb10 := hb10.1
 have hlt_b8_b10 : b8 < b10 := hb10.2 1000008 _ _ _ rfl
 refine TL ?_
 refine RA rfl ?_
 refine RN ?_
 refine GS ?_
 refine TN 0 ?_
 refine RN ?_
 refine ⟨_, _, eff_alloc (n := 24) (d := 12) (k := 1000012) zero33 (by decide), fun b12 hb12 => ?_⟩
 have hBb12 := hb12.1
 have hlt_b8_b12 : b8 < b12 := hb12.2 1000008 _ _ _ rfl
 have hlt_b10_b12 : b10 < b12 := hb12.2 1000010 _ _ _ rfl
 refine TL ?_
 refine RN ?_
 refine GS ?_
 refine TL ?_
 refine RS (ok_loadA (s := 1000005) (by decide) Tryz.underlying26 rfl (size26.of (KM_len f hmk)) rfl rfl) ?_
 refine RM rfl ?_
 refine RS (ok_loadA (s := 1000007) (by decide) Tryz.underlying30 rfl (size30.of (rfl)) rfl rfl) ?_
 refine RS (ok_loadA (s := 1000008) (by decide) Tryz.underlying33 rfl (size33.of (by rw [List.length_map, hd])) rfl rfl) ?_
 refine RS (ok_loadA (s := 1000009) (by decide) Tryz.underlying34 rfl (size34.of (by rw [List.length_map, htg])) rfl rfl) ?_
 refine RS (ok_callM (checkTag_bad f mk hf hmk i h s c hs hc d hd tg htg) (Sub.cons rfl (Sub.cons rfl KN)) tabs_v (Args.cons rfl (Le.refl _) (Args.cons rfl (Le.refl _) (A3 rfl rfl rfl)))) ?_
 refine RS (ok_makeFuncN [ptr b5, ptr b7, ptr b8, ptr b12] ⟨rfl, rfl, rfl, rfl, trivial⟩) ?_
 refine RS (ok_call (behind_no 1 (by decide) _) (A2 rfl rfl)) ?_
 refine RA rfl ?_
 refine RN ?_
 refine GS ?_
 refine TF 2 ?_
 refine RS (ok_loadA (s := 1000012) (by decide) Tryz.underlying33 rfl (size33.of (rfl)) rfl rfl) ?_
 refine RM rfl ?_
 refine RN ?_
 refine ⟨_, eff_storeA (n := 24) (s := 1000010) (size33.of (rfl)) rfl rfl (rfl) hBb10 rfl (rfl) (LV 10 rfl (LV 23 rfl (LT 1000005 rfl (LT 1000007 rfl (LB 1000008 rfl (LT 1000009 rfl (LB 1000012 rfl (LeftS.cons (t := 1900000) rfl (Surv.tab (by omega)) (LeftS.cons (t := 1900001) rfl (Surv.tab (by omega)) LN))))))))), ?_⟩
 refine TL ?_
 refine RA rfl ?_
 refine RN ?_
 refine A.ret ?_
 exact End.cellV (s := 1000010) rfl Tryz.underlying33 rfl (size33.of (rfl)) rfl rfl rfl
set_option maxHeartbeats 1000000 in
theorem Open_int (f : Nat → Nat) (mk : List UInt8) (hf : By f) (hmk : mk.length = 32) (i : Nat) (s c : Nat) (hs : s < 4294967296) (hc : c < 18446744073709551616) (d : List UInt8) (hd : d.length = 32) (hi : i < 4096)(tg : List UInt8) (htg : tg.length = 32) (h : tg ≠ (hmac mk (msgL i s c d))) : FnM Tryz.prog 9 tabs [.v (aggV ((rowV 16 f ++ mk.map byteV))), .v (nI i), .v (aggV ([nW s, nQ c])), .v (aggV (d.map byteV)), .v (aggV (tg.map byteV))] (.v (.tuple #[aggV (List.replicate 32 (.int .u8 0)), .int .i64 9])) := by
 refine FnM.of Tryz.func9 rfl (by kernel_rfl) Tryz.ntmps9 (by simp) (by decide) (fun w => [(0, .v (aggV ((rowV 16 f ++ mk.map byteV)))), (1, .v (nI i)), (2, .v (aggV ([nW s, nQ c]))), (3, .v (aggV (d.map byteV))), (4, .v (aggV (tg.map byteV))), (1900000, tab 0 (H8.list.map u32V)), (1900001, tab 1 (K64.map u32V))]) (fun w => (StartM.v rfl (StartM.v rfl (StartM.v rfl (StartM.v rfl (StartM.v rfl (StartM.m (by simp [tabs]) (by decide) (StartM.m (by simp [tabs]) (by decide) StartM.nil)))))))) fun w₀ hM => ?_
 have htab := tabs_hi hM
 refine GS ?_
 refine TN 0 ?_
 refine RN ?_
 refine ⟨_, _, eff_box (n := 24) (d := 5) (k := 1000005) rfl (by decide), fun b5 hb5 => ?_⟩
 have hBb5 := hb5.1
 refine TN 1 ?_
 refine RN ?_
 refine ⟨_, _, eff_box (n := 24) (d := 7) (k := 1000007) rfl (by decide), fun b7 hb7 => ?_⟩
 have hBb7 := hb7.1
 refine TN 2 ?_
 refine RN ?_
 refine ⟨_, _, eff_box (n := 24) (d := 8) (k := 1000008) rfl (by decide), fun b8 hb8 => ?_⟩
 have hBb8 := hb8.1
 refine TN 3 ?_
 refine RN ?_
 refine ⟨_, _, eff_box (n := 24) (d := 9) (k := 1000009) rfl (by decide), fun b9 hb9 => ?_⟩
 have hBb9 := hb9.1
 refine TN 4 ?_
 refine RN ?_
 refine ⟨_, _, eff_alloc (n := 24) (d := 10) (k := 1000010) zero33 (by decide), fun b10 hb10 => ?_⟩
 have hBb10 := hb10.1
 have hlt_b8_b10 : b8 < b10 := hb10.2 1000008 _ _ _ rfl
 refine TL ?_
 refine RA rfl ?_
 refine RN ?_
 refine GS ?_
 refine TN 0 ?_
 refine RN ?_
 refine ⟨_, _, eff_alloc (n := 24) (d := 12) (k := 1000012) zero33 (by decide), fun b12 hb12 => ?_⟩
 have hBb12 := hb12.1
 have hlt_b8_b12 : b8 < b12 := hb12.2 1000008 _ _ _ rfl
 have hlt_b10_b12 : b10 < b12 := hb12.2 1000010 _ _ _ rfl
 refine TL ?_
 refine RN ?_
 refine GS ?_
 refine TL ?_
 refine RS (ok_loadA (s := 1000005) (by decide) Tryz.underlying26 rfl (size26.of (KM_len f hmk)) rfl rfl) ?_
 refine RM rfl ?_
 refine RS (ok_loadA (s := 1000007) (by decide) Tryz.underlying30 rfl (size30.of (rfl)) rfl rfl) ?_
 refine RS (ok_loadA (s := 1000008) (by decide) Tryz.underlying33 rfl (size33.of (by rw [List.length_map, hd])) rfl rfl) ?_
 refine RS (ok_loadA (s := 1000009) (by decide) Tryz.underlying34 rfl (size34.of (by rw [List.length_map, htg])) rfl rfl) ?_
 refine RS (ok_callM (checkTag_int f mk hf hmk i s c hs hc d hd hi tg htg h) (Sub.cons rfl (Sub.cons rfl KN)) tabs_v (Args.cons rfl (Le.refl _) (Args.cons rfl (Le.refl _) (A3 rfl rfl rfl)))) ?_
 refine RS (ok_makeFuncN [ptr b5, ptr b7, ptr b8, ptr b12] ⟨rfl, rfl, rfl, rfl, trivial⟩) ?_
 refine RS (ok_call (behind_no 9 (by decide) _) (A2 rfl rfl)) ?_
 refine RA rfl ?_
 refine RN ?_
 refine GS ?_
 refine TF 2 ?_
 refine RS (ok_loadA (s := 1000012) (by decide) Tryz.underlying33 rfl (size33.of (rfl)) rfl rfl) ?_
 refine RM rfl ?_
 refine RN ?_
 refine ⟨_, eff_storeA (n := 24) (s := 1000010) (size33.of (rfl)) rfl rfl (rfl) hBb10 rfl (rfl) (LV 10 rfl (LV 23 rfl (LT 1000005 rfl (LT 1000007 rfl (LB 1000008 rfl (LT 1000009 rfl (LB 1000012 rfl (LeftS.cons (t := 1900000) rfl (Surv.tab (by omega)) (LeftS.cons (t := 1900001) rfl (Surv.tab (by omega)) LN))))))))), ?_⟩
 refine TL ?_
 refine RA rfl ?_
 refine RN ?_
 refine A.ret ?_
 exact End.cellV (s := 1000010) rfl Tryz.underlying33 rfl (size33.of (rfl)) rfl rfl rfl
set_option maxHeartbeats 1000000 in
theorem Open_ok (f : Nat → Nat) (mk : List UInt8) (hf : By f) (hmk : mk.length = 32) (i : Nat) (s c : Nat) (hs : s < 4294967296) (hc : c < 18446744073709551616) (d : List UInt8) (hd : d.length = 32) (hi : i < 4096)(tg : List UInt8) (htg : tg.length = 32) (h : tg = (hmac mk (msgL i s c d))) : FnM Tryz.prog 9 tabs [.v (aggV ((rowV 16 f ++ mk.map byteV))), .v (nI i), .v (aggV ([nW s, nQ c])), .v (aggV (d.map byteV)), .v (aggV (tg.map byteV))] (.v (.tuple #[aggV ((xorK f s c 0 d).map byteV), .int .i64 0])) := by
 refine FnM.of Tryz.func9 rfl (by kernel_rfl) Tryz.ntmps9 (by simp) (by decide) (fun w => [(0, .v (aggV ((rowV 16 f ++ mk.map byteV)))), (1, .v (nI i)), (2, .v (aggV ([nW s, nQ c]))), (3, .v (aggV (d.map byteV))), (4, .v (aggV (tg.map byteV))), (1900000, tab 0 (H8.list.map u32V)), (1900001, tab 1 (K64.map u32V))]) (fun w => (StartM.v rfl (StartM.v rfl (StartM.v rfl (StartM.v rfl (StartM.v rfl (StartM.m (by simp [tabs]) (by decide) (StartM.m (by simp [tabs]) (by decide) StartM.nil)))))))) fun w₀ hM => ?_
 have htab := tabs_hi hM
 refine GS ?_
 refine TN 0 ?_
 refine RN ?_
 refine ⟨_, _, eff_box (n := 24) (d := 5) (k := 1000005) rfl (by decide), fun b5 hb5 => ?_⟩
 have hBb5 := hb5.1
 refine TN 1 ?_
 refine RN ?_
 refine ⟨_, _, eff_box (n := 24) (d := 7) (k := 1000007) rfl (by decide), fun b7 hb7 => ?_⟩
 have hBb7 := hb7.1
 refine TN 2 ?_
 refine RN ?_
 refine ⟨_, _, eff_box (n := 24) (d := 8) (k := 1000008) rfl (by decide), fun b8 hb8 => ?_⟩
 have hBb8 := hb8.1
 refine TN 3 ?_
 refine RN ?_
 refine ⟨_, _, eff_box (n := 24) (d := 9) (k := 1000009) rfl (by decide), fun b9 hb9 => ?_⟩
 have hBb9 := hb9.1
 refine TN 4 ?_
 refine RN ?_
 refine ⟨_, _, eff_alloc (n := 24) (d := 10) (k := 1000010) zero33 (by decide), fun b10 hb10 => ?_⟩
 have hBb10 := hb10.1
 have hlt_b8_b10 : b8 < b10 := hb10.2 1000008 _ _ _ rfl
 refine TL ?_
 refine RA rfl ?_
 refine RN ?_
 refine GS ?_
 refine TN 0 ?_
 refine RN ?_
 refine ⟨_, _, eff_alloc (n := 24) (d := 12) (k := 1000012) zero33 (by decide), fun b12 hb12 => ?_⟩
 have hBb12 := hb12.1
 have hlt_b8_b12 : b8 < b12 := hb12.2 1000008 _ _ _ rfl
 have hlt_b10_b12 : b10 < b12 := hb12.2 1000010 _ _ _ rfl
 refine TL ?_
 refine RN ?_
 refine GS ?_
 refine TF 7 ?_
 refine RS (ok_loadA (s := 1000005) (by decide) Tryz.underlying26 rfl (size26.of (KM_len f hmk)) rfl rfl) ?_
 refine RM rfl ?_
 refine RS (ok_loadA (s := 1000007) (by decide) Tryz.underlying30 rfl (size30.of (rfl)) rfl rfl) ?_
 refine RS (ok_loadA (s := 1000008) (by decide) Tryz.underlying33 rfl (size33.of (by rw [List.length_map, hd])) rfl rfl) ?_
 refine RS (ok_loadA (s := 1000009) (by decide) Tryz.underlying34 rfl (size34.of (by rw [List.length_map, htg])) rfl rfl) ?_
 refine RS (ok_callM (checkTag_ok f mk hf hmk i s c hs hc d hd hi tg htg h) (Sub.cons rfl (Sub.cons rfl KN)) tabs_v (Args.cons rfl (Le.refl _) (Args.cons rfl (Le.refl _) (A3 rfl rfl rfl)))) ?_
 refine RS (ok_makeFuncN [ptr b5, ptr b7, ptr b8, ptr b12] ⟨rfl, rfl, rfl, rfl, trivial⟩) ?_
 refine RN ?_
 refine ⟨_, eff_callL1 (n := 24) (vs := [.int .i64 0, .func (.func 23) #[] #[ptr b5, ptr b7, ptr b8, ptr b12]]) (us := []) (behind_fnL (fun _ _ _ _ _ => trivial) (fun p hp => by simp only [List.mem_cons, List.not_mem_nil, or_false] at hp; rcases hp with rfl <;> assumption) (Open1_fnL w₀.heap.size b5 b7 b8 b12 f mk hf hmk s c hs hc d hd hBb12 (by omega))) rfl (A2 rfl rfl) (subL_M (KC 1000005 rfl (KC 1000007 rfl (KC 1000008 rfl (KC 1000012 rfl KN)))) (vbL_cons (vL rfl) (vbL_cons (vL rfl) (vbL_cons (vL rfl) (vbL_cons (vL rfl) vbL_nil))))) (vbL_cons (vL rfl) vbL_nil) (gsL_cons (k := 1000012) hBb12 rfl gsL_nil) (by decide) (by decide) (LeftL.one (LV 10 rfl (LV 12 rfl (LT 1000005 rfl (LT 1000007 rfl (LB 1000008 rfl (LT 1000009 rfl (LB 1000010 rfl (LeftS.cons (t := 1900000) rfl (Surv.tab (by omega)) (LeftS.cons (t := 1900001) rfl (Surv.tab (by omega)) LN)))))))))), ?_⟩
 refine TL ?_
 refine RA rfl ?_
 refine RN ?_
 refine GS ?_
 refine TF 2 ?_
 refine RS (ok_loadA (s := 1000012) (by decide) Tryz.underlying33 rfl (size33.of (by rw [List.length_map, xorK_length, hd])) rfl rfl) ?_
 refine RM rfl ?_
 refine RN ?_
 refine ⟨_, eff_storeA (n := 24) (s := 1000010) (size33.of (by rw [List.length_map, xorK_length, hd])) rfl rfl (all_bytes _) hBb10 rfl (by simp [xorK_length, hd]) (LV 10 rfl (LV 23 rfl (LT 1000005 rfl (LT 1000007 rfl (LB 1000008 rfl (LT 1000009 rfl (LB 1000012 rfl (LeftS.cons (t := 1900000) rfl (Surv.tab (by omega)) (LeftS.cons (t := 1900001) rfl (Surv.tab (by omega)) LN))))))))), ?_⟩
 refine TL ?_
 refine RA rfl ?_
 refine RN ?_
 refine A.ret ?_
 exact End.cellV (s := 1000010) rfl Tryz.underlying33 rfl (size33.of (by rw [List.length_map, xorK_length, hd])) rfl rfl rfl
end Go.Proofs.YthadcgkcgpinhaaGreatDoor
namespace Go.Proofs.YthadcgkcgpinhaaGreatDoor
open Go Go.RowKit
set_option linter.unusedVariables false
set_option maxRecDepth 20000

theorem same9_fn (l : List UInt8) (f : Int) : Fn Tryz.prog 27 [bytes l l.length, .v (.int .i64 f), byt l, .v (.int .i64 f)] (.v (.bool true)) := by
 refine Fn.of Tryz.func27 rfl (by kernel_rfl) Tryz.ntmps27 (by simp) (fun w => [(0, old w.heap.size (bytes l l.length)), (1, .v (.int .i64 f)), (2, old w.heap.size (byt l)), (3, .v (.int .i64 f))]) (fun w => (Start.old rfl (Start.v rfl (Start.old rfl (Start.v rfl Start.nil))))) fun w₀ => ?_
 refine GS ?_
 refine TL ?_
 refine RA rfl ?_
 refine RN ?_
 refine GS ?_
 refine TL ?_
 refine RM rfl ?_
 refine RM rfl ?_
 refine RBS rfl rfl rfl (.bool true) (by simp) ?_
 refine RM rfl ?_
 refine RQ (ok_move rfl) ?_
 refine RQ (ok_str (l := l) Tryz.underlying49 Tryz.underlying5 Tryz.underlying9 rfl ((Le.old _ _).trans (le_byt _ _))) ?_
 refine RQ (ok_move rfl) ?_
 refine RQ (ok_str (l := l) Tryz.underlying49 Tryz.underlying5 Tryz.underlying9 rfl (Le.old _ _)) ?_
 refine RQ (ok_seq rfl rfl) ?_; refine RZ (.bool true) (by simp) ?_
 refine RP rfl rfl ?_
 refine RM rfl ?_
 refine RQ (ok_move rfl) ?_
 refine RQ (ok_cap Tryz.underlying49 rfl (Le.old _ _)) ?_
 refine RQ (ok_move rfl) ?_
 refine RQ (ok_lenB Tryz.underlying49 rfl ((Le.old _ _).trans (le_byt _ _))) ?_
 refine RQ (ok_bin rfl rfl rfl) ?_; refine RZ (.bool true) (by simp) ?_
 refine RP rfl rfl ?_
 refine RA rfl ?_
 refine RN ?_
 refine A.ret ?_
 exact End.ret1 rfl rfl (by first | exact Le.refl _ | exact Le.old _ _)
theorem bad9_neg (i : Int) (h : i < 0) : Fn Tryz.prog 8 [.v (.int .i64 i)] (.v (.bool true)) := by
 refine Fn.of Tryz.func8 rfl (by kernel_rfl) Tryz.ntmps8 (by simp) (fun w => [(0, .v (.int .i64 i))]) (fun w => (Start.v rfl Start.nil)) fun w₀ => ?_
 refine GS ?_
 refine TL ?_
 refine RA rfl ?_
 refine RN ?_
 refine GS ?_
 refine TL ?_
 refine RM rfl ?_
 refine RBS rfl rfl rfl (.bool true) (by simp [h]) ?_
 refine RM rfl ?_
 refine RK ?_
 refine RK ?_
 refine RP rfl rfl ?_
 refine RA rfl ?_
 refine RN ?_
 refine A.ret ?_
 exact End.ret1 rfl rfl (by first | exact Le.refl _ | exact Le.old _ _)
theorem bad9_big (i : Int) (h0 : 0 ≤ i) (h : 4096 ≤ i) : Fn Tryz.prog 8 [.v (.int .i64 i)] (.v (.bool true)) := by
 refine Fn.of Tryz.func8 rfl (by kernel_rfl) Tryz.ntmps8 (by simp) (fun w => [(0, .v (.int .i64 i))]) (fun w => (Start.v rfl Start.nil)) fun w₀ => ?_
 refine GS ?_
 refine TL ?_
 refine RA rfl ?_
 refine RN ?_
 refine GS ?_
 refine TL ?_
 refine RM rfl ?_
 refine RBS rfl rfl rfl (.bool false) (by simp; omega) ?_
 refine RM rfl ?_
 refine RQ (ok_move rfl) ?_
 refine RQ (ok_bin rfl rfl rfl) ?_; refine RZ (.bool true) (by simp; omega) ?_
 refine RP rfl rfl ?_
 refine RA rfl ?_
 refine RN ?_
 refine A.ret ?_
 exact End.ret1 rfl rfl (by first | exact Le.refl _ | exact Le.old _ _)
theorem bad9_no (i : Int) (h0 : 0 ≤ i) (h : i < 4096) : Fn Tryz.prog 8 [.v (.int .i64 i)] (.v (.bool false)) := by
 refine Fn.of Tryz.func8 rfl (by kernel_rfl) Tryz.ntmps8 (by simp) (fun w => [(0, .v (.int .i64 i))]) (fun w => (Start.v rfl Start.nil)) fun w₀ => ?_
 refine GS ?_
 refine TL ?_
 refine RA rfl ?_
 refine RN ?_
 refine GS ?_
 refine TL ?_
 refine RM rfl ?_
 refine RBS rfl rfl rfl (.bool false) (by simp; omega) ?_
 refine RM rfl ?_
 refine RQ (ok_move rfl) ?_
 refine RQ (ok_bin rfl rfl rfl) ?_; refine RZ (.bool false) (by simp; omega) ?_
 refine RP rfl rfl ?_
 refine RA rfl ?_
 refine RN ?_
 refine A.ret ?_
 exact End.ret1 rfl rfl (by first | exact Le.refl _ | exact Le.old _ _)
theorem bad9_yes (i : Int) (h : i < 0 ∨ 4096 ≤ i) : Fn Tryz.prog 8 [.v (.int .i64 i)] (.v (.bool true)) := by
 by_cases h0 : i < 0
 ·exact bad9_neg i h0
 ·exact bad9_big i (by omega) (by omega)
theorem ref9Message_fn (i : Nat) (s c : Nat) (hs : s < 4294967296) (hc : c < 18446744073709551616) (d : List UInt8) (hd : d.length = 32) (hi : i < 4096) : Fn Tryz.prog 13 [.v (nI i), .v (aggV ([nW s, nQ c])), .v (aggV (d.map byteV))] (byt (msgL i s c d)) := by
 refine Fn.of Tryz.func13 rfl (by kernel_rfl) Tryz.ntmps13 (by simp) (fun w => [(0, .v (nI i)), (1, .v (aggV ([nW s, nQ c]))), (2, .v (aggV (d.map byteV)))]) (fun w => (Start.v rfl (Start.v rfl (Start.v rfl Start.nil)))) fun w₀ => ?_
 refine GS ?_
 refine TN 0 ?_
 refine RN ?_
 refine ⟨_, _, eff_box (n := 15) (d := 4) (k := 1000004) rfl (by decide), fun b4 hb4 => ?_⟩
 have hBb4 := hb4.1
 refine TN 1 ?_
 refine RN ?_
 refine ⟨_, _, eff_box (n := 15) (d := 5) (k := 1000005) rfl (by decide), fun b5 hb5 => ?_⟩
 have hBb5 := hb5.1
 refine TL ?_
 refine RA rfl ?_
 refine RN ?_
 refine GD ?_
 refine TD 7 ?_
 refine RM rfl ?_
 refine RS (ok_conv Tryz.underlying3 Tryz.underlying27 rfl) ?_; refine RZ (nW i) (by rw [wrapN_u32 (by omega)]) ?_
 refine RS (ok_call ((refPut32_fn ((i : Nat) : Int) (by omega) (by omega)).le (d' := bytes (be 4 i) 4) (Le.refl _)) (A1 rfl)) ?_
 refine RS (ok_loadA (s := 1000004) (by decide) Tryz.underlying30 rfl (size30.of (rfl)) rfl rfl) ?_
 refine RS (ok_call (ref8Put_fn s c hs hc) (A1 rfl)) ?_
 refine RS (ok_appendFull (l := be 4 i) (m := nonceL s c) Tryz.underlying49 info5 (by decide) rfl rfl (Le.eq (by rw [be_length])) rfl (Le.refl _) (by rw [be_length]; decide) (by rw [nonceL_length]; decide) (by rw [be_length, nonceL_length]; decide)) ?_
 refine RS ((ok_sliceA (s := 1000005) 0 32 (by decide) Tryz.underlying33 info5 rfl rfl (.inr ⟨rfl, rfl⟩) (.inr ⟨rfl, rfl⟩) (by omega) (by omega) (by rw [List.length_map, hd]) (by decide)).le (d' := byt d) (byt_all hd)) ?_
 refine RN ?_
 refine ⟨_, eff_appendS (vs := d.map byteV) Tryz.underlying49 info5 (by decide) rfl rfl rfl (Le.eq (byt_vals _)) (by simp [byteV, Value.oneCell']) (by simp [be_length, nonceL_length, hd]) (by decide) (fun g hg => (LT 1000004 rfl (LT 1000005 rfl LN))), ?_⟩
 refine TL ?_
 refine RA rfl ?_
 refine RN ?_
 refine A.ret ?_
 refine End.ret1 rfl rfl (Le.trans (Le.eq ?_) (own_byt (B := w₀.heap.size) (e := 5) (n := 48) (l := (msgL i s c d)) (msgL_length hd).symm))
 rw [List.length_map, be_length, nonceL_length, hd, ← List.map_append, List.append_assoc]; rfl
set_option maxHeartbeats 2000000 in
theorem ref9Xor_fn (f : Nat → Nat) (hf : By f) (s c : Nat) (hs : s < 4294967296) (hc : c < 18446744073709551616) (d : List UInt8) (hd : d.length = 32)  : Fn Tryz.prog 28 [.v (aggV (rowV 16 (f))), .v (aggV ([nW s, nQ c])), .v (aggV (d.map byteV))] (.v (aggV ((xorK f s c 0 d).map byteV))) := by
 have hXl : (xorK f s c 0 d).length = 32 := by rw [xorK_length, hd]
 refine Fn.of Tryz.func28 rfl (by kernel_rfl) Tryz.ntmps28 (by simp) (fun w => [(0, .v (aggV (rowV 16 (f)))), (1, .v (aggV ([nW s, nQ c]))), (2, .v (aggV (d.map byteV)))]) (fun w => (Start.v rfl (Start.v rfl (Start.v rfl Start.nil)))) fun w₀ => ?_
 refine GS ?_
 refine TN 0 ?_
 refine RN ?_
 refine ⟨_, _, eff_box (n := 25) (d := 3) (k := 1000003) rfl (by decide), fun b3 hb3 => ?_⟩
 have hBb3 := hb3.1
 refine TN 1 ?_
 refine RN ?_
 refine ⟨_, _, eff_box (n := 25) (d := 4) (k := 1000004) rfl (by decide), fun b4 hb4 => ?_⟩
 have hBb4 := hb4.1
 refine TN 2 ?_
 refine RN ?_
 refine ⟨_, _, eff_box (n := 25) (d := 5) (k := 1000005) rfl (by decide), fun b5 hb5 => ?_⟩
 have hBb5 := hb5.1
 refine TN 3 ?_
 refine RN ?_
 refine ⟨_, _, eff_alloc (n := 25) (d := 6) (k := 1000006) zero33 (by decide), fun b6 hb6 => ?_⟩
 have hBb6 := hb6.1
 have hlt_b5_b6 : b5 < b6 := hb6.2 1000005 _ _ _ rfl
 refine TL ?_
 refine RN ?_
 refine GD ?_
 refine TL ?_
 refine RS (ok_loadA (s := 1000003) (by decide) Tryz.underlying22 rfl (size22.of (rowV_length _ _)) rfl rfl) ?_
 refine RS (ok_loadA (s := 1000004) (by decide) Tryz.underlying30 rfl (size30.of (rfl)) rfl rfl) ?_
 refine RS ((ok_sliceA (s := 1000005) 0 32 (by decide) Tryz.underlying33 info5 rfl rfl (.inr ⟨rfl, rfl⟩) (.inr ⟨rfl, rfl⟩) (by omega) (by omega) (by rw [List.length_map, hd]) (by decide)).le (d' := byt d) (byt_all hd)) ?_
 refine RS (ok_callB (ref7Xor_fnB f hf s c 0 d hs hc (by omega)) (fun _ _ h => own_mono h) (Args.cons rfl (Le.refl _) (A3 rfl rfl rfl))) ?_
 refine RA rfl ?_
 refine RN ?_
 refine GS ?_
 refine TN 0 ?_
 refine RN ?_
 refine ⟨_, _, eff_alloc (n := 25) (d := 8) (k := 1000008) zero33 (by decide), fun b8 hb8 => ?_⟩
 have hBb8 := hb8.1
 have hlt_b5_b8 : b5 < b8 := hb8.2 1000005 _ _ _ rfl
 have hlt_b6_b8 : b6 < b8 := hb8.2 1000006 _ _ _ rfl
 refine TL ?_
 refine RN ?_
 refine A.seq ?_
 refine GS ?_
 refine TL ?_
 refine RA rfl ?_
 refine RN ?_
 refine A.block ?_
 refine A.loop (ι := Nat) (fun i => i ≤ 32) (fun i => [(6, .v (.pointer (some ⟨b6, 0, none⟩))), (7, own w₀.heap.size 5 d.length ((xorK f s c 0 d).map byteV)), (8, .v (.pointer (some ⟨b8, 0, none⟩))), (9, .v (nI i)), (1000006, blk b6 33 (List.replicate 32 (.int .u8 0))), (1000008, blk b8 33 (((xorK f s c 0 d).take i).map byteV ++ List.replicate ((xorK f s c 0 d).length - i) (.int .u8 0)))]) (fun i => 32 - i) 0 ?_ ?_ ?_
 ·exact Nat.zero_le _
 ·exact (KC 6 rfl (KC 7 rfl (KC 8 rfl (KE 9 rfl (by rfl) (KC 1000006 rfl (KE 1000008 rfl (by rw [hXl]; rfl) KN))))))
 intro i hi'
 refine A.seq ?_
 refine GS ?_
 refine TL ?_
 refine RM rfl ?_
 refine RB rfl rfl rfl ?_
 refine RN ?_
 refine A.cond rfl (fun hc15 => ?_) (fun hc15 => ?_)
 ·have hlt : i < 32 := by simp at hc15; omega
  refine A.skip ?_
  refine EN ?_
  refine A.seq ?_
  refine A.block ?_
  refine GE ?_
  refine TF 6 ?_
  refine RM rfl ?_
  refine RM rfl ?_
  refine RM rfl ?_
  refine RS (ok_index (d := byteD ((xorK f s c 0 d).getD i 0)) Tryz.underlying49 info5 rfl (own_cat rfl (by rw [hXl, hd])) rfl (by omega) (by rw [Int.toNat_natCast, byteD_getD (by omega)])) ?_
  refine RS (ok_load Tryz.underlying5 rfl rfl) ?_; refine RZ (byteV ((xorK f s c 0 d).getD i 0)) (by rfl) ?_
  refine RS (ok_index0 (i) Tryz.underlying33 info5 rfl rfl (rfl) (hlt)) ?_
  refine RN ?_
  refine ⟨_, eff_storeS (n := 25) (s := 1000008) info5 rfl rfl rfl hBb8 rfl (by simp [hXl]; omega) (LV 6 rfl (LeftS.cons (t := 7) rfl (Surv.own (by decide)) (LV 8 rfl (LV 9 rfl (LB 1000006 rfl LN))))), ?_⟩
  refine TL ?_
  refine RN ?_
  refine End.normal_block ?_
  refine EN ?_
  refine GE ?_
  refine TL ?_
  refine RM rfl ?_
  refine RBS rfl rfl rfl (nI (i + 1)) (by rw [wrap_i64 (by omega) (by omega)]; exact congrArg (Value.int .i64) (by omega)) ?_
  refine RA rfl ?_
  refine RN ?_
  refine End.normal_then ?_
  refine End.again (i + 1) ?_ ?_ ?_
  ·show _ ≤ _; omega
  ·show _ - _ < _ - _; omega
  ·exact (KC 6 rfl (KC 7 rfl (KC 8 rfl (KC 9 rfl (KC 1000006 rfl (KE 1000008 rfl (by exact congrArg _ (fill_step (getD_get (l := (xorK f s c 0 d)) (by omega)))) KN))))))
 ·have hi2 : i = 32 := by simp at hc15; omega
  refine A.exit ?_
  refine End.exit_then ?_
  refine End.exit_then ?_
  refine End.exit_here ?_
  refine EN ?_
  refine GS ?_
  refine TF 1 ?_
  refine RS (ok_loadA (s := 1000008) (by decide) Tryz.underlying33 rfl (size33.of (by simp [hXl]; omega)) rfl rfl) ?_; refine RZ (aggV ((xorK f s c 0 d).map byteV)) (by rw [hi2, List.take_of_length_le (by omega), hXl]; simp) ?_
  refine RN ?_
  refine ⟨_, eff_storeA (n := 25) (s := 1000006) (size33.of (by simp [hXl])) rfl rfl (all_bytes _) hBb6 rfl (by simp [hXl]) (LV 6 rfl (LB 1000008 rfl LN)), ?_⟩
  refine TL ?_
  refine RN ?_
  refine A.ret ?_
  exact End.cell1 (s := 1000006) rfl Tryz.underlying33 rfl (size33.of (by rw [List.length_map, hXl])) rfl rfl (Le.refl _)
set_option maxHeartbeats 1000000 in
theorem ref9Seal_fn (f : Nat → Nat) (mk : List UInt8) (hf : By f) (hmk : mk.length = 32) (i : Nat) (s c : Nat) (hs : s < 4294967296) (hc : c < 18446744073709551616) (d : List UInt8) (hd : d.length = 32) (hi : i < 4096) : Fn Tryz.prog 11 [.v (aggV (rowV 16 (f))), .v (aggV (mk.map byteV)), .v (nI i), .v (aggV ([nW s, nQ c])), .v (aggV (d.map byteV))] (tup [.v (aggV ((xorK f s c 0 d).map byteV)), .v (aggV ((hmac mk (msgL i s c (xorK f s c 0 d))).map byteV))]) := by
 refine Fn.of Tryz.func11 rfl (by kernel_rfl) Tryz.ntmps11 (by simp) (fun w => [(0, .v (aggV (rowV 16 (f)))), (1, .v (aggV (mk.map byteV))), (2, .v (nI i)), (3, .v (aggV ([nW s, nQ c]))), (4, .v (aggV (d.map byteV)))]) (fun w => (Start.v rfl (Start.v rfl (Start.v rfl (Start.v rfl (Start.v rfl Start.nil)))))) fun w₀ => ?_
 refine GS ?_
 refine TN 0 ?_
 refine RN ?_
 refine ⟨_, _, eff_box (n := 24) (d := 5) (k := 1000005) rfl (by decide), fun b5 hb5 => ?_⟩
 have hBb5 := hb5.1
 refine TN 1 ?_
 refine RN ?_
 refine ⟨_, _, eff_box (n := 24) (d := 6) (k := 1000006) rfl (by decide), fun b6 hb6 => ?_⟩
 have hBb6 := hb6.1
 refine TN 2 ?_
 refine RN ?_
 refine ⟨_, _, eff_box (n := 24) (d := 8) (k := 1000008) rfl (by decide), fun b8 hb8 => ?_⟩
 have hBb8 := hb8.1
 refine TN 3 ?_
 refine RN ?_
 refine ⟨_, _, eff_box (n := 24) (d := 9) (k := 1000009) rfl (by decide), fun b9 hb9 => ?_⟩
 have hBb9 := hb9.1
 refine TN 4 ?_
 refine RN ?_
 refine ⟨_, _, eff_alloc (n := 24) (d := 10) (k := 1000010) zero33 (by decide), fun b10 hb10 => ?_⟩
 have hBb10 := hb10.1
 have hlt_b9_b10 : b9 < b10 := hb10.2 1000009 _ _ _ rfl
 refine TN 5 ?_
 refine RN ?_
 refine ⟨_, _, eff_alloc (n := 24) (d := 11) (k := 1000011) zero34 (by decide), fun b11 hb11 => ?_⟩
 have hBb11 := hb11.1
 refine TL ?_
 refine RN ?_
 refine GS ?_
 refine TN 4 ?_
 refine RS (ok_loadA (s := 1000005) (by decide) Tryz.underlying22 rfl (size22.of (rowV_length _ _)) rfl rfl) ?_
 refine RS (ok_loadA (s := 1000008) (by decide) Tryz.underlying30 rfl (size30.of (rfl)) rfl rfl) ?_
 refine RS (ok_loadA (s := 1000009) (by decide) Tryz.underlying33 rfl (size33.of (by rw [List.length_map, hd])) rfl rfl) ?_
 refine RS (ok_call (ref9Xor_fn f hf s c hs hc d hd) (A3 rfl rfl rfl)) ?_
 refine RN ?_
 refine ⟨_, _, eff_alloc (n := 24) (d := 12) (k := 1000012) zero33 (by decide), fun b12 hb12 => ?_⟩
 have hBb12 := hb12.1
 have hlt_b9_b12 : b9 < b12 := hb12.2 1000009 _ _ _ rfl
 have hlt_b10_b12 : b10 < b12 := hb12.2 1000010 _ _ _ rfl
 refine TF 5 ?_
 refine RN ?_
 refine ⟨_, eff_storeA (n := 24) (s := 1000012) (size33.of (by rw [List.length_map, xorK_length, hd])) rfl rfl (all_bytes _) hBb12 rfl (by simp [xorK_length, hd]) (LV 2 rfl (LV 6 rfl (LV 8 rfl (LV 10 rfl (LV 11 rfl (LV 12 rfl (LT 1000005 rfl (LT 1000006 rfl (LT 1000008 rfl (LB 1000009 rfl (LB 1000010 rfl (LT 1000011 rfl LN)))))))))))), ?_⟩
 refine TL ?_
 refine RN ?_
 refine GD ?_
 refine TD 7 ?_
 refine RS (ok_loadA (s := 1000012) (by decide) Tryz.underlying33 rfl (size33.of (by rw [List.length_map, xorK_length, hd])) rfl rfl) ?_
 refine RS ((ok_sliceA (s := 1000006) 0 32 (by decide) Tryz.underlying24 info5 rfl rfl (.inr ⟨rfl, rfl⟩) (.inr ⟨rfl, rfl⟩) (by omega) (by omega) (by rw [List.length_map, hmk]) (by decide)).le (d' := byt mk) (byt_all hmk)) ?_
 refine RM rfl ?_
 refine RS (ok_loadA (s := 1000008) (by decide) Tryz.underlying30 rfl (size30.of (rfl)) rfl rfl) ?_
 refine RS (ok_loadA (s := 1000012) (by decide) Tryz.underlying33 rfl (size33.of (by rw [List.length_map, xorK_length, hd])) rfl rfl) ?_
 refine RS (ok_call (ref9Message_fn i s c hs hc (xorK f s c 0 d) (by rw [xorK_length, hd]) hi) (A3 rfl rfl rfl)) ?_
 refine RS (ok_call (ref3Sum_fn mk (msgL i s c (xorK f s c 0 d)) (by omega) (by rw [msgL_length (by rw [xorK_length, hd])]; decide)) (A2 rfl rfl)) ?_
 refine RN ?_
 refine ⟨_, eff_storeA (n := 24) (s := 1000010) (size33.of (by rw [List.length_map, xorK_length, hd])) rfl rfl (all_bytes _) hBb10 rfl (by simp [xorK_length, hd]) (LV 10 rfl (LV 11 rfl (LV 23 rfl (LT 1000005 rfl (LT 1000006 rfl (LT 1000008 rfl (LB 1000009 rfl (LT 1000011 rfl (LB 1000012 rfl LN))))))))), ?_⟩
 refine TD 8 ?_
 refine RN ?_
 refine ⟨_, eff_storeA (n := 24) (s := 1000011) (size34.of (by rw [List.length_map, hmac_length])) rfl rfl (all_bytes _) hBb11 rfl (by simp [hmac_length]) (LV 10 rfl (LV 11 rfl (LT 1000005 rfl (LT 1000006 rfl (LT 1000008 rfl (LT 1000009 rfl (LT 1000010 rfl (LT 1000012 rfl LN)))))))), ?_⟩
 refine TL ?_
 refine RN ?_
 refine A.ret ?_
 exact End.cell2 (s := 1000010) (s' := 1000011) rfl Tryz.underlying33 rfl (size33.of (by rw [List.length_map, xorK_length, hd])) rfl rfl (Le.refl _) Tryz.underlying34 rfl (size34.of (by rw [List.length_map, hmac_length])) rfl rfl (Le.refl _)
set_option maxHeartbeats 1000000 in
theorem ref9Open_int (f : Nat → Nat) (mk : List UInt8) (hf : By f) (hmk : mk.length = 32) (i : Nat) (s c : Nat) (hs : s < 4294967296) (hc : c < 18446744073709551616) (d : List UInt8) (hd : d.length = 32) (hi : i < 4096)(tg : List UInt8) (htg : tg.length = 32) (h : tg ≠ (hmac mk (msgL i s c d))) : Fn Tryz.prog 12 [.v (aggV (rowV 16 (f))), .v (aggV (mk.map byteV)), .v (nI i), .v (aggV ([nW s, nQ c])), .v (aggV (d.map byteV)), .v (aggV (tg.map byteV))] (tup [.v (aggV (List.replicate 32 (.int .u8 0))), .v (.int .i64 9)]) := by
 refine Fn.of Tryz.func12 rfl (by kernel_rfl) Tryz.ntmps12 (by simp) (fun w => [(0, .v (aggV (rowV 16 (f)))), (1, .v (aggV (mk.map byteV))), (2, .v (nI i)), (3, .v (aggV ([nW s, nQ c]))), (4, .v (aggV (d.map byteV))), (5, .v (aggV (tg.map byteV)))]) (fun w => (Start.v rfl (Start.v rfl (Start.v rfl (Start.v rfl (Start.v rfl (Start.v rfl Start.nil))))))) fun w₀ => ?_
 refine GS ?_
 refine TN 0 ?_
 refine RN ?_
 refine ⟨_, _, eff_box (n := 27) (d := 6) (k := 1000006) rfl (by decide), fun b6 hb6 => ?_⟩
 have hBb6 := hb6.1
 refine TN 1 ?_
 refine RN ?_
 refine ⟨_, _, eff_box (n := 27) (d := 7) (k := 1000007) rfl (by decide), fun b7 hb7 => ?_⟩
 have hBb7 := hb7.1
 refine TN 2 ?_
 refine RN ?_
 refine ⟨_, _, eff_box (n := 27) (d := 9) (k := 1000009) rfl (by decide), fun b9 hb9 => ?_⟩
 have hBb9 := hb9.1
 refine TN 3 ?_
 refine RN ?_
 refine ⟨_, _, eff_box (n := 27) (d := 10) (k := 1000010) rfl (by decide), fun b10 hb10 => ?_⟩
 have hBb10 := hb10.1
 refine TN 4 ?_
 refine RN ?_
 refine ⟨_, _, eff_box (n := 27) (d := 11) (k := 1000011) rfl (by decide), fun b11 hb11 => ?_⟩
 have hBb11 := hb11.1
 refine TN 5 ?_
 refine RN ?_
 refine ⟨_, _, eff_alloc (n := 27) (d := 12) (k := 1000012) zero33 (by decide), fun b12 hb12 => ?_⟩
 have hBb12 := hb12.1
 have hlt_b10_b12 : b10 < b12 := hb12.2 1000010 _ _ _ rfl
 refine TL ?_
 refine RA rfl ?_
 refine RN ?_
 refine A.seq ?_
 refine GD ?_
 refine TL ?_
 refine RS ((ok_sliceA (s := 1000007) 0 32 (by decide) Tryz.underlying24 info5 rfl rfl (.inr ⟨rfl, rfl⟩) (.inr ⟨rfl, rfl⟩) (by omega) (by omega) (by rw [List.length_map, hmk]) (by decide)).le (d' := byt mk) (byt_all hmk)) ?_
 refine RM rfl ?_
 refine RS (ok_loadA (s := 1000009) (by decide) Tryz.underlying30 rfl (size30.of (rfl)) rfl rfl) ?_
 refine RS (ok_loadA (s := 1000010) (by decide) Tryz.underlying33 rfl (size33.of (by rw [List.length_map, hd])) rfl rfl) ?_
 refine RS (ok_call (ref9Message_fn i s c hs hc d hd hi) (A3 rfl rfl rfl)) ?_
 refine RS (ok_call (ref3Sum_fn mk (msgL i s c d) (by omega) (by rw [msgL_length hd]; decide)) (A2 rfl rfl)) ?_
 refine RS (ok_loadA (s := 1000011) (by decide) Tryz.underlying34 rfl (size34.of (by rw [List.length_map, htg])) rfl rfl) ?_
 refine RS (ok_neqT (n := 3) (decide ((hmac mk (msgL i s c d)) = tg)) flat34 (by decide) (by kernel_rfl) (by kernel_rfl) rfl rfl (kinB (hmac_length _ _)) (kinB htg) (decB _ _)) ?_; refine RZ (.bool true) (by simp [Ne.symm h]) ?_
 refine RN ?_
 refine A.yes rfl ?_
 refine GS ?_
 refine TF 1 ?_
 refine RS (ok_litP [] Tryz.underlying33 info5 zero33 (by decide) trivial rfl) ?_; refine RZ (aggV (List.replicate 32 (.int .u8 0))) (by rfl) ?_
 refine RN ?_
 refine ⟨_, eff_storeA (n := 27) (s := 1000012) (size33.of (rfl)) rfl rfl (rfl) hBb12 rfl (rfl) (LV 12 rfl (LT 1000006 rfl (LT 1000007 rfl (LT 1000009 rfl (LB 1000010 rfl (LT 1000011 rfl LN)))))), ?_⟩
 refine TL ?_
 refine RA rfl ?_
 refine RN ?_
 refine A.ret ?_
 refine End.ret_then ?_
 exact End.cellT (s := 1000012) rfl Tryz.underlying33 rfl (size33.of (rfl)) rfl rfl (Le.refl _) rfl (Le.refl _)
set_option maxHeartbeats 1000000 in
theorem ref9Open_ok (f : Nat → Nat) (mk : List UInt8) (hf : By f) (hmk : mk.length = 32) (i : Nat) (s c : Nat) (hs : s < 4294967296) (hc : c < 18446744073709551616) (d : List UInt8) (hd : d.length = 32) (hi : i < 4096)(tg : List UInt8) (htg : tg.length = 32) (h : tg = (hmac mk (msgL i s c d))) : Fn Tryz.prog 12 [.v (aggV (rowV 16 (f))), .v (aggV (mk.map byteV)), .v (nI i), .v (aggV ([nW s, nQ c])), .v (aggV (d.map byteV)), .v (aggV (tg.map byteV))] (tup [.v (aggV ((xorK f s c 0 d).map byteV)), .v (.int .i64 0)]) := by
 refine Fn.of Tryz.func12 rfl (by kernel_rfl) Tryz.ntmps12 (by simp) (fun w => [(0, .v (aggV (rowV 16 (f)))), (1, .v (aggV (mk.map byteV))), (2, .v (nI i)), (3, .v (aggV ([nW s, nQ c]))), (4, .v (aggV (d.map byteV))), (5, .v (aggV (tg.map byteV)))]) (fun w => (Start.v rfl (Start.v rfl (Start.v rfl (Start.v rfl (Start.v rfl (Start.v rfl Start.nil))))))) fun w₀ => ?_
 refine GS ?_
 refine TN 0 ?_
 refine RN ?_
 refine ⟨_, _, eff_box (n := 27) (d := 6) (k := 1000006) rfl (by decide), fun b6 hb6 => ?_⟩
 have hBb6 := hb6.1
 refine TN 1 ?_
 refine RN ?_
 refine ⟨_, _, eff_box (n := 27) (d := 7) (k := 1000007) rfl (by decide), fun b7 hb7 => ?_⟩
 have hBb7 := hb7.1
 refine TN 2 ?_
 refine RN ?_
 refine ⟨_, _, eff_box (n := 27) (d := 9) (k := 1000009) rfl (by decide), fun b9 hb9 => ?_⟩
 have hBb9 := hb9.1
 refine TN 3 ?_
 refine RN ?_
 refine ⟨_, _, eff_box (n := 27) (d := 10) (k := 1000010) rfl (by decide), fun b10 hb10 => ?_⟩
 have hBb10 := hb10.1
 refine TN 4 ?_
 refine RN ?_
 refine ⟨_, _, eff_box (n := 27) (d := 11) (k := 1000011) rfl (by decide), fun b11 hb11 => ?_⟩
 have hBb11 := hb11.1
 refine TN 5 ?_
 refine RN ?_
 refine ⟨_, _, eff_alloc (n := 27) (d := 12) (k := 1000012) zero33 (by decide), fun b12 hb12 => ?_⟩
 have hBb12 := hb12.1
 have hlt_b10_b12 : b10 < b12 := hb12.2 1000010 _ _ _ rfl
 refine TL ?_
 refine RA rfl ?_
 refine RN ?_
 refine A.seq ?_
 refine GD ?_
 refine TL ?_
 refine RS ((ok_sliceA (s := 1000007) 0 32 (by decide) Tryz.underlying24 info5 rfl rfl (.inr ⟨rfl, rfl⟩) (.inr ⟨rfl, rfl⟩) (by omega) (by omega) (by rw [List.length_map, hmk]) (by decide)).le (d' := byt mk) (byt_all hmk)) ?_
 refine RM rfl ?_
 refine RS (ok_loadA (s := 1000009) (by decide) Tryz.underlying30 rfl (size30.of (rfl)) rfl rfl) ?_
 refine RS (ok_loadA (s := 1000010) (by decide) Tryz.underlying33 rfl (size33.of (by rw [List.length_map, hd])) rfl rfl) ?_
 refine RS (ok_call (ref9Message_fn i s c hs hc d hd hi) (A3 rfl rfl rfl)) ?_
 refine RS (ok_call (ref3Sum_fn mk (msgL i s c d) (by omega) (by rw [msgL_length hd]; decide)) (A2 rfl rfl)) ?_
 refine RS (ok_loadA (s := 1000011) (by decide) Tryz.underlying34 rfl (size34.of (by rw [List.length_map, htg])) rfl rfl) ?_
 refine RS (ok_neqT (n := 3) (decide ((hmac mk (msgL i s c d)) = tg)) flat34 (by decide) (by kernel_rfl) (by kernel_rfl) rfl rfl (kinB (hmac_length _ _)) (kinB htg) (decB _ _)) ?_; refine RZ (.bool false) (by simp [h]) ?_
 refine RN ?_
 refine A.no rfl ?_
 refine A.skip ?_
 refine EN ?_
 refine GS ?_
 refine TF 4 ?_
 refine RS (ok_loadA (s := 1000006) (by decide) Tryz.underlying22 rfl (size22.of (rowV_length _ _)) rfl rfl) ?_
 refine RS (ok_loadA (s := 1000009) (by decide) Tryz.underlying30 rfl (size30.of (rfl)) rfl rfl) ?_
 refine RS (ok_loadA (s := 1000010) (by decide) Tryz.underlying33 rfl (size33.of (by rw [List.length_map, hd])) rfl rfl) ?_
 refine RS (ok_call (ref9Xor_fn f hf s c hs hc d hd) (A3 rfl rfl rfl)) ?_
 refine RN ?_
 refine ⟨_, eff_storeA (n := 27) (s := 1000012) (size33.of (by rw [List.length_map, xorK_length, hd])) rfl rfl (all_bytes _) hBb12 rfl (by simp [xorK_length, hd]) (LV 12 rfl (LT 1000006 rfl (LT 1000007 rfl (LT 1000009 rfl (LB 1000010 rfl (LT 1000011 rfl LN)))))), ?_⟩
 refine TL ?_
 refine RA rfl ?_
 refine RN ?_
 refine A.ret ?_
 exact End.cellT (s := 1000012) rfl Tryz.underlying33 rfl (size33.of (by rw [List.length_map, xorK_length, hd])) rfl rfl (Le.refl _) rfl (Le.refl _)
end Go.Proofs.YthadcgkcgpinhaaGreatDoor
namespace Go.Proofs.YthadcgkcgpinhaaGreatDoor
open Go Go.RowKit
/-- A variable that the region makes: the operation that makes it, its slot, its type, its zero value, the operation that gives it its value. -/
structure VarN where
  a : Nat
  t : Nat
  T : TypeId
  zs : List Value
  s : Nat
  ys : List Value
inductive FromV (ops : Array Oper) (vals : List (Option Value)) (E0 : Env) (o : Oper) : Env → Prop
  | nil : FromV ops vals E0 o []
  | all : FromV ops vals E0 o E0
  | op {t : Nat} {v : Value} {E : Env} (j : Nat) (he : (o.after.any fun e => Region.binds .any e && e.on == j) = true) (hd : (ops[j]?).bind (·.dst) = some t) (hv : vals[j]? = some (some v)) (hr : FromV ops vals E0 o E) : FromV ops vals E0 o ((t, .v v) :: E)
inductive FromW (ops : Array Oper) (vals : List (Option Value)) (E0 : Env) : Env → Prop
  | all : FromW ops vals E0 E0
  | op {t : Nat} {v : Value} {E : Env} (j : Nat) (hd : (ops[j]?).bind (·.dst) = some t) (hv : vals[j]? = some (some v)) (hr : FromW ops vals E0 E) : FromW ops vals E0 ((t, .v v) :: E)
inductive KopOk (P : Program) (ops : Array Oper) (vals : List (Option Value)) (vs : List VarN) (E0 : Env) (i : Nat) : Oper → Prop
  | pure {o : Oper} {t : Nat} {v : Value} (E : Env) (hv : vals[i]? = some (some v)) (hd : o.dst = some t) (h0 : E0.look t = none ∨ E0.look t = some (.v v)) (hf : FromV ops vals E0 o E) (hok : ∀ B', OpOk P B' o E (.v v)) : KopOk P ops vals vs E0 i o
  | alloc {t : Tmp} {T ty : TypeId} {pos : String} {after : Array Edge} {V : VarN} (j : Nat) (hV : vs[j]? = some V) (ha : V.a = i) (hT : V.T = T) (ht : V.t = t) (hz : ZeroIs P T V.zs) (h0 : E0.look t = none) : KopOk P ops vals vs E0 i ⟨some t, .alloc T, ty, pos, after, none⟩
  | store {t T ty : TypeId} {x : Operand} {pos : String} {after : Array Edge} {V : VarN} (j : Nat) (E : Env) (hV : vs[j]? = some V) (hs : V.s = i) (hT : V.T = T) (ht : V.t = t) (he : (after.any fun e => Region.binds .any e && e.on == V.a) = true) (hf : FromV ops vals E0 ⟨none, .store T (.tmp t) x, ty, pos, after, none⟩ E) (hx : E.at x = some (.v (aggV V.ys)))
      (hsz : SizeIs P T V.ys.length) (hl : V.zs.length = V.ys.length) (h1 : V.ys.all (·.oneCell') = true) : KopOk P ops vals vs E0 i ⟨none, .store T (.tmp t) x, ty, pos, after, none⟩
inductive Kops (P : Program) (ops : Array Oper) (vals : List (Option Value)) (vs : List VarN) (E0 : Env) : Nat → List Oper → Prop
  | nil {i : Nat} : Kops P ops vals vs E0 i []
  | cons {i : Nat} {o : Oper} {rest : List Oper} (h : KopOk P ops vals vs E0 i o) (hr : Kops P ops vals vs E0 (i + 1) rest) : Kops P ops vals vs E0 i (o :: rest)
def varsOk (ops : Array Oper) (vals : List (Option Value)) (vs : List VarN) : Bool := (List.range vs.length).all fun j => match vs[j]? with
  | none => false
  | some V => ((ops[V.a]?).bind (·.dst) == some V.t) && (match vals[V.a]? with | some none => true | _ => false) && (match vals[V.s]? with | some none => true | _ => false) && decide (V.a < ops.size) && decide (V.s < ops.size) && V.a != V.s && (List.range vs.length).all fun j' => match vs[j']? with
    | none => false
    | some V' => j == j' || (V.a != V'.a && V.s != V'.s && V.a != V'.s && V.s != V'.a)
section
variable {P : Program} {n B : Nat} {ops : Array Oper} {κ : Cx} {Q : Exit → Act → World → Prop} {vals : List (Option Value)} {vs : List VarN} {E0 : Env}
theorem Kops.nth {k : Nat} {l : List Oper} (h : Kops P ops vals vs E0 k l) : ∀ {i : Nat} {o : Oper}, l[i]? = some o → KopOk P ops vals vs E0 (k + i) o := by
  induction h with
  | nil => intro i o hi; simp at hi
  | @cons k o0 rest h _ ih =>
    intro i o hi
    cases i with
    | zero => simp at hi; subst hi; exact h
    | succ i =>
      have := ih (i := i) (by simpa using hi)
      rwa [show k + (i + 1) = k + 1 + i from by omega]
theorem varsOk_get (h : varsOk ops vals vs = true) {j : Nat} {V : VarN} (hj : vs[j]? = some V) : (ops[V.a]?).bind (·.dst) = some V.t ∧ vals[V.a]? = some none ∧ vals[V.s]? = some none ∧ V.a < ops.size ∧ V.s < ops.size ∧ V.a ≠ V.s ∧ ∀ j' V', vs[j']? = some V' → j ≠ j' → V.a ≠ V'.a ∧ V.s ≠ V'.s ∧ V.a ≠ V'.s ∧ V.s ≠ V'.a := by
  have hlt : j < vs.length := (List.getElem?_eq_some_iff.1 hj).1
  have h1 := List.all_eq_true.1 h j (List.mem_range.2 hlt)
  simp only [hj, Bool.and_eq_true] at h1
  obtain ⟨⟨⟨⟨⟨⟨h2, h3⟩, h4⟩, h5⟩, h6⟩, h7⟩, h8⟩ := h1
  refine ⟨by simpa using h2, ?_, ?_, by simpa using h5, by simpa using h6, by simpa using h7, fun j' V' hj' hne => ?_⟩
  · cases hx : vals[V.a]? with
    | none => rw [hx] at h3; cases h3
    | some x => rw [hx] at h3; cases x with
      | none => rfl
      | some _ => cases h3
  · cases hx : vals[V.s]? with
    | none => rw [hx] at h4; cases h4
    | some x => rw [hx] at h4; cases x with
      | none => rfl
      | some _ => cases h4
  · have h9 := List.all_eq_true.1 h8 j' (List.mem_range.2 (List.getElem?_eq_some_iff.1 hj').1)
    simp only [hj', Bool.or_eq_true, beq_iff_eq, Bool.and_eq_true, bne_iff_ne, ne_eq] at h9
    rcases h9 with h9 | h9
    · exact absurd h9 hne
    · exact ⟨h9.1.1.1, h9.1.1.2, h9.1.2, h9.2⟩
structure InvV (κ : Cx) (n B : Nat) (ops : Array Oper) (vals : List (Option Value)) (vs : List VarN) (E0 : Env) (w1 : World) (listed : Array Bool) (a : Act) (w : World) : Prop where
  base : B ≤ w1.heap.size
  bel : Below w1.heap.size w1 w
  defers : a.defers = κ.df
  size : a.tmps.size = n
  facts : ∀ t d, E0.look t = some d → d.OfB w1.heap.size w (a.tmps.getD t undef)
  lsize : listed.size = ops.size
  got : ∀ (i : Nat) (o : Oper) (t : Nat) (v : Value), ops[i]? = some o → listed.getD i false = true → o.dst = some t → vals[i]? = some (some v) → a.tmps.getD t undef = v
  cl : ∀ (j : Nat) (V : VarN), vs[j]? = some V → listed.getD V.s false = true → listed.getD V.a false = true
  var : ∃ bs : Nat → Nat, (∀ (j : Nat) (V : VarN), vs[j]? = some V → listed.getD V.a false = true → w1.heap.size ≤ bs j ∧ bs j < w.heap.size ∧ a.tmps.getD V.t undef = .pointer (some ⟨bs j, 0, none⟩) ∧ w.heap[bs j]? = some (.cells (if listed.getD V.s false = true then V.ys else V.zs).toArray V.T (0, 0))) ∧
    ∀ (j j' : Nat) (V V' : VarN), vs[j]? = some V → vs[j']? = some V' → listed.getD V.a false = true → listed.getD V'.a false = true → j ≠ j' → bs j ≠ bs j'
theorem InvV.st {w1 : World} {listed : Array Bool} {a : Act} {w : World} (I : InvV κ n B ops vals vs E0 w1 listed a w) : St κ n B E0 a w :=
  ⟨Nat.le_trans I.base I.bel.size, I.defers, I.size, fun t d hl => D.OfB.up (I.facts t d hl) I.bel.size⟩
theorem setD_self {listed : Array Bool} {i : Nat} (h : i < listed.size) : (listed.setIfInBounds i true).getD i false = true := by simp [h]
theorem wp_vars (hn0 : n ≤ vbase) (hfit : fits n ops = true) (hd : downsN ops = true) (hv : varsOk ops vals vs = true) (hn : Kops P ops vals vs E0 0 ops.toList) {w1 : World}
    (hQ : ∀ l a' w', InvV κ n B ops vals vs E0 w1 l a' w' → (∀ i, i < ops.size → l.getD i false = true) → Q .normal a' w') :
    ∀ (fuel : Nat) (listed : Array Bool) (a : Act) (w : World), unlisted ops listed ≤ fuel → InvV κ n B ops vals vs E0 w1 listed a w → wpAnyIn (FR κ.rd) 0 P .any ops Q fuel listed a w := by
  have hmin : ∀ (listed : Array Bool), listed.size = ops.size → Region.ready .any ops listed = [] → ∀ i, i < ops.size → listed.getD i false = true := by
    intro listed hl hr i
    induction i using Nat.strongRecOn with
    | _ i ih =>
      intro hi
      rcases hb : listed.getD i false with _ | _
      · exfalso
        have hdi := (downs_get hd (Array.getElem?_eq_getElem hi)).2.1
        have : i ∈ Region.ready .any ops listed := by
          rw [mem_ready]
          refine ⟨?_, ops[i], Array.getElem?_eq_getElem hi, fun e he hbd => ih e.on (hdi e he hbd) (Nat.lt_trans (hdi e he hbd) hi)⟩
          have : i < listed.size := by rw [hl]; exact hi
          simp [this] at hb ⊢
          exact hb
        rw [hr] at this
        cases this
      · rfl
  intro fuel
  induction fuel with
  | zero =>
    intro listed a w hc I
    have hr : Region.ready .any ops listed = [] := by
      rcases hr : Region.ready .any ops listed with _ | ⟨i, l⟩
      · rfl
      · exfalso
        have hi : i ∈ Region.ready .any ops listed := by rw [hr]; exact List.mem_cons_self
        obtain ⟨hu, o, ho, _⟩ := mem_ready.1 hi
        have hpos : 0 < unlisted ops listed := List.countP_pos_iff.2 ⟨i, List.mem_range.2 (Array.getElem?_eq_some_iff.1 ho).1, by simp only [hu]; rfl⟩
        omega
    exact ⟨hr, hQ listed a w I (hmin listed I.lsize hr)⟩
  | succ fuel ih =>
    intro listed a w hc I
    refine ⟨fun hr => hQ listed a w I (hmin listed I.lsize hr), fun i hi => ?_⟩
    obtain ⟨hu, o, ho, hall⟩ := mem_ready.1 hi
    have hlt : i < ops.size := (Array.getElem?_eq_some_iff.1 ho).1
    have hli : i < listed.size := by rw [I.lsize]; exact hlt
    have huf : listed.getD i false = false := by
      have h1 : listed.getD i true = false := hu
      simp [hli] at h1 ⊢
      exact h1
    have hk := hn.nth (i := i) (o := o) (by simpa using ho)
    rw [Nat.zero_add] at hk
    obtain ⟨hg, _, hdis⟩ := downs_get hd ho
    have hst : ∀ {E : Env}, FromV ops vals E0 o E → ∀ t d, E.look t = some d → d.OfB w1.heap.size w (a.tmps.getD t undef) := fun {E} h => by
      induction h with
      | nil => intro t d hl; cases hl
      | all => exact I.facts
      | @op s v E j he hdj hvj _ ih =>
        intro t d hl
        by_cases hts : s = t
        · subst hts; rw [look_here] at hl; injection hl with hl; subst hl
          obtain ⟨e, he1, he2⟩ := Array.any_eq_true'.1 he
          simp only [Bool.and_eq_true, beq_iff_eq] at he2
          have hl := hall e he1 he2.1
          rw [he2.2] at hl
          cases hq : ops[j]? with
          | none => rw [hq] at hdj; cases hdj
          | some q =>
            rw [hq] at hdj
            exact I.got j q _ _ hq hl hdj hvj
        · rw [look_past _ _ hts] at hl; exact ih t d hl
    have hE : ∀ {E : Env}, FromV ops vals E0 o E → St κ n B E a w := fun h => ⟨Nat.le_trans I.base I.bel.size, I.defers, I.size, fun t d hl => D.OfB.up (hst h t d hl) I.bel.size⟩
    refine wpOpR_step ho fun K hK => ?_
    rw [if_pos (by simp [Region.wanted, hg])]
    have hcl : unlisted ops (listed.setIfInBounds i true) ≤ fuel := by
      have : unlisted ops (listed.setIfInBounds i true) < unlisted ops listed := by
        refine countP_lt (x := i) (fun y hy => ?_) (List.mem_range.2 hlt) (by simp only [hu]; rfl) ?_
        · by_cases hyi : i = y
          · subst hyi
            simp [hli] at hy
          · rw [getD_set_ne true hyi] at hy; exact hy
        · simp [hli]
      omega
    have hset : ∀ j, (listed.setIfInBounds i true).getD j false = true → j = i ∨ listed.getD j false = true := fun j hj => by
      by_cases hji : i = j
      · exact .inl hji.symm
      · rw [getD_set_ne false hji] at hj; exact .inr hj
    have hfar : ∀ j, j ≠ i → (listed.setIfInBounds i true).getD j false = listed.getD j false := fun j hj => getD_set_ne false (fun h => hj h.symm)
    obtain ⟨bs, hb1, hb2⟩ := I.var
    cases hk with
    | @pure _ t v E hvi hdt h0 hf hok =>
      have htn : t < n := (fits_mem hfit (o := o) (by simpa using Array.mem_of_getElem? ho)).2 t hdt
      have hnot : ∀ (j : Nat) (V : VarN), vs[j]? = some V → V.a ≠ i ∧ V.s ≠ i ∧ V.t ≠ t := fun j V hj => by
        obtain ⟨h1, h2, h3, _⟩ := varsOk_get hv hj
        have hai : V.a ≠ i := fun e => by rw [e, hvi] at h2; cases h2
        refine ⟨hai, fun e => (by rw [e, hvi] at h3; cases h3), fun e => ?_⟩
        cases hq : ops[V.a]? with
        | none => rw [hq] at h1; cases h1
        | some q =>
          rw [hq] at h1
          exact hdis V.a q hq hai (by rw [hdt]; simp) (by rw [hdt, show q.dst = some V.t from h1, e])
      have hs := hE hf
      refine wp_of_out hdt ((hok w.heap.size a.eval w (Nat.le_refl _) (hs.virt hn0) fun x _ u hu => hs.at_ x _ hu).mono ?_)
      rintro x w' ⟨hgr, hx⟩
      have hx : x = v := hx
      subst hx
      refine hK _ _ (ih _ _ _ hcl ⟨I.base, I.bel.trans (Below.mono hgr I.bel.size), I.defers, by simp [Act.put, I.size], fun s d hs' => ?_, by simp [I.lsize], fun j q s u hj hl hds hvs => ?_, fun j V hj hl => ?_, bs, fun j V hj hl => ?_, fun j j' V V' hj hj' hl hl' => ?_⟩)
      · by_cases hts : t = s
        · subst hts
          rw [getD_put_here _ _ (by rw [I.size]; exact htn)]
          rcases h0 with h | h
          · rw [h] at hs'; cases hs'
          · rw [h] at hs'; injection hs' with hs'; subst hs'; rfl
        · rw [getD_put_past _ _ hts]; exact (I.facts s d hs').keep (Below.mono hgr I.bel.size)
      · rcases hset j hl with rfl | hl
        · rw [ho] at hj; injection hj with hj; subst hj
          rw [hdt] at hds; injection hds with hds; subst hds
          rw [hvi] at hvs; injection hvs with hvs; injection hvs with hvs; subst hvs
          rw [getD_put_here _ _ (by rw [I.size]; exact htn)]
        · by_cases hji : j = i
          · subst hji
            rw [ho] at hj; injection hj with hj; subst hj
            rw [hdt] at hds; injection hds with hds; subst hds
            rw [hvi] at hvs; injection hvs with hvs; injection hvs with hvs; subst hvs
            rw [getD_put_here _ _ (by rw [I.size]; exact htn)]
          · have hne : t ≠ s := fun he => hdis j q hj hji (by rw [hdt]; simp) (by rw [hdt, hds, he])
            rw [getD_put_past _ _ hne]
            exact I.got j q s u hj hl hds hvs
      · obtain ⟨h1, h2, _⟩ := hnot j V hj
        rw [hfar _ h2] at hl
        rw [hfar _ h1]; exact I.cl j V hj hl
      · obtain ⟨h1, h2, h3⟩ := hnot j V hj
        rw [hfar _ h1] at hl
        obtain ⟨g1, g2, g3, g4⟩ := hb1 j V hj hl
        rw [hfar _ h2]
        exact ⟨g1, Nat.lt_of_lt_of_le g2 hgr.size, by rw [getD_put_past _ _ (fun e => h3 e.symm)]; exact g3, by rw [hgr.block _ g2]; exact g4⟩
      · rw [hfar _ (hnot j V hj).1] at hl
        rw [hfar _ (hnot j' V' hj').1] at hl'
        exact hb2 j j' V V' hj hj' hl hl'
    | @alloc t T ty pos after V j0 hV ha hT ht hz h0 =>
      subst ha hT ht
      have hds := (varsOk_get hv hV).2.2.2.2.2.2
      have hns : V.s ≠ V.a := fun e => (varsOk_get hv hV).2.2.2.2.2.1 e.symm
      have htn : V.t < n := (fits_mem hfit (o := ⟨some V.t, .alloc V.T, ty, pos, after, none⟩) (by simpa using Array.mem_of_getElem? ho)).2 V.t rfl
      have hrun : (execOp a.eval ⟨some V.t, .alloc V.T, ty, pos, after, none⟩).run P w = .ok (.value (.pointer (some ⟨w.heap.size, 0, none⟩))) (w.alloc (.cells V.zs.toArray V.T)) := by
        obtain ⟨i, z, hi, hz, hc⟩ := hz.get
        simp [execOp, Instr.alloc, zeroValue, typeInfo, hi, hz, newVar, newRow, hc]
      refine opR (not_defer hrun) ?_
      unfold Oper.wp
      rw [hrun, Oper.upon_value]
      have hgr : Grow w (w.alloc (.cells V.zs.toArray V.T)) := Grow.alloc w _
      have hlt1 : w.heap.size < (w.alloc (.cells V.zs.toArray V.T)).heap.size := by simp
      have hother : ∀ (j : Nat) (V' : VarN), vs[j]? = some V' → j ≠ j0 → V'.a ≠ V.a ∧ V'.s ≠ V.a ∧ V'.t ≠ V.t := fun j V' hj hne => by
        obtain ⟨h1, h2, h3, h4⟩ := hds j V' hj (fun e => hne e.symm)
        refine ⟨fun e => h1 e.symm, fun e => h3 e.symm, fun e => ?_⟩
        obtain ⟨g1, _⟩ := varsOk_get hv hj
        cases hq : ops[V'.a]? with
        | none => rw [hq] at g1; cases g1
        | some q =>
          rw [hq] at g1
          exact hdis V'.a q hq (fun e => h1 e.symm) (by simp) (by rw [show q.dst = some V'.t from g1, e])
      have hsu : listed.getD V.s false = false := by
        rcases hb : listed.getD V.s false with _ | _
        · rfl
        · rw [I.cl j0 V hV hb] at huf; cases huf
      refine hK _ _ (ih _ _ _ hcl ⟨I.base, I.bel.trans (Below.mono hgr I.bel.size), I.defers, by simp [Act.put, I.size], fun s d hs' => ?_, by simp [I.lsize], fun j q s u hj hl hds hvs => ?_, fun j V' hj hl => ?_, fun j => if j = j0 then w.heap.size else bs j, fun j V' hj hl => ?_, fun j j' V' V'' hj hj' hl hl' hne => ?_⟩)
      · have hts : V.t ≠ s := fun e => by subst e; rw [h0] at hs'; cases hs'
        rw [getD_put_past _ _ hts]; exact (I.facts s d hs').keep (Below.mono hgr I.bel.size)
      · have hji : j ≠ V.a := fun e => by
          subst e
          rw [(varsOk_get hv hV).2.1] at hvs; cases hvs
        rw [hfar _ hji] at hl
        have hne : V.t ≠ s := fun he => hdis j q hj hji (by simp) (by rw [hds, he])
        rw [getD_put_past _ _ hne]
        exact I.got j q s u hj hl hds hvs
      · by_cases hj0 : j = j0
        · subst hj0; rw [hV] at hj; injection hj with hj; subst hj
          exact setD_self hli
        · obtain ⟨h1, h2, _⟩ := hother j V' hj hj0
          rw [hfar _ h2] at hl
          rw [hfar _ h1]; exact I.cl j V' hj hl
      · by_cases hj0 : j = j0
        · subst hj0; rw [hV] at hj; injection hj with hj; subst hj
          dsimp only
          rw [if_pos rfl, hfar _ hns, hsu]
          exact ⟨I.bel.size, hlt1, by rw [getD_put_here _ _ (by rw [I.size]; exact htn)], by simpa using heap_alloc_new w _⟩
        · obtain ⟨h1, h2, h3⟩ := hother j V' hj hj0
          rw [hfar _ h1] at hl
          obtain ⟨g1, g2, g3, g4⟩ := hb1 j V' hj hl
          dsimp only
          rw [if_neg hj0, hfar _ h2]
          exact ⟨g1, Nat.lt_of_lt_of_le g2 hgr.size, by rw [getD_put_past _ _ (fun e => h3 e.symm)]; exact g3, by rw [hgr.block _ g2]; exact g4⟩
      · show (if j = j0 then w.heap.size else bs j) ≠ if j' = j0 then w.heap.size else bs j'
        by_cases hj0 : j = j0
        · rw [if_pos hj0, if_neg (fun e => hne (by rw [hj0, e]))]
          rw [hfar _ (hother j' V'' hj' (fun e => hne (by rw [hj0, e]))).1] at hl'
          have := (hb1 j' V'' hj' hl').2.1
          omega
        · rw [if_neg hj0]
          rw [hfar _ (hother j V' hj hj0).1] at hl
          by_cases hj0' : j' = j0
          · rw [if_pos hj0']
            have := (hb1 j V' hj hl).2.1
            omega
          · rw [if_neg hj0']
            rw [hfar _ (hother j' V'' hj' hj0').1] at hl'
            exact hb2 j j' V' V'' hj hj' hl hl' hne
    | @store t T ty x pos after V j0 E hV hs hT ht he hf hx hsz hl0 h1 =>
      subst hs hT ht
      have hds := (varsOk_get hv hV).2.2.2.2.2.2
      have hna : V.a ≠ V.s := (varsOk_get hv hV).2.2.2.2.2.1
      have hla : listed.getD V.a false = true := by
        obtain ⟨e, he1, he2⟩ := Array.any_eq_true'.1 he
        simp only [Bool.and_eq_true, beq_iff_eq] at he2
        have hl := hall e he1 he2.1
        rwa [he2.2] at hl
      obtain ⟨g1, g2, g3, g4⟩ := hb1 j0 V hV hla
      rw [huf] at g4
      simp only [Bool.false_eq_true, if_false] at g4
      have hp' : a.eval (.tmp V.t) = .pointer (some ⟨bs j0, 0, none⟩) := g3
      have hx' : a.eval x = aggV V.ys := (hE hf).at_ x _ hx
      have hrun : (execOp a.eval ⟨none, .store V.T (.tmp V.t) x, ty, pos, after, none⟩).run P w = .ok .skip (w.setRow (bs j0) V.ys.toArray) := by
        have := run_storeVar_row (P := P) w (bs j0) V.T V.T V.zs.toArray V.ys.toArray g4 (by simpa [SizeIs] using hsz) (by simpa using hl0) (by simpa using h1)
        simp [execOp, hp', hx', Instr.storeAt, Instr.sureAddr, aggV, this]
      refine opR (by nofun) ?_
      unfold Oper.wp
      rw [hrun, Oper.upon_skip]
      have hput : a.put (none : Option Tmp) undef = a := rfl
      try rw [hput]
      have hwr := Wrote.setRow (B := w1.heap.size) g1 g4 V.ys.toArray
      have hbw : Below w1.heap.size w (w.setRow (bs j0) V.ys.toArray) := hwr.below I.bel.size
      have hsame : ∀ k, k ≠ bs j0 → (w.setRow (bs j0) V.ys.toArray).heap[k]? = w.heap[k]? := fun k hk => setRow_other w (bs j0) k V.ys.toArray hk
      have hhere : (w.setRow (bs j0) V.ys.toArray).heap[bs j0]? = some (.cells V.ys.toArray V.T (0, 0)) := by simp [World.setRow, Array.getElem?_modify, g4]
      have hsz' : (w.setRow (bs j0) V.ys.toArray).heap.size = w.heap.size := by simp [World.setRow]
      have hother : ∀ (j : Nat) (V' : VarN), vs[j]? = some V' → j ≠ j0 → V'.a ≠ V.s ∧ V'.s ≠ V.s := fun j V' hj hne => by
        obtain ⟨h1, h2, h3, h4⟩ := hds j V' hj (fun e => hne e.symm)
        exact ⟨fun e => h4 e.symm, fun e => h2 e.symm⟩
      refine hK _ _ (ih _ _ _ hcl ⟨I.base, I.bel.trans hbw, I.defers, I.size, fun s d hs' => (I.facts s d hs').keep hbw, by simp [I.lsize], fun j q s u hj hl hds hvs => ?_, fun j V' hj hl => ?_, bs, fun j V' hj hl => ?_, fun j j' V' V'' hj hj' hl hl' hne => ?_⟩)
      · have hji : j ≠ V.s := fun e => by
          subst e
          rw [(varsOk_get hv hV).2.2.1] at hvs; cases hvs
        rw [hfar _ hji] at hl
        exact I.got j q s u hj hl hds hvs
      · by_cases hj0 : j = j0
        · subst hj0; rw [hV] at hj; injection hj with hj; subst hj
          rw [hfar _ hna]; exact hla
        · obtain ⟨h1, h2⟩ := hother j V' hj hj0
          rw [hfar _ h2] at hl
          rw [hfar _ h1]; exact I.cl j V' hj hl
      · by_cases hj0 : j = j0
        · subst hj0; rw [hV] at hj; injection hj with hj; subst hj
          rw [setD_self hli, if_pos rfl]
          exact ⟨g1, by rw [hsz']; exact g2, g3, hhere⟩
        · obtain ⟨h1, h2⟩ := hother j V' hj hj0
          rw [hfar _ h1] at hl
          obtain ⟨k1, k2, k3, k4⟩ := hb1 j V' hj hl
          rw [hfar _ h2]
          exact ⟨k1, by rw [hsz']; exact k2, k3, by rw [hsame _ (hb2 j j0 V' V hj hV hl hla hj0)]; exact k4⟩
      · have e1 : ∀ {j : Nat} {V' : VarN}, vs[j]? = some V' → (listed.setIfInBounds V.s true).getD V'.a false = true → listed.getD V'.a false = true := fun {j V'} hj hl => by
          by_cases hj0 : j = j0
          · subst hj0; rw [hV] at hj; injection hj with hj; subst hj; exact hla
          · rwa [hfar _ (hother j V' hj hj0).1] at hl
        exact hb2 j j' V' V'' hj hj' (e1 hj hl) (e1 hj' hl') hne
/-- The environment that the new variables give. -/
def varEnv (bs : Nat → Nat) : Nat → List VarN → Env → Env
  | _, [], E => E
  | j, V :: r, E => (V.t, .v (.pointer (some ⟨bs j, 0, none⟩))) :: (1000000 + V.t, blk (bs j) V.T V.ys) :: varEnv bs (j + 1) r E
theorem varEnv_look {bs : Nat → Nat} {E : Env} {t : Nat} {d : D} : ∀ {l : List VarN} {j : Nat}, (varEnv bs j l E).look t = some d → (∃ k V, l[k]? = some V ∧ ((t = V.t ∧ d = .v (.pointer (some ⟨bs (j + k), 0, none⟩))) ∨ (t = 1000000 + V.t ∧ d = blk (bs (j + k)) V.T V.ys))) ∨ E.look t = some d
  | [], _, h => .inr h
  | V :: r, j, h => by
    unfold varEnv at h
    by_cases h1 : V.t = t
    · subst h1; rw [look_here] at h; injection h with h
      exact .inl ⟨0, V, rfl, .inl ⟨rfl, h.symm⟩⟩
    · rw [look_past _ _ h1] at h
      by_cases h2 : 1000000 + V.t = t
      · subst h2; rw [look_here] at h; injection h with h
        exact .inl ⟨0, V, rfl, .inr ⟨rfl, h.symm⟩⟩
      · rw [look_past _ _ h2] at h
        rcases varEnv_look h with ⟨k, V', h3, h4⟩ | h3
        · exact .inl ⟨k + 1, V', by simpa using h3, by rw [show j + (k + 1) = j + 1 + k from by omega]; exact h4⟩
        · exact .inr h3
theorem A.regsV {w₀ : World} {y : Code} {E1 : Env} {id : Nat} (vals : List (Option Value)) (vs : List VarN) (hm : P.follows .mixedOrders = true) (hfit : fits n ops = true) (hd : downsN ops = true) (hv : varsOk ops vals vs = true) (hn : Kops P ops vals vs E0 0 ops.toList) (hf : FromW ops vals E0 E1)
    (h : ∀ bs : Nat → Nat, (∀ j, j < vs.length → NewB w₀.heap.size E0 (bs j)) → (∀ j j', j < vs.length → j' < vs.length → j ≠ j' → bs j ≠ bs j') → A κ P w₀ n y (varEnv bs 0 vs E1) Q) : A κ P w₀ n (.seq (.region id ops true) y) E0 Q := A.seq fun a w hg hst => by
  have hdr : Below w₀.heap.size w w.drew := (Below.refl _ w).drew
  have hn0 := fits_base hfit
  have hst' := hst.grow (Grow.refl w).drew
  have hfin : ∀ l a' w', InvV κ n w₀.heap.size ops vals vs E0 w.drew l a' w' → (∀ i, i < ops.size → l.getD i false = true) → Exit.then (y.wpIn (FR κ.rd) 0 P Q) Q .normal a' w' := fun l a' w' I hall => by
    have key : ∀ t d, E1.look t = some d → d.Of w' (a'.tmps.getD t undef) := by
      clear h
      induction hf with
      | all => exact I.st.of
      | @op s v E j hdj hvj _ ih =>
        intro t d hl
        by_cases hts : s = t
        · subst hts; rw [look_here] at hl; injection hl with hl; subst hl
          cases hq : ops[j]? with
          | none => rw [hq] at hdj; cases hdj
          | some q =>
            rw [hq] at hdj
            exact I.got j q _ _ hq (hall j (Array.getElem?_eq_some_iff.1 hq).1) hdj hvj
        · rw [look_past _ _ hts] at hl; exact ih t d hl
    obtain ⟨bs, hb1, hb2⟩ := I.var
    have hla : ∀ (j : Nat) (V : VarN), vs[j]? = some V → l.getD V.a false = true := fun j V hj => hall _ (varsOk_get hv hj).2.2.2.1
    have hls : ∀ (j : Nat) (V : VarN), vs[j]? = some V → l.getD V.s false = true := fun j V hj => hall _ (varsOk_get hv hj).2.2.2.2.1
    refine h bs (fun j hj => ?_) (fun j j' hj hj' hne => hb2 j j' _ _ (List.getElem?_eq_getElem hj) (List.getElem?_eq_getElem hj') (hla _ _ (List.getElem?_eq_getElem hj)) (hla _ _ (List.getElem?_eq_getElem hj')) hne) a' w' (hg.trans (hdr.trans (Below.mono I.bel I.base))) ⟨Nat.le_trans I.base I.bel.size, I.defers, I.size, fun t d hl => ?_⟩
    · have hk := (hb1 j _ (List.getElem?_eq_getElem hj) (hla _ _ (List.getElem?_eq_getElem hj))).1
      exact ⟨Nat.le_trans I.base hk, fun s b' e xs hs => Nat.lt_of_lt_of_le (hst'.of s _ hs).1 hk⟩
    · rcases varEnv_look hl with ⟨k, V, hk, hd'⟩ | hl
      · rw [Nat.zero_add] at hd'
        obtain ⟨g1, g2, g3, g4⟩ := hb1 k V hk (hla k V hk)
        rw [hls k V hk, if_pos rfl] at g4
        rcases hd' with ⟨rfl, rfl⟩ | ⟨rfl, rfl⟩
        · exact g3
        · exact ⟨g2, g4⟩
      · exact key t d hl
  refine wpIn_region_any hm (wp_vars hn0 hfit hd hv hn hfin _ _ _ _ ?_ ⟨hst'.base, Below.refl _ _, hst'.defers, hst'.size, fun t d hl => hst'.of t d hl, by simp, fun i o t v hi hl => ?_, fun j V hj hl => ?_, fun _ => 0, fun j V hj hl => ?_, fun j j' V V' hj _ hl => ?_⟩)
  · refine Nat.le_trans List.countP_le_length ?_
    simp
  · simp [(Array.getElem?_eq_some_iff.1 hi).1] at hl
  · simp [(varsOk_get hv hj).2.2.2.2.1] at hl
  · simp [(varsOk_get hv hj).2.2.2.1] at hl
  · simp [(varsOk_get hv hj).2.2.2.1] at hl
/-! ### The same, operation by operation -/
theorem FromV.more {vals : List (Option Value)} {o : Oper} {E : Env} {pre : List (Option Value)} (hp : ∀ (j : Nat) (v : Option Value), pre[j]? = some v → vals[j]? = some v) (h : FromV ops pre E0 o E) : FromV ops vals E0 o E := by
  induction h with
  | nil => exact .nil
  | all => exact .all
  | op j he hd hv _ ih => exact .op j he hd (hp _ _ hv) ih
/-- From here on; pre is what the operations before have yielded. -/
def KopsK (P : Program) (ops : Array Oper) (vs : List VarN) (E0 : Env) (rest : List Oper) (pre : List (Option Value)) (C : List (Option Value) → Prop) : Prop :=
  ∃ vals : List (Option Value), (∀ (j : Nat) (v : Option Value), pre[j]? = some v → vals[j]? = some v) ∧ Kops P ops vals vs E0 pre.length rest ∧ C vals
theorem pre_snoc {α : Type} {pre vals : List α} {v : α} (h : ∀ (j : Nat) (u : α), (pre ++ [v])[j]? = some u → vals[j]? = some u) : (∀ (j : Nat) (u : α), pre[j]? = some u → vals[j]? = some u) ∧ vals[pre.length]? = some v :=
  ⟨fun j u hu => h j u (by rw [List.getElem?_append_left (List.getElem?_eq_some_iff.1 hu).1]; exact hu), h _ _ (by simp)⟩
theorem KopsK.nil {pre : List (Option Value)} {C : List (Option Value) → Prop} (h : C pre) : KopsK P ops vs E0 [] pre C := ⟨pre, fun _ _ h => h, .nil, h⟩
theorem KopsK.pure {o : Oper} {rest : List Oper} {pre : List (Option Value)} {C : List (Option Value) → Prop} {t : Nat} {v : Value} (E : Env) (hd : o.dst = some t) (h0 : E0.look t = none ∨ E0.look t = some (.v v)) (hf : FromV ops pre E0 o E) (hok : ∀ B', OpOk P B' o E (.v v))
    (hr : KopsK P ops vs E0 rest (pre ++ [some v]) C) : KopsK P ops vs E0 (o :: rest) pre C := by
  obtain ⟨vals, h1, h2, h3⟩ := hr
  obtain ⟨h4, h5⟩ := pre_snoc h1
  exact ⟨vals, h4, .cons (.pure E h5 hd h0 (hf.more h4) hok) (by simpa using h2), h3⟩
theorem KopsK.alloc {rest : List Oper} {pre : List (Option Value)} {C : List (Option Value) → Prop} {t : Tmp} {T ty : TypeId} {pos : String} {after : Array Edge} {V : VarN} (j : Nat) (hV : vs[j]? = some V) (ha : V.a = pre.length) (hT : V.T = T) (ht : V.t = t) (hz : ZeroIs P T V.zs) (h0 : E0.look t = none)
    (hr : KopsK P ops vs E0 rest (pre ++ [none]) C) : KopsK P ops vs E0 (⟨some t, .alloc T, ty, pos, after, none⟩ :: rest) pre C := by
  obtain ⟨vals, h1, h2, h3⟩ := hr
  obtain ⟨h4, _⟩ := pre_snoc h1
  exact ⟨vals, h4, .cons (.alloc j hV ha hT ht hz h0) (by simpa using h2), h3⟩
theorem KopsK.store {rest : List Oper} {pre : List (Option Value)} {C : List (Option Value) → Prop} {t T ty : TypeId} {x : Operand} {pos : String} {after : Array Edge} {V : VarN} (j : Nat) (E : Env) (hV : vs[j]? = some V) (hs : V.s = pre.length) (hT : V.T = T) (ht : V.t = t) (he : (after.any fun e => Region.binds .any e && e.on == V.a) = true)
    (hf : FromV ops pre E0 ⟨none, .store T (.tmp t) x, ty, pos, after, none⟩ E) (hx : E.at x = some (.v (aggV V.ys))) (hsz : SizeIs P T V.ys.length) (hl : V.zs.length = V.ys.length) (h1 : V.ys.all (·.oneCell') = true)
    (hr : KopsK P ops vs E0 rest (pre ++ [none]) C) : KopsK P ops vs E0 (⟨none, .store T (.tmp t) x, ty, pos, after, none⟩ :: rest) pre C := by
  obtain ⟨vals, g1, g2, g3⟩ := hr
  obtain ⟨g4, _⟩ := pre_snoc g1
  exact ⟨vals, g4, .cons (.store j E hV hs hT ht he (hf.more g4) hx hsz hl h1) (by simpa using g2), g3⟩
theorem A.regsK {w₀ : World} {y : Code} {id : Nat} (vs : List VarN) (hm : P.follows .mixedOrders = true) (hfit : fits n ops = true) (hd : downsN ops = true)
    (h : KopsK P ops vs E0 ops.toList [] fun vals => varsOk ops vals vs = true ∧ ∃ E1, FromW ops vals E0 E1 ∧ ∀ bs : Nat → Nat, (∀ j, j < vs.length → NewB w₀.heap.size E0 (bs j)) → (∀ j j', j < vs.length → j' < vs.length → j ≠ j' → bs j ≠ bs j') → A κ P w₀ n y (varEnv bs 0 vs E1) Q) : A κ P w₀ n (.seq (.region id ops true) y) E0 Q := by
  obtain ⟨vals, _, h2, h3, E1, h4, h5⟩ := h
  exact A.regsV vals vs hm hfit hd h3 h2 h4 h5
end
end Go.Proofs.YthadcgkcgpinhaaGreatDoor
namespace Go.Proofs.YthadcgkcgpinhaaGreatDoor
open Go Go.RowKit
set_option linter.unusedVariables false
set_option maxRecDepth 100000
/-- The keys of the volume whose master key is 32 bytes 00, and the ciphertext of a block of bytes 00, as numbers. -/
def encL : List UInt8 := [12, 62, 161, 151, 37, 228, 164, 106, 26, 178, 118, 94, 86, 176, 201, 170]
def macL : List UInt8 := [230, 47, 80, 21, 88, 194, 214, 64, 101, 64, 46, 232, 93, 156, 190, 210, 152, 227, 223, 17, 80, 49, 164, 242, 160, 45, 120, 28, 99, 199, 66, 189]
def c0L : List UInt8 := [141, 104, 69, 158, 224, 87, 46, 44, 131, 13, 79, 252, 243, 29, 83, 158, 104, 35, 98, 71, 181, 102, 181, 173, 188, 92, 156, 40, 46, 171, 143, 193]
def ksD9 : List (List Nat) := [[12, 62, 161, 151, 37, 228, 164, 106, 26, 178, 118, 94, 86, 176, 201, 170],
 [234, 227, 13, 38, 207, 7, 169, 76, 213, 181, 223, 18, 131, 5, 22, 184],
 [131, 164, 97, 202, 76, 163, 200, 134, 153, 22, 23, 148, 26, 19, 1, 44],
 [250, 216, 16, 104, 182, 123, 216, 238, 47, 109, 207, 122, 53, 126, 206, 86],
 [1, 83, 161, 254, 183, 40, 121, 16, 152, 69, 182, 106, 173, 59, 120, 60],
 [243, 239, 74, 107, 68, 199, 51, 123, 220, 130, 133, 17, 113, 185, 253, 45],
 [133, 187, 146, 200, 193, 124, 161, 179, 29, 254, 36, 162, 108, 71, 217, 143],
 [101, 142, 225, 152, 164, 242, 64, 43, 185, 12, 100, 137, 213, 75, 189, 6],
 [86, 244, 142, 155, 242, 6, 206, 176, 75, 10, 170, 57, 158, 65, 23, 63],
 [206, 4, 251, 144, 60, 2, 53, 32, 119, 8, 159, 25, 233, 73, 136, 38],
 [195, 192, 12, 142, 255, 194, 57, 174, 136, 202, 166, 183, 97, 131, 46, 145]]
theorem enc_ok : hkdf (hmac [99, 97, 105, 115, 115, 111, 110] (List.replicate 32 0 : List UInt8)) [101, 110, 99, 114, 121, 112, 116] 16 = encL := by kernel_rfl
theorem mac_ok : hkdf (hmac [99, 97, 105, 115, 115, 111, 110] (List.replicate 32 0 : List UInt8)) [109, 97, 99] 32 = macL := by kernel_rfl
theorem ksD9_ok : chainK ksD9 0 = true := by kernel_rfl
theorem keyD9 {j : Nat} {m : List Nat} (hm : ksD9[j]? = some m) : Eq16 (keyS (expand (byL encL)) j) (lst16 m) := keys_of ksD9 rfl (l := [12, 62, 161, 151, 37, 228, 164, 106, 26, 178, 118, 94, 86, 176, 201, 170]) (eq16_all (by kernel_rfl)) ksD9_ok hm
def stA9 : List (List Nat) := [[12, 62, 161, 150, 37, 228, 164, 106, 26, 178, 118, 92, 86, 176, 201, 170],
 [34, 43, 5, 45, 165, 186, 171, 220, 136, 150, 248, 62, 52, 90, 89, 31],
 [56, 199, 223, 74, 248, 0, 160, 124, 62, 142, 42, 1, 242, 230, 225, 232],
 [47, 182, 19, 202, 49, 205, 10, 123, 87, 113, 228, 135, 241, 39, 222, 8],
 [174, 172, 139, 117, 181, 225, 187, 20, 61, 59, 184, 116, 86, 184, 96, 195],
 [113, 122, 252, 148, 133, 59, 3, 12, 225, 192, 161, 198, 216, 134, 191, 161],
 [229, 163, 225, 130, 11, 190, 250, 231, 116, 187, 250, 162, 20, 176, 83, 254],
 [179, 220, 26, 6, 41, 41, 117, 119, 216, 204, 93, 8, 51, 232, 89, 64],
 [61, 21, 197, 215, 218, 28, 28, 26, 104, 78, 11, 82, 63, 25, 35, 26],
 [182, 223, 235, 17, 203, 111, 19, 204, 158, 173, 164, 251, 116, 49, 135, 124]]
theorem stA9_ok : chainE stA9 (ksD9.drop 1) = true := by kernel_rfl
theorem blkA9 : Eq16 (ksB (byL encL) 1 2 0) (lst16 [141, 104, 69, 158, 224, 87, 46, 44, 131, 13, 79, 252, 243, 29, 83, 158]) := enc_of stA9 ksD9 (fl := [0, 0, 0, 1, 0, 0, 0, 0, 0, 0, 0, 2, 0, 0, 0, 0]) (eq16_all (by kernel_rfl)) rfl rfl (fun j m hm => keyD9 hm) (by decide) (by kernel_rfl) stA9_ok (s9 := [182, 223, 235, 17, 203, 111, 19, 204, 158, 173, 164, 251, 116, 49, 135, 124]) rfl (k9 := [195, 192, 12, 142, 255, 194, 57, 174, 136, 202, 166, 183, 97, 131, 46, 145]) rfl (by kernel_rfl)
def stB9 : List (List Nat) := [[12, 62, 161, 150, 37, 228, 164, 106, 26, 178, 118, 92, 86, 176, 201, 171],
 [236, 229, 76, 170, 165, 186, 171, 220, 136, 150, 248, 62, 52, 90, 89, 31],
 [130, 154, 130, 173, 140, 116, 60, 148, 124, 72, 174, 67, 138, 182, 201, 192],
 [47, 121, 151, 68, 192, 82, 235, 252, 236, 246, 209, 83, 235, 87, 235, 179],
 [120, 105, 127, 37, 236, 45, 101, 88, 202, 14, 227, 139, 161, 104, 194, 130],
 [225, 216, 57, 91, 63, 20, 93, 194, 67, 123, 181, 206, 117, 136, 235, 181],
 [123, 29, 69, 69, 152, 82, 119, 150, 73, 100, 177, 16, 41, 71, 59, 19],
 [146, 145, 204, 201, 97, 97, 40, 156, 202, 78, 136, 49, 76, 115, 8, 44],
 [87, 88, 46, 131, 171, 58, 18, 36, 188, 120, 190, 198, 167, 234, 133, 100],
 [14, 238, 162, 213, 92, 77, 241, 110, 40, 29, 69, 108, 146, 53, 240, 18]]
theorem stB9_ok : chainE stB9 (ksD9.drop 1) = true := by kernel_rfl
theorem blkB9 : Eq16 (ksB (byL encL) 1 2 1) (lst16 [104, 35, 98, 71, 181, 102, 181, 173, 188, 92, 156, 40, 46, 171, 143, 193]) := enc_of stB9 ksD9 (fl := [0, 0, 0, 1, 0, 0, 0, 0, 0, 0, 0, 2, 0, 0, 0, 1]) (eq16_all (by kernel_rfl)) rfl rfl (fun j m hm => keyD9 hm) (by decide) (by kernel_rfl) stB9_ok (s9 := [14, 238, 162, 213, 92, 77, 241, 110, 40, 29, 69, 108, 146, 53, 240, 18]) rfl (k9 := [195, 192, 12, 142, 255, 194, 57, 174, 136, 202, 166, 183, 97, 131, 46, 145]) rfl (by kernel_rfl)
theorem c0_ok : xorK (byL encL) 1 2 0 (List.replicate 32 0 : List UInt8) = c0L := by
 rw [xorK_zeros, ksL, ksL, rowL_lst blkA9, rowL_lst blkB9]
 kernel_rfl
theorem tags_ne : hmac macL (msgL 3 1 2 c0L) ≠ hmac macL (msgL 4 1 2 c0L) := fun h => by
 have : (hmac macL (msgL 3 1 2 c0L) == hmac macL (msgL 4 1 2 c0L)) = false := by kernel_rfl
 rw [h] at this
 simp at this
theorem msg0 : msgL 3 1 2 (List.replicate 32 0 : List UInt8) = ([0, 0, 0, 3, 0, 0, 0, 1, 0, 0, 0, 0, 0, 0, 0, 2] : List UInt8) ++ (List.replicate 32 0 : List UInt8) := by kernel_rfl

set_option maxHeartbeats 4000000 in
theorem lives9_fn  : FnM Tryz.prog 10 tabs [] (.v (.bool true)) := by
 refine FnM.of Tryz.func10 rfl (by kernel_rfl) Tryz.ntmps10 (by simp) (by decide) (fun w => [(1900000, tab 0 (H8.list.map u32V)), (1900001, tab 1 (K64.map u32V))]) (fun w => (StartM.m (by simp [tabs]) (by decide) (StartM.m (by simp [tabs]) (by decide) StartM.nil))) fun w₀ hM => ?_
 have htab := tabs_hi hM
 refine GS ?_
 refine TL ?_
 refine RA rfl ?_
 refine RN ?_
 refine GS ?_
 refine TN 2 ?_
 refine RS (ok_litP [] Tryz.underlying24 info5 zero24 (by decide) trivial rfl) ?_; refine RZ (aggV ((List.replicate 32 0 : List UInt8).map byteV)) (by rfl) ?_
 refine RS (ok_callM (Volume_fn (List.replicate 32 0 : List UInt8) (by rfl)) (Sub.cons rfl (Sub.cons rfl KN)) tabs_v (A1 rfl)) ?_; refine RZ (aggV (rowV 16 (byL encL) ++ macL.map byteV)) (by rw [enc_ok, mac_ok, rowV_byL (l := encL) (n := 16) rfl]) ?_
 refine RN ?_
 refine ⟨_, _, eff_alloc (n := 137) (d := 1) (k := 1000001) zero26 (by decide), fun b1 hb1 => ?_⟩
 have hBb1 := hb1.1
 refine TF 3 ?_
 refine RN ?_
 refine ⟨_, eff_storeA (n := 137) (s := 1000001) (size26.of (KM_len _ rfl)) rfl rfl (KM_one _ _) hBb1 rfl (by rfl) (LV 1 rfl (LeftS.cons (t := 1900000) rfl (Surv.tab (by omega)) (LeftS.cons (t := 1900001) rfl (Surv.tab (by omega)) LN))), ?_⟩
 refine TL ?_
 refine RN ?_
 refine GS ?_
 refine TN 1 ?_
 refine RS (ok_litS [(0, nW 1), (1, nQ 2)] [nW 1, nQ 2] ⟨rfl, rfl, rfl, rfl, trivial⟩ (buildN 1 2)) ?_
 refine RN ?_
 refine ⟨_, _, eff_alloc (n := 137) (d := 2) (k := 1000002) zero30 (by decide), fun b2 hb2 => ?_⟩
 have hBb2 := hb2.1
 refine TF 2 ?_
 refine RN ?_
 refine ⟨_, eff_storeA (n := 137) (s := 1000002) (size30.of (rfl)) rfl rfl (rfl) hBb2 rfl (rfl) (LV 1 rfl (LV 2 rfl (LT 1000001 rfl (LeftS.cons (t := 1900000) rfl (Surv.tab (by omega)) (LeftS.cons (t := 1900001) rfl (Surv.tab (by omega)) LN))))), ?_⟩
 refine TL ?_
 refine RN ?_
 refine GS ?_
 refine TN 0 ?_
 refine RN ?_
 refine ⟨_, _, eff_alloc (n := 137) (d := 3) (k := 1000003) zero33 (by decide), fun b3 hb3 => ?_⟩
 have hBb3 := hb3.1
 refine TL ?_
 refine RN ?_
 refine A.sub (KC 1 rfl (KC 2 rfl (KC 3 rfl (KC 1000001 rfl (KC 1000002 rfl (KE 1000003 rfl (show blk b3 33 _ = blk b3 33 ((List.replicate 32 0 : List UInt8).map byteV) from rfl) (KC 1900000 rfl (KC 1900001 rfl KN)))))))) ?_
 refine GS ?_
 refine TN 2 ?_
 refine RS (ok_loadA (s := 1000002) (by decide) Tryz.underlying30 rfl (size30.of (rfl)) rfl rfl) ?_
 refine RS (ok_loadA (s := 1000003) (by decide) Tryz.underlying33 rfl (size33.of (by rfl)) rfl rfl) ?_
 refine RN ?_
 refine ⟨_, _, eff_name (n := 137) (d := 31) (k := 1000031) rfl rfl (fun B' => ok_callB (Message_ok 3 1 2 (by decide) (by decide) (List.replicate 32 0 : List UInt8) (by rfl) (by decide)) newD_mono (A3 rfl rfl rfl)) (by decide) (by decide), fun b31 hb31 => ?_⟩
 have hBb31 := hb31.1
 have hlt_b1_b31 : b1 < b31 := hb31.2 1000001 _ _ _ rfl
 have hlt_b2_b31 : b2 < b31 := hb31.2 1000002 _ _ _ rfl
 have hlt_b3_b31 : b3 < b31 := hb31.2 1000003 _ _ _ rfl
 refine TL ?_
 refine RM rfl ?_
 refine RS (ok_extractV rfl rfl) ?_
 refine RS (ok_extractV rfl rfl) ?_
 refine RA rfl ?_
 refine RA rfl ?_
 refine RN ?_
 refine GS ?_
 refine TL ?_
 refine RS (ok_build [byteD 0, byteD 0, byteD 0, byteD 3, byteD 0, byteD 0, byteD 0, byteD 1, byteD 0, byteD 0, byteD 0, byteD 0, byteD 0, byteD 0, byteD 0, byteD 2] Tryz.underlying49 info5 rfl (by decide) (by decide) rfl ⟨rfl, rfl, rfl, rfl, rfl, rfl, rfl, rfl, rfl, rfl, rfl, rfl, rfl, rfl, rfl, rfl, rfl, rfl, rfl, rfl, rfl, rfl, rfl, rfl, rfl, rfl, rfl, rfl, rfl, rfl, rfl, rfl, trivial⟩ (fun d' hd' w x h => by simp only [List.mem_cons, List.not_mem_nil, or_false] at hd'; rcases hd' with rfl | rfl | rfl | rfl | rfl | rfl | rfl | rfl | rfl | rfl | rfl | rfl | rfl | rfl | rfl | rfl <;> exact v_one rfl h)) ?_
 refine RS ((ok_sliceA (s := 1000003) 0 32 (by decide) Tryz.underlying33 info5 rfl rfl (.inr ⟨rfl, rfl⟩) (.inr ⟨rfl, rfl⟩) (by omega) (by omega) (by rw [List.length_map, (show (List.replicate 32 0 : List UInt8).length = 32 from rfl)]) (by decide)).le (d' := byt (List.replicate 32 0 : List UInt8)) (byt_all (show (List.replicate 32 0 : List UInt8).length = 32 from rfl))) ?_
 refine RS (ok_appendFull (l := ([0, 0, 0, 3, 0, 0, 0, 1, 0, 0, 0, 0, 0, 0, 0, 2] : List UInt8)) (m := (List.replicate 32 0 : List UInt8)) Tryz.underlying49 info5 (by decide) rfl rfl (Le.refl _) rfl (Le.refl _) (by decide) (by decide) (by decide)) ?_
 refine RA rfl ?_
 refine RN ?_
 refine GS ?_
 refine TN 8 ?_
 refine RS (ok_loadA (s := 1000001) (by decide) Tryz.underlying26 rfl (size26.of (KM_len _ rfl)) rfl rfl) ?_
 refine RS (ok_loadA (s := 1000002) (by decide) Tryz.underlying30 rfl (size30.of (rfl)) rfl rfl) ?_
 refine RS (ok_loadA (s := 1000003) (by decide) Tryz.underlying33 rfl (size33.of (by rfl)) rfl rfl) ?_
 refine RS (ok_callM (Seal_ok (byL encL) macL (byL_lt _) rfl 3 1 2 (by decide) (by decide) (List.replicate 32 0 : List UInt8) (by rfl) (by decide)) (Sub.cons rfl (Sub.cons rfl KN)) tabs_v (Args.cons rfl (Le.refl _) (A3 rfl rfl rfl))) ?_; refine RZ (.tuple #[aggV (c0L.map byteV), aggV ((hmac macL (msgL 3 1 2 c0L)).map byteV), .int .i64 0]) (by rw [c0_ok]) ?_
 refine RM rfl ?_
 refine RS (ok_extractV rfl rfl) ?_
 refine RS (ok_extractV rfl rfl) ?_
 refine RS (ok_extractV rfl rfl) ?_
 refine RN ?_
 refine ⟨_, _, eff_alloc (n := 137) (d := 7) (k := 1000007) zero33 (by decide), fun b7 hb7 => ?_⟩
 have hBb7 := hb7.1
 have hlt_b3_b7 : b3 < b7 := hb7.2 1000003 _ _ _ rfl
 refine TN 9 ?_
 refine RN ?_
 refine ⟨_, _, eff_alloc (n := 137) (d := 8) (k := 1000008) zero34 (by decide), fun b8 hb8 => ?_⟩
 have hBb8 := hb8.1
 refine TF 10 ?_
 refine RN ?_
 refine ⟨_, eff_storeA (n := 137) (s := 1000007) (size33.of (by rfl)) rfl rfl (all_bytes _) hBb7 rfl (by rfl) (LV 1 rfl (LV 2 rfl (LV 3 rfl (LV 4 rfl (LV 5 rfl (LeftS.cons (t := 6) rfl (Surv.own (by decide)) (LV 7 rfl (LV 8 rfl (LV 43 rfl (LV 44 rfl (LT 1000001 rfl (LT 1000002 rfl (LB 1000003 rfl (LT 1000008 rfl (LT 1000031 rfl (LeftS.cons (t := 1900000) rfl (Surv.tab (by omega)) (LeftS.cons (t := 1900001) rfl (Surv.tab (by omega)) LN))))))))))))))))), ?_⟩
 refine TF 11 ?_
 refine RN ?_
 refine ⟨_, eff_storeA (n := 137) (s := 1000008) (size34.of (by rw [List.length_map, hmac_length])) rfl rfl (all_bytes _) hBb8 rfl (by simp [hmac_length]) (LV 1 rfl (LV 2 rfl (LV 3 rfl (LV 4 rfl (LV 5 rfl (LeftS.cons (t := 6) rfl (Surv.own (by decide)) (LV 7 rfl (LV 8 rfl (LV 44 rfl (LT 1000001 rfl (LT 1000002 rfl (LT 1000003 rfl (LT 1000007 rfl (LT 1000031 rfl (LeftS.cons (t := 1900000) rfl (Surv.tab (by omega)) (LeftS.cons (t := 1900001) rfl (Surv.tab (by omega)) LN)))))))))))))))), ?_⟩
 refine TL ?_
 refine RA rfl ?_
 refine RN ?_
 refine A.sub (KC 1 rfl (KC 2 rfl (KC 3 rfl (KC 4 rfl (KC 5 rfl (KC 6 rfl (KC 7 rfl (KC 8 rfl (KC 9 rfl (KC 1000001 rfl (KC 1000002 rfl (KC 1000003 rfl (KC 1000007 rfl (KC 1000008 rfl (KC 1000031 rfl (KC 1900000 rfl (KC 1900001 rfl KN))))))))))))))))) ?_
 refine A.regsK [⟨8, 10, 22, List.replicate 16 (.int .u8 0), 10, (ksL (byL encL) 1 2 0).map byteV⟩, ⟨9, 11, 22, List.replicate 16 (.int .u8 0), 11, (ksL (byL encL) 1 2 1).map byteV⟩] (by kernel_rfl) (by kernel_rfl) (by kernel_rfl) ?_
 refine KopsK.pure (_) rfl (.inl rfl) FromV.all (fun B' => (ok_field field26_0 (by decide) rfl)) ?_
 refine KopsK.pure ((45, .v _) :: _) rfl (.inl rfl) (FromV.op 0 (by kernel_rfl) rfl rfl FromV.all) (fun B' => (ok_loadP (s := 1000001) (by decide) Tryz.underlying22 rfl size22 rfl rfl (by simp only [List.length_append, rowV_length, List.length_map]; decide) (K_key _ _))) ?_
 refine KopsK.pure (_) rfl (.inl rfl) FromV.all (fun B' => (ok_loadA (s := 1000002) (by decide) Tryz.underlying30 rfl (size30.of (rfl)) rfl rfl)) ?_
 refine KopsK.pure ((46, .v _) :: (47, .v _) :: _) rfl (.inl rfl) (FromV.op 1 (by kernel_rfl) rfl rfl (FromV.op 2 (by kernel_rfl) rfl rfl FromV.all)) (fun B' => (OpOk.asV (aggV ((ksL (byL encL) 1 2 0).map byteV)) (congrArg aggV (ksL_row (byL_lt _) _ _ _)) (ok_call (Block_fn7 (byL encL) (byL_lt _) 1 2 0 (by decide) (by decide) (by decide)) (A3 rfl rfl rfl)))) ?_
 refine KopsK.pure (_) rfl (.inl rfl) FromV.all (fun B' => (ok_field field26_0 (by decide) rfl)) ?_
 refine KopsK.pure ((49, .v _) :: _) rfl (.inl rfl) (FromV.op 4 (by kernel_rfl) rfl rfl FromV.all) (fun B' => (ok_loadP (s := 1000001) (by decide) Tryz.underlying22 rfl size22 rfl rfl (by simp only [List.length_append, rowV_length, List.length_map]; decide) (K_key _ _))) ?_
 refine KopsK.pure (_) rfl (.inl rfl) FromV.all (fun B' => (ok_loadA (s := 1000002) (by decide) Tryz.underlying30 rfl (size30.of (rfl)) rfl rfl)) ?_
 refine KopsK.pure ((50, .v _) :: (51, .v _) :: _) rfl (.inl rfl) (FromV.op 5 (by kernel_rfl) rfl rfl (FromV.op 6 (by kernel_rfl) rfl rfl FromV.all)) (fun B' => (OpOk.asV (aggV ((ksL (byL encL) 1 2 1).map byteV)) (congrArg aggV (ksL_row (byL_lt _) _ _ _)) (ok_call (Block_fn7 (byL encL) (byL_lt _) 1 2 1 (by decide) (by decide) (by decide)) (A3 rfl rfl rfl)))) ?_
 refine KopsK.alloc 0 rfl rfl rfl rfl zero22 rfl ?_
 refine KopsK.alloc 1 rfl rfl rfl rfl zero22 rfl ?_
 refine KopsK.store 0 ((48, .v _) :: _) rfl rfl rfl rfl (by kernel_rfl) (FromV.op 3 (by kernel_rfl) rfl rfl FromV.all) rfl (size22.of (by rw [List.length_map, ksL_length])) (by simp [ksL_length]) (all_bytes _) ?_
 refine KopsK.store 1 ((52, .v _) :: _) rfl rfl rfl rfl (by kernel_rfl) (FromV.op 7 (by kernel_rfl) rfl rfl FromV.all) rfl (size22.of (by rw [List.length_map, ksL_length])) (by simp [ksL_length]) (all_bytes _) ?_
 refine KopsK.nil ⟨by kernel_rfl, _, FromW.all, fun bs hbs hds => ?_⟩
 have hb10 := hbs 0 (by decide)
 have hb11 := hbs 1 (by decide)
 have hne_b10_b11 := hds 0 1 (by decide) (by decide) (by decide)
 dsimp only [varEnv]
 generalize bs 0 = b10 at *
 generalize bs (0 + 1) = b11 at *
 have hBb10 := hb10.1
 have hlt_b1_b10 : b1 < b10 := hb10.2 1000001 _ _ _ rfl
 have hlt_b2_b10 : b2 < b10 := hb10.2 1000002 _ _ _ rfl
 have hlt_b3_b10 : b3 < b10 := hb10.2 1000003 _ _ _ rfl
 have hlt_b7_b10 : b7 < b10 := hb10.2 1000007 _ _ _ rfl
 have hlt_b8_b10 : b8 < b10 := hb10.2 1000008 _ _ _ rfl
 have hlt_b31_b10 : b31 < b10 := hb10.2 1000031 _ _ _ rfl
 have hBb11 := hb11.1
 have hlt_b1_b11 : b1 < b11 := hb11.2 1000001 _ _ _ rfl
 have hlt_b2_b11 : b2 < b11 := hb11.2 1000002 _ _ _ rfl
 have hlt_b3_b11 : b3 < b11 := hb11.2 1000003 _ _ _ rfl
 have hlt_b7_b11 : b7 < b11 := hb11.2 1000007 _ _ _ rfl
 have hlt_b8_b11 : b8 < b11 := hb11.2 1000008 _ _ _ rfl
 have hlt_b31_b11 : b31 < b11 := hb11.2 1000031 _ _ _ rfl
 refine A.sub (KC 1 rfl (KC 2 rfl (KC 3 rfl (KC 4 rfl (KC 5 rfl (KC 6 rfl (KC 7 rfl (KC 8 rfl (KC 9 rfl (KC 10 rfl (KC 11 rfl (KC 1000001 rfl (KC 1000002 rfl (KC 1000003 rfl (KC 1000007 rfl (KC 1000008 rfl (KC 1000010 rfl (KC 1000011 rfl (KC 1000031 rfl (KC 1900000 rfl (KC 1900001 rfl KN))))))))))))))))))))) ?_
 refine A.seq ?_
 refine GD ?_
 refine TL ?_
 refine RS (OpOk.fact (ok_move rfl) (d := bytes (([0, 0, 0, 3, 0, 0, 0, 1, 0, 0, 0, 0, 0, 0, 0, 2] : List UInt8) ++ (List.replicate 32 0 : List UInt8)) (([0, 0, 0, 3, 0, 0, 0, 1, 0, 0, 0, 0, 0, 0, 0, 2] : List UInt8) ++ (List.replicate 32 0 : List UInt8)).length) (s := 1000031) (by decide) rfl (slice_bytes (([0, 0, 0, 3, 0, 0, 0, 1, 0, 0, 0, 0, 0, 0, 0, 2] : List UInt8) ++ (List.replicate 32 0 : List UInt8)) (by rfl) (by decide) (by decide) (by rw [msg0]; rfl))) ?_
 refine RM rfl ?_
 refine RM rfl ?_
 refine RS (ok_call (same9_fn (([0, 0, 0, 3, 0, 0, 0, 1, 0, 0, 0, 0, 0, 0, 0, 2] : List UInt8) ++ (List.replicate 32 0 : List UInt8)) 0) (Args.cons rfl (Le.refl _) (Args.cons rfl (Le.refl _) (Args.cons rfl (own_cat rfl rfl) (A1 rfl))))) ?_
 refine RS (ok_not rfl) ?_; refine RZ (.bool false) (by rfl) ?_
 refine RM rfl ?_
 refine RQ (ok_move rfl) ?_
 refine RQ (ok_bin rfl rfl rfl) ?_; refine RZ (.bool false) (by rfl) ?_
 refine RP rfl rfl ?_
 refine RM rfl ?_
 refine RQ ((ok_sliceA (s := 1000007) 0 32 (by decide) Tryz.underlying33 info5 rfl rfl (.inr ⟨rfl, rfl⟩) (.inr ⟨rfl, rfl⟩) (by omega) (by omega) (by rw [List.length_map, (show c0L.length = 32 from rfl)]) (by decide)).le (d' := byt c0L) (byt_all (show c0L.length = 32 from rfl))) ?_
 refine RQ (ok_str (l := c0L) Tryz.underlying49 Tryz.underlying5 Tryz.underlying9 rfl (Le.refl _)) ?_
 refine RQ ((ok_sliceA (s := 1000010) 0 16 (by decide) Tryz.underlying22 info5 rfl rfl (.inr ⟨rfl, rfl⟩) (.inr ⟨rfl, rfl⟩) (by omega) (by omega) (by rw [List.length_map, ksL_length]) (by decide)).le (d' := byt (ksL (byL encL) 1 2 0)) (byt_all (ksL_length _ _ _ _))) ?_
 refine RQ (ok_str (l := ksL (byL encL) 1 2 0) Tryz.underlying49 Tryz.underlying5 Tryz.underlying9 rfl (Le.refl _)) ?_
 refine RQ ((ok_sliceA (s := 1000011) 0 16 (by decide) Tryz.underlying22 info5 rfl rfl (.inr ⟨rfl, rfl⟩) (.inr ⟨rfl, rfl⟩) (by omega) (by omega) (by rw [List.length_map, ksL_length]) (by decide)).le (d' := byt (ksL (byL encL) 1 2 1)) (byt_all (ksL_length _ _ _ _))) ?_
 refine RQ (ok_str (l := ksL (byL encL) 1 2 1) Tryz.underlying49 Tryz.underlying5 Tryz.underlying9 rfl (Le.refl _)) ?_
 refine RQ (ok_addS rfl rfl (by rw [ksL_length, ksL_length]; decide)) ?_
 refine RQ (ok_sne rfl rfl) ?_; refine RZ (.bool false) (by rw [← c0_ok, xorK_zeros]; simp) ?_
 refine RP rfl rfl ?_
 refine RN ?_
 refine A.no rfl ?_
 refine A.skip ?_
 refine EN ?_
 refine GS ?_
 refine TN 8 ?_
 refine RS (ok_loadA (s := 1000001) (by decide) Tryz.underlying26 rfl (size26.of (KM_len _ rfl)) rfl rfl) ?_
 refine RS (ok_loadA (s := 1000002) (by decide) Tryz.underlying30 rfl (size30.of (rfl)) rfl rfl) ?_
 refine RS (ok_loadA (s := 1000007) (by decide) Tryz.underlying33 rfl (size33.of (by rfl)) rfl rfl) ?_
 refine RS (ok_loadA (s := 1000008) (by decide) Tryz.underlying34 rfl (size34.of (by rw [List.length_map, hmac_length])) rfl rfl) ?_
 refine RS (ok_callM (Open_ok (byL encL) macL (byL_lt _) rfl 3 1 2 (by decide) (by decide) c0L rfl (by decide) (hmac macL (msgL 3 1 2 c0L)) (hmac_length _ _) rfl) (Sub.cons rfl (Sub.cons rfl KN)) tabs_v (Args.cons rfl (Le.refl _) (Args.cons rfl (Le.refl _) (A3 rfl rfl rfl)))) ?_
 refine RM rfl ?_
 refine RS (ok_extractV rfl rfl) ?_; refine RZ (aggV ((List.replicate 32 0 : List UInt8).map byteV)) (by rw [← c0_ok, xorK_xorK (byL_lt _)]) ?_
 refine RS (ok_extractV rfl rfl) ?_
 refine RN ?_
 refine ⟨_, _, eff_alloc (n := 137) (d := 12) (k := 1000012) zero33 (by decide), fun b12 hb12 => ?_⟩
 have hBb12 := hb12.1
 have hlt_b3_b12 : b3 < b12 := hb12.2 1000003 _ _ _ rfl
 have hlt_b7_b12 : b7 < b12 := hb12.2 1000007 _ _ _ rfl
 refine TF 9 ?_
 refine RN ?_
 refine ⟨_, eff_storeA (n := 137) (s := 1000012) (size33.of (by rfl)) rfl rfl (all_bytes _) hBb12 rfl (by rfl) (LV 1 rfl (LV 2 rfl (LV 3 rfl (LV 7 rfl (LV 8 rfl (LV 12 rfl (LV 79 rfl (LT 1000001 rfl (LT 1000002 rfl (LB 1000003 rfl (LB 1000007 rfl (LT 1000008 rfl (LT 1000010 rfl (LT 1000011 rfl (LT 1000031 rfl (LeftS.cons (t := 1900000) rfl (Surv.tab (by omega)) (LeftS.cons (t := 1900001) rfl (Surv.tab (by omega)) LN))))))))))))))))), ?_⟩
 refine TL ?_
 refine RA rfl ?_
 refine RN ?_
 refine A.sub (KC 1 rfl (KC 2 rfl (KC 3 rfl (KC 7 rfl (KC 8 rfl (KC 12 rfl (KC 13 rfl (KC 1000001 rfl (KC 1000002 rfl (KC 1000003 rfl (KC 1000007 rfl (KC 1000008 rfl (KC 1000010 rfl (KC 1000011 rfl (KC 1000012 rfl (KC 1000031 rfl (KC 1900000 rfl (KC 1900001 rfl KN)))))))))))))))))) ?_
 refine GS ?_
 refine TN 8 ?_
 refine RS (ok_loadA (s := 1000001) (by decide) Tryz.underlying26 rfl (size26.of (KM_len _ rfl)) rfl rfl) ?_
 refine RS (ok_loadA (s := 1000002) (by decide) Tryz.underlying30 rfl (size30.of (rfl)) rfl rfl) ?_
 refine RS (ok_loadA (s := 1000007) (by decide) Tryz.underlying33 rfl (size33.of (by rfl)) rfl rfl) ?_
 refine RS (ok_loadA (s := 1000008) (by decide) Tryz.underlying34 rfl (size34.of (by rw [List.length_map, hmac_length])) rfl rfl) ?_
 refine RS (ok_callM (Open_int (byL encL) macL (byL_lt _) rfl 4 1 2 (by decide) (by decide) c0L rfl (by decide) (hmac macL (msgL 3 1 2 c0L)) (hmac_length _ _) tags_ne) (Sub.cons rfl (Sub.cons rfl KN)) tabs_v (Args.cons rfl (Le.refl _) (Args.cons rfl (Le.refl _) (A3 rfl rfl rfl)))) ?_
 refine RM rfl ?_
 refine RS (ok_extractV rfl rfl) ?_
 refine RS (ok_extractV rfl rfl) ?_
 refine RN ?_
 refine ⟨_, _, eff_alloc (n := 137) (d := 14) (k := 1000014) zero33 (by decide), fun b14 hb14 => ?_⟩
 have hBb14 := hb14.1
 have hlt_b3_b14 : b3 < b14 := hb14.2 1000003 _ _ _ rfl
 have hlt_b7_b14 : b7 < b14 := hb14.2 1000007 _ _ _ rfl
 have hlt_b12_b14 : b12 < b14 := hb14.2 1000012 _ _ _ rfl
 refine TF 9 ?_
 refine RN ?_
 refine ⟨_, eff_storeA (n := 137) (s := 1000014) (size33.of (rfl)) rfl rfl (rfl) hBb14 rfl (rfl) (LV 1 rfl (LV 2 rfl (LV 3 rfl (LV 12 rfl (LV 13 rfl (LV 14 rfl (LV 87 rfl (LT 1000001 rfl (LT 1000002 rfl (LB 1000003 rfl (LB 1000007 rfl (LT 1000008 rfl (LT 1000010 rfl (LT 1000011 rfl (LB 1000012 rfl (LT 1000031 rfl (LeftS.cons (t := 1900000) rfl (Surv.tab (by omega)) (LeftS.cons (t := 1900001) rfl (Surv.tab (by omega)) LN)))))))))))))))))), ?_⟩
 refine TL ?_
 refine RA rfl ?_
 refine RN ?_
 refine GS ?_
 refine TN 8 ?_
 refine RS (ok_loadA (s := 1000001) (by decide) Tryz.underlying26 rfl (size26.of (KM_len _ rfl)) rfl rfl) ?_
 refine RS (ok_loadA (s := 1000002) (by decide) Tryz.underlying30 rfl (size30.of (rfl)) rfl rfl) ?_
 refine RS (ok_loadA (s := 1000003) (by decide) Tryz.underlying33 rfl (size33.of (by rfl)) rfl rfl) ?_
 refine RS (ok_callM (Seal_bad (byL encL) macL (byL_lt _) rfl (-1) (by decide) 1 2 (by decide) (by decide) (List.replicate 32 0 : List UInt8) (by rfl)) (Sub.cons rfl (Sub.cons rfl KN)) tabs_v (Args.cons rfl (Le.refl _) (A3 rfl rfl rfl))) ?_
 refine RM rfl ?_
 refine RS (ok_extractV rfl rfl) ?_
 refine RS (ok_extractV rfl rfl) ?_
 refine RS (ok_extractV rfl rfl) ?_
 refine RN ?_
 refine ⟨_, _, eff_alloc (n := 137) (d := 16) (k := 1000016) zero33 (by decide), fun b16 hb16 => ?_⟩
 have hBb16 := hb16.1
 have hlt_b3_b16 : b3 < b16 := hb16.2 1000003 _ _ _ rfl
 have hlt_b7_b16 : b7 < b16 := hb16.2 1000007 _ _ _ rfl
 have hlt_b12_b16 : b12 < b16 := hb16.2 1000012 _ _ _ rfl
 have hlt_b14_b16 : b14 < b16 := hb16.2 1000014 _ _ _ rfl
 refine TN 9 ?_
 refine RN ?_
 refine ⟨_, _, eff_alloc (n := 137) (d := 17) (k := 1000017) zero34 (by decide), fun b17 hb17 => ?_⟩
 have hBb17 := hb17.1
 have hlt_b8_b17 : b8 < b17 := hb17.2 1000008 _ _ _ rfl
 refine TF 10 ?_
 refine RN ?_
 refine ⟨_, eff_storeA (n := 137) (s := 1000016) (size33.of (rfl)) rfl rfl (rfl) hBb16 rfl (rfl) (LV 2 rfl (LV 3 rfl (LV 12 rfl (LV 13 rfl (LV 14 rfl (LV 15 rfl (LV 17 rfl (LV 94 rfl (LV 95 rfl (LT 1000001 rfl (LT 1000002 rfl (LB 1000003 rfl (LB 1000007 rfl (LT 1000008 rfl (LT 1000010 rfl (LT 1000011 rfl (LB 1000012 rfl (LB 1000014 rfl (LT 1000017 rfl (LT 1000031 rfl (LeftS.cons (t := 1900000) rfl (Surv.tab (by omega)) (LeftS.cons (t := 1900001) rfl (Surv.tab (by omega)) LN)))))))))))))))))))))), ?_⟩
 refine TF 11 ?_
 refine RN ?_
 refine ⟨_, eff_storeA (n := 137) (s := 1000017) (size34.of (rfl)) rfl rfl (rfl) hBb17 rfl (rfl) (LV 2 rfl (LV 3 rfl (LV 12 rfl (LV 13 rfl (LV 14 rfl (LV 15 rfl (LV 95 rfl (LT 1000001 rfl (LT 1000002 rfl (LT 1000003 rfl (LT 1000007 rfl (LB 1000008 rfl (LT 1000010 rfl (LT 1000011 rfl (LT 1000012 rfl (LT 1000014 rfl (LT 1000016 rfl (LT 1000031 rfl (LeftS.cons (t := 1900000) rfl (Surv.tab (by omega)) (LeftS.cons (t := 1900001) rfl (Surv.tab (by omega)) LN)))))))))))))))))))), ?_⟩
 refine TL ?_
 refine RA rfl ?_
 refine RN ?_
 refine GS ?_
 refine TL ?_
 refine RS (ok_loadA (s := 1000002) (by decide) Tryz.underlying30 rfl (size30.of (rfl)) rfl rfl) ?_
 refine RS (ok_loadA (s := 1000003) (by decide) Tryz.underlying33 rfl (size33.of (by rfl)) rfl rfl) ?_
 refine RS (ok_call (Message_bad 4096 (by decide) 1 2 (by decide) (by decide) (List.replicate 32 0 : List UInt8) (by rfl)) (A3 rfl rfl rfl)) ?_
 refine RM rfl ?_
 refine RS (ok_extractV rfl rfl) ?_
 refine RS (ok_extractV rfl rfl) ?_
 refine RA rfl ?_
 refine RA rfl ?_
 refine RN ?_
 refine A.sub (KC 3 rfl (KC 12 rfl (KC 13 rfl (KC 14 rfl (KC 15 rfl (KC 18 rfl (KC 20 rfl (KC 1000001 rfl (KC 1000002 rfl (KC 1000003 rfl (KC 1000007 rfl (KC 1000008 rfl (KC 1000010 rfl (KC 1000011 rfl (KC 1000012 rfl (KC 1000014 rfl (KC 1000016 rfl (KC 1000017 rfl (KC 1000031 rfl (KC 1900000 rfl (KC 1900001 rfl KN))))))))))))))))))))) ?_
 refine GS ?_
 refine TN 7 ?_
 refine RS (ok_make 47 Tryz.underlying49 info5 (by decide) rfl rfl rfl rfl rfl (by decide)) ?_
 refine RS (ok_call (Parse_err (List.replicate 47 0) 6 (by decide) (checkMessage_short (List.replicate 47 0) (by decide))) (Args.cons rfl ((Le.eq (by rfl)).trans ((fresh_bytes (l := List.replicate 47 0) rfl (by decide)).trans (le_byt _ _))) Args.nil)) ?_
 refine RM rfl ?_
 refine RS (ok_extractV rfl rfl) ?_
 refine RS (ok_extractV rfl rfl) ?_
 refine RS (ok_extractV rfl rfl) ?_
 refine RS (ok_extractV rfl rfl) ?_
 refine RN ?_
 refine ⟨_, _, eff_alloc (n := 137) (d := 22) (k := 1000022) zero30 (by decide), fun b22 hb22 => ?_⟩
 have hBb22 := hb22.1
 have hlt_b2_b22 : b2 < b22 := hb22.2 1000002 _ _ _ rfl
 refine TN 8 ?_
 refine RN ?_
 refine ⟨_, _, eff_alloc (n := 137) (d := 23) (k := 1000023) zero33 (by decide), fun b23 hb23 => ?_⟩
 have hBb23 := hb23.1
 have hlt_b3_b23 : b3 < b23 := hb23.2 1000003 _ _ _ rfl
 have hlt_b7_b23 : b7 < b23 := hb23.2 1000007 _ _ _ rfl
 have hlt_b12_b23 : b12 < b23 := hb23.2 1000012 _ _ _ rfl
 have hlt_b14_b23 : b14 < b23 := hb23.2 1000014 _ _ _ rfl
 have hlt_b16_b23 : b16 < b23 := hb23.2 1000016 _ _ _ rfl
 refine TF 10 ?_
 refine RA rfl ?_
 refine RN ?_
 refine ⟨_, eff_storeA (n := 137) (s := 1000022) (size30.of (rfl)) rfl rfl (rfl) hBb22 rfl (rfl) (LV 3 rfl (LV 12 rfl (LV 13 rfl (LV 14 rfl (LV 15 rfl (LV 18 rfl (LV 20 rfl (LV 23 rfl (LV 107 rfl (LV 108 rfl (LT 1000001 rfl (LB 1000002 rfl (LT 1000003 rfl (LT 1000007 rfl (LT 1000008 rfl (LT 1000010 rfl (LT 1000011 rfl (LT 1000012 rfl (LT 1000014 rfl (LT 1000016 rfl (LT 1000017 rfl (LT 1000023 rfl (LT 1000031 rfl (LeftS.cons (t := 1900000) rfl (Surv.tab (by omega)) (LeftS.cons (t := 1900001) rfl (Surv.tab (by omega)) LN))))))))))))))))))))))))), ?_⟩
 refine TF 11 ?_
 refine RN ?_
 refine ⟨_, eff_storeA (n := 137) (s := 1000023) (size33.of (rfl)) rfl rfl (rfl) hBb23 rfl (rfl) (LV 3 rfl (LV 12 rfl (LV 13 rfl (LV 14 rfl (LV 15 rfl (LV 18 rfl (LV 20 rfl (LV 108 rfl (LT 1000001 rfl (LT 1000002 rfl (LB 1000003 rfl (LB 1000007 rfl (LT 1000008 rfl (LT 1000010 rfl (LT 1000011 rfl (LB 1000012 rfl (LB 1000014 rfl (LB 1000016 rfl (LT 1000017 rfl (LT 1000022 rfl (LT 1000031 rfl (LeftS.cons (t := 1900000) rfl (Surv.tab (by omega)) (LeftS.cons (t := 1900001) rfl (Surv.tab (by omega)) LN))))))))))))))))))))))), ?_⟩
 refine TL ?_
 refine RA rfl ?_
 refine RN ?_
 refine GS ?_
 refine TL ?_
 refine RS (ok_loadA (s := 1000012) (by decide) Tryz.underlying33 rfl (size33.of (by rfl)) rfl rfl) ?_
 refine RS (ok_loadA (s := 1000003) (by decide) Tryz.underlying33 rfl (size33.of (by rfl)) rfl rfl) ?_
 refine RS (ok_eqlT (n := 3) true flat33 (by decide) (by kernel_rfl) (by kernel_rfl) rfl rfl (kinB (l := (List.replicate 32 0 : List UInt8)) rfl) (kinB (l := (List.replicate 32 0 : List UInt8)) rfl) ⟨fun _ => rfl, fun _ => rfl⟩) ?_; refine RZ (.bool true) (by rfl) ?_
 refine RM rfl ?_
 refine RQ (ok_move rfl) ?_
 refine RQ (ok_bin rfl rfl rfl) ?_; refine RZ (.bool true) (by rfl) ?_
 refine RP rfl rfl ?_
 refine RM rfl ?_
 refine RQ (ok_loadA (s := 1000014) (by decide) Tryz.underlying33 rfl (size33.of (rfl)) rfl rfl) ?_
 refine RQ (ok_litP [] Tryz.underlying33 info5 zero33 (by decide) trivial rfl) ?_; refine RZ (aggV (List.replicate 32 (.int .u8 0))) (by rfl) ?_
 refine RQ (ok_eqlT (n := 3) true flat33 (by decide) (by kernel_rfl) (by kernel_rfl) rfl rfl (kinZ 32) (kinZ 32) ⟨fun _ => rfl, fun _ => rfl⟩) ?_; refine RZ (.bool true) (by rfl) ?_
 refine RP rfl rfl ?_
 refine RM rfl ?_
 refine RQ (ok_move rfl) ?_
 refine RQ (ok_bin rfl rfl rfl) ?_; refine RZ (.bool true) (by rfl) ?_
 refine RP rfl rfl ?_
 refine RM rfl ?_
 refine RQ (ok_move rfl) ?_
 refine RQ (ok_bin rfl rfl rfl) ?_; refine RZ (.bool true) (by rfl) ?_
 refine RP rfl rfl ?_
 refine RM rfl ?_
 refine RQ (ok_move rfl) ?_
 refine RQ (ok_bin rfl rfl rfl) ?_; refine RZ (.bool true) (by rfl) ?_
 refine RP rfl rfl ?_
 refine RM rfl ?_
 refine RQ (ok_move rfl) ?_
 refine RQ (ok_bin rfl rfl rfl) ?_; refine RZ (.bool true) (by rfl) ?_
 refine RP rfl rfl ?_
 refine RA rfl ?_
 refine RN ?_
 refine A.sub (KC 0 rfl (KC 1000001 rfl (KC 1000002 rfl (KC 1000003 rfl (KC 1000007 rfl (KC 1000008 rfl (KC 1000010 rfl (KC 1000011 rfl (KC 1000012 rfl (KC 1000014 rfl (KC 1000016 rfl (KC 1000017 rfl (KC 1000022 rfl (KC 1000023 rfl (KC 1000031 rfl (KC 1900000 rfl (KC 1900001 rfl KN))))))))))))))))) ?_
 refine A.ret ?_
 exact End.ret1 rfl rfl (by first | exact Le.refl _ | exact Le.old _ _)
end Go.Proofs.YthadcgkcgpinhaaGreatDoor
namespace Go.Proofs.YthadcgkcgpinhaaGreatDoor
open Go Go.RowKit
set_option linter.unusedVariables false
set_option maxRecDepth 20000
theorem zero32 : ZeroIs Tryz.prog 32 (List.replicate 16 (.int .u8 0) ++ List.replicate 32 (.int .u8 0) ++ [.int .i64 0] ++ [.int .u32 0] ++ [.int .u64 0]) := by unfold ZeroIs; kernel_rfl
theorem size32 : SizeIs Tryz.prog 32 51 := by unfold SizeIs; kernel_rfl
theorem field32_0 : FieldIs Tryz.prog 32 0 0 48 := by unfold FieldIs; kernel_rfl
theorem field32_1 : FieldIs Tryz.prog 32 1 48 1 := by unfold FieldIs; kernel_rfl
theorem field32_2 : FieldIs Tryz.prog 32 2 49 2 := by unfold FieldIs; kernel_rfl

set_option maxHeartbeats 4000000 in
theorem SealsBack_bad (f : Nat → Nat) (mk : List UInt8) (hf : By f) (hmk : mk.length = 32) (i : Int) (hi : i < 0 ∨ 4096 ≤ i) (s c : Nat) (hs : s < 4294967296) (hc : c < 18446744073709551616) (d : List UInt8) (hd : d.length = 32)  : FnM Tryz.prog 3 tabs [.v (aggV (rowV 16 f ++ mk.map byteV ++ [.int .i64 i, nW s, nQ c])), .v (aggV (d.map byteV))] (.v (.bool true)) := by
 refine FnM.of Tryz.func3 rfl (by kernel_rfl) Tryz.ntmps3 (by simp) (by decide) (fun w => [(0, .v (aggV (rowV 16 f ++ mk.map byteV ++ [.int .i64 i, nW s, nQ c]))), (1, .v (aggV (d.map byteV))), (1900000, tab 0 (H8.list.map u32V)), (1900001, tab 1 (K64.map u32V))]) (fun w => (StartM.v rfl (StartM.v rfl (StartM.m (by simp [tabs]) (by decide) (StartM.m (by simp [tabs]) (by decide) StartM.nil))))) fun w₀ hM => ?_
 have htab := tabs_hi hM
 refine GS ?_
 refine TN 0 ?_
 refine RN ?_
 refine ⟨_, _, eff_box (n := 116) (d := 2) (k := 1000002) rfl (by decide), fun b2 hb2 => ?_⟩
 have hBb2 := hb2.1
 refine TN 1 ?_
 refine RN ?_
 refine ⟨_, _, eff_box (n := 116) (d := 3) (k := 1000003) rfl (by decide), fun b3 hb3 => ?_⟩
 have hBb3 := hb3.1
 refine TL ?_
 refine RA rfl ?_
 refine RN ?_
 refine GS ?_
 refine TN 12 ?_
 refine RS (ok_field field32_0 (by decide) rfl) ?_
 refine RS (ok_loadP (s := 1000002) (by decide) Tryz.underlying26 rfl size26 rfl rfl (by simp [rowV_length, hmk]) (SC_keys f hmk _)) ?_
 refine RS (ok_field field32_1 (by decide) rfl) ?_
 refine RS (ok_loadV (s := 1000002) (by decide) Tryz.underlying3 rfl rfl rfl (SC_ix f hmk _ _ _)) ?_
 refine RS (ok_field field32_2 (by decide) rfl) ?_
 refine RS (ok_loadP (s := 1000002) (by decide) Tryz.underlying30 rfl size30 rfl rfl (by simp [rowV_length, hmk]) (SC_non f hmk _ _ _)) ?_
 refine RS (ok_loadA (s := 1000003) (by decide) Tryz.underlying33 rfl (size33.of (by rw [List.length_map, hd])) rfl rfl) ?_
 refine RS (ok_callM (Seal_bad f mk hf hmk i hi s c hs hc d hd) (Sub.cons rfl (Sub.cons rfl KN)) tabs_v (Args.cons rfl (Le.refl _) (A3 rfl rfl rfl))) ?_
 refine RM rfl ?_
 refine RS (ok_extractV rfl rfl) ?_
 refine RS (ok_extractV rfl rfl) ?_
 refine RS (ok_extractV rfl rfl) ?_
 refine RN ?_
 refine ⟨_, _, eff_alloc (n := 116) (d := 5) (k := 1000005) zero33 (by decide), fun b5 hb5 => ?_⟩
 have hBb5 := hb5.1
 have hlt_b3_b5 : b3 < b5 := hb5.2 1000003 _ _ _ rfl
 refine TN 13 ?_
 refine RN ?_
 refine ⟨_, _, eff_alloc (n := 116) (d := 6) (k := 1000006) zero34 (by decide), fun b6 hb6 => ?_⟩
 have hBb6 := hb6.1
 refine TF 14 ?_
 refine RN ?_
 refine ⟨_, eff_storeA (n := 116) (s := 1000005) (size33.of (rfl)) rfl rfl (rfl) hBb5 rfl (rfl) (LV 2 rfl (LV 3 rfl (LV 5 rfl (LV 6 rfl (LV 24 rfl (LV 25 rfl (LT 1000002 rfl (LB 1000003 rfl (LT 1000006 rfl (LeftS.cons (t := 1900000) rfl (Surv.tab (by omega)) (LeftS.cons (t := 1900001) rfl (Surv.tab (by omega)) LN))))))))))), ?_⟩
 refine TF 15 ?_
 refine RN ?_
 refine ⟨_, eff_storeA (n := 116) (s := 1000006) (size34.of (rfl)) rfl rfl (rfl) hBb6 rfl (rfl) (LV 2 rfl (LV 3 rfl (LV 5 rfl (LV 6 rfl (LV 25 rfl (LT 1000002 rfl (LT 1000003 rfl (LT 1000005 rfl (LeftS.cons (t := 1900000) rfl (Surv.tab (by omega)) (LeftS.cons (t := 1900001) rfl (Surv.tab (by omega)) LN)))))))))), ?_⟩
 refine TL ?_
 refine RA rfl ?_
 refine RN ?_
 refine A.seq ?_
 refine GS ?_
 refine TL ?_
 refine RS (ok_field field32_1 (by decide) rfl) ?_
 refine RS (ok_loadV (s := 1000002) (by decide) Tryz.underlying3 rfl rfl rfl (SC_ix f hmk _ _ _)) ?_
 refine RS (ok_call (bad9_yes i hi) (A1 rfl)) ?_
 refine RN ?_
 refine A.yes rfl ?_
 refine GS ?_
 refine TN 12 ?_
 refine RS (ok_field field32_0 (by decide) rfl) ?_
 refine RS (ok_loadP (s := 1000002) (by decide) Tryz.underlying26 rfl size26 rfl rfl (by simp [rowV_length, hmk]) (SC_keys f hmk _)) ?_
 refine RS (ok_field field32_1 (by decide) rfl) ?_
 refine RS (ok_loadV (s := 1000002) (by decide) Tryz.underlying3 rfl rfl rfl (SC_ix f hmk _ _ _)) ?_
 refine RS (ok_field field32_2 (by decide) rfl) ?_
 refine RS (ok_loadP (s := 1000002) (by decide) Tryz.underlying30 rfl size30 rfl rfl (by simp [rowV_length, hmk]) (SC_non f hmk _ _ _)) ?_
 refine RS (ok_loadA (s := 1000003) (by decide) Tryz.underlying33 rfl (size33.of (by rw [List.length_map, hd])) rfl rfl) ?_
 refine RS (ok_loadA (s := 1000006) (by decide) Tryz.underlying34 rfl (size34.of (rfl)) rfl rfl) ?_; refine RZ (aggV ((List.replicate 32 0 : List UInt8).map byteV)) (by rfl) ?_
 refine RS (ok_callM (Open_bad f mk hf hmk i hi s c hs hc d hd (List.replicate 32 0 : List UInt8) (by rfl)) (Sub.cons rfl (Sub.cons rfl KN)) tabs_v (Args.cons rfl (Le.refl _) (Args.cons rfl (Le.refl _) (A3 rfl rfl rfl)))) ?_
 refine RM rfl ?_
 refine RS (ok_extractV rfl rfl) ?_
 refine RS (ok_extractV rfl rfl) ?_
 refine RN ?_
 refine ⟨_, _, eff_alloc (n := 116) (d := 8) (k := 1000008) zero33 (by decide), fun b8 hb8 => ?_⟩
 have hBb8 := hb8.1
 have hlt_b3_b8 : b3 < b8 := hb8.2 1000003 _ _ _ rfl
 have hlt_b5_b8 : b5 < b8 := hb8.2 1000005 _ _ _ rfl
 refine TF 13 ?_
 refine RN ?_
 refine ⟨_, eff_storeA (n := 116) (s := 1000008) (size33.of (rfl)) rfl rfl (rfl) hBb8 rfl (rfl) (LV 5 rfl (LV 6 rfl (LV 7 rfl (LV 8 rfl (LV 40 rfl (LT 1000002 rfl (LB 1000003 rfl (LB 1000005 rfl (LT 1000006 rfl (LeftS.cons (t := 1900000) rfl (Surv.tab (by omega)) (LeftS.cons (t := 1900001) rfl (Surv.tab (by omega)) LN))))))))))), ?_⟩
 refine TL ?_
 refine RA rfl ?_
 refine RN ?_
 refine A.sub (KC 5 rfl (KC 6 rfl (KC 7 rfl (KC 8 rfl (KC 9 rfl (KC 1000002 rfl (KC 1000003 rfl (KC 1000005 rfl (KC 1000006 rfl (KC 1000008 rfl (KC 1900000 rfl (KC 1900001 rfl KN)))))))))))) ?_
 refine GS ?_
 refine TL ?_
 refine RM rfl ?_
 refine RBS rfl rfl rfl (.bool true) (by rfl) ?_
 refine RM rfl ?_
 refine RQ (ok_loadA (s := 1000005) (by decide) Tryz.underlying33 rfl (size33.of (rfl)) rfl rfl) ?_
 refine RQ (ok_litP [] Tryz.underlying33 info5 zero33 (by decide) trivial rfl) ?_; refine RZ (aggV (List.replicate 32 (.int .u8 0))) (by rfl) ?_
 refine RQ (ok_eqlT (n := 3) true flat33 (by decide) (by kernel_rfl) (by kernel_rfl) rfl rfl (kinZ 32) (kinZ 32) ⟨fun _ => rfl, fun _ => rfl⟩) ?_; refine RZ (.bool true) (by rfl) ?_
 refine RP rfl rfl ?_
 refine RM rfl ?_
 refine RQ (ok_loadA (s := 1000006) (by decide) Tryz.underlying34 rfl (size34.of (rfl)) rfl rfl) ?_
 refine RQ (ok_litP [] Tryz.underlying34 info5 zero34 (by decide) trivial rfl) ?_; refine RZ (aggV (List.replicate 32 (.int .u8 0))) (by rfl) ?_
 refine RQ (ok_eqlT (n := 3) true flat34 (by decide) (by kernel_rfl) (by kernel_rfl) rfl rfl (kinZ 32) (kinZ 32) ⟨fun _ => rfl, fun _ => rfl⟩) ?_; refine RZ (.bool true) (by rfl) ?_
 refine RP rfl rfl ?_
 refine RM rfl ?_
 refine RQ (ok_move rfl) ?_
 refine RQ (ok_bin rfl rfl rfl) ?_; refine RZ (.bool true) (by rfl) ?_
 refine RP rfl rfl ?_
 refine RM rfl ?_
 refine RQ (ok_loadA (s := 1000008) (by decide) Tryz.underlying33 rfl (size33.of (rfl)) rfl rfl) ?_
 refine RQ (ok_litP [] Tryz.underlying33 info5 zero33 (by decide) trivial rfl) ?_; refine RZ (aggV (List.replicate 32 (.int .u8 0))) (by rfl) ?_
 refine RQ (ok_eqlT (n := 3) true flat33 (by decide) (by kernel_rfl) (by kernel_rfl) rfl rfl (kinZ 32) (kinZ 32) ⟨fun _ => rfl, fun _ => rfl⟩) ?_; refine RZ (.bool true) (by rfl) ?_
 refine RP rfl rfl ?_
 refine RM rfl ?_
 refine RQ (ok_callM lives9_fn (Sub.cons rfl (Sub.cons rfl KN)) tabs_v Args.nil) ?_
 refine RP rfl rfl ?_
 refine RA rfl ?_
 refine RN ?_
 refine A.sub (KC 4 rfl (KC 1000002 rfl (KC 1000003 rfl (KC 1000005 rfl (KC 1000006 rfl (KC 1000008 rfl (KC 1900000 rfl (KC 1900001 rfl KN)))))))) ?_
 refine A.ret ?_
 refine End.ret_then ?_
 exact End.ret1 rfl rfl (by first | exact Le.refl _ | exact Le.old _ _)
set_option maxHeartbeats 4000000 in
theorem SealsBack_good (f : Nat → Nat) (mk : List UInt8) (hf : By f) (hmk : mk.length = 32) (i : Nat) (hi : i < 4096) (s c : Nat) (hs : s < 4294967296) (hc : c < 18446744073709551616) (d : List UInt8) (hd : d.length = 32)  : FnM Tryz.prog 3 tabs [.v (aggV (rowV 16 f ++ mk.map byteV ++ [nI i, nW s, nQ c])), .v (aggV (d.map byteV))] (.v (.bool true)) := by
 refine FnM.of Tryz.func3 rfl (by kernel_rfl) Tryz.ntmps3 (by simp) (by decide) (fun w => [(0, .v (aggV (rowV 16 f ++ mk.map byteV ++ [nI i, nW s, nQ c]))), (1, .v (aggV (d.map byteV))), (1900000, tab 0 (H8.list.map u32V)), (1900001, tab 1 (K64.map u32V))]) (fun w => (StartM.v rfl (StartM.v rfl (StartM.m (by simp [tabs]) (by decide) (StartM.m (by simp [tabs]) (by decide) StartM.nil))))) fun w₀ hM => ?_
 have htab := tabs_hi hM
 refine GS ?_
 refine TN 0 ?_
 refine RN ?_
 refine ⟨_, _, eff_box (n := 116) (d := 2) (k := 1000002) rfl (by decide), fun b2 hb2 => ?_⟩
 have hBb2 := hb2.1
 refine TN 1 ?_
 refine RN ?_
 refine ⟨_, _, eff_box (n := 116) (d := 3) (k := 1000003) rfl (by decide), fun b3 hb3 => ?_⟩
 have hBb3 := hb3.1
 refine TL ?_
 refine RA rfl ?_
 refine RN ?_
 refine GS ?_
 refine TN 12 ?_
 refine RS (ok_field field32_0 (by decide) rfl) ?_
 refine RS (ok_loadP (s := 1000002) (by decide) Tryz.underlying26 rfl size26 rfl rfl (by simp [rowV_length, hmk]) (SC_keys f hmk _)) ?_
 refine RS (ok_field field32_1 (by decide) rfl) ?_
 refine RS (ok_loadV (s := 1000002) (by decide) Tryz.underlying3 rfl rfl rfl (SC_ix f hmk _ _ _)) ?_
 refine RS (ok_field field32_2 (by decide) rfl) ?_
 refine RS (ok_loadP (s := 1000002) (by decide) Tryz.underlying30 rfl size30 rfl rfl (by simp [rowV_length, hmk]) (SC_non f hmk _ _ _)) ?_
 refine RS (ok_loadA (s := 1000003) (by decide) Tryz.underlying33 rfl (size33.of (by rw [List.length_map, hd])) rfl rfl) ?_
 refine RS (ok_callM (Seal_ok f mk hf hmk i s c hs hc d hd hi) (Sub.cons rfl (Sub.cons rfl KN)) tabs_v (Args.cons rfl (Le.refl _) (A3 rfl rfl rfl))) ?_
 refine RM rfl ?_
 refine RS (ok_extractV rfl rfl) ?_
 refine RS (ok_extractV rfl rfl) ?_
 refine RS (ok_extractV rfl rfl) ?_
 refine RN ?_
 refine ⟨_, _, eff_alloc (n := 116) (d := 5) (k := 1000005) zero33 (by decide), fun b5 hb5 => ?_⟩
 have hBb5 := hb5.1
 have hlt_b3_b5 : b3 < b5 := hb5.2 1000003 _ _ _ rfl
 refine TN 13 ?_
 refine RN ?_
 refine ⟨_, _, eff_alloc (n := 116) (d := 6) (k := 1000006) zero34 (by decide), fun b6 hb6 => ?_⟩
 have hBb6 := hb6.1
 refine TF 14 ?_
 refine RN ?_
 refine ⟨_, eff_storeA (n := 116) (s := 1000005) (size33.of (by rw [List.length_map, xorK_length, hd])) rfl rfl (all_bytes _) hBb5 rfl (by simp [xorK_length, hd]) (LV 2 rfl (LV 3 rfl (LV 5 rfl (LV 6 rfl (LV 24 rfl (LV 25 rfl (LT 1000002 rfl (LB 1000003 rfl (LT 1000006 rfl (LeftS.cons (t := 1900000) rfl (Surv.tab (by omega)) (LeftS.cons (t := 1900001) rfl (Surv.tab (by omega)) LN))))))))))), ?_⟩
 refine TF 15 ?_
 refine RN ?_
 refine ⟨_, eff_storeA (n := 116) (s := 1000006) (size34.of (by rw [List.length_map, hmac_length])) rfl rfl (all_bytes _) hBb6 rfl (by simp [hmac_length]) (LV 2 rfl (LV 3 rfl (LV 5 rfl (LV 6 rfl (LV 25 rfl (LT 1000002 rfl (LT 1000003 rfl (LT 1000005 rfl (LeftS.cons (t := 1900000) rfl (Surv.tab (by omega)) (LeftS.cons (t := 1900001) rfl (Surv.tab (by omega)) LN)))))))))), ?_⟩
 refine TL ?_
 refine RA rfl ?_
 refine RN ?_
 refine A.seq ?_
 refine GS ?_
 refine TL ?_
 refine RS (ok_field field32_1 (by decide) rfl) ?_
 refine RS (ok_loadV (s := 1000002) (by decide) Tryz.underlying3 rfl rfl rfl (SC_ix f hmk _ _ _)) ?_
 refine RS (ok_call (bad9_no (i : Int) (by omega) (by omega)) (A1 rfl)) ?_
 refine RN ?_
 refine A.no rfl ?_
 refine A.skip ?_
 refine EN ?_
 refine GS ?_
 refine TN 15 ?_
 refine RS (ok_field field32_0 (by decide) rfl) ?_
 refine RS (ok_field field26_0 (by decide) rfl) ?_
 refine RS (ok_loadP (s := 1000002) (by decide) Tryz.underlying22 rfl size22 rfl rfl (by simp [rowV_length, hmk]) (SC_enc f mk _)) ?_
 refine RS (ok_field field32_0 (by decide) rfl) ?_
 refine RS (ok_field field26_1 (by decide) rfl) ?_
 refine RS (ok_loadP (s := 1000002) (by decide) Tryz.underlying24 rfl size24 rfl rfl (by simp [rowV_length, hmk]) (SC_mac f hmk _)) ?_
 refine RS (ok_field field32_1 (by decide) rfl) ?_
 refine RS (ok_loadV (s := 1000002) (by decide) Tryz.underlying3 rfl rfl rfl (SC_ix f hmk _ _ _)) ?_
 refine RS (ok_field field32_2 (by decide) rfl) ?_
 refine RS (ok_loadP (s := 1000002) (by decide) Tryz.underlying30 rfl size30 rfl rfl (by simp [rowV_length, hmk]) (SC_non f hmk _ _ _)) ?_
 refine RS (ok_loadA (s := 1000003) (by decide) Tryz.underlying33 rfl (size33.of (by rw [List.length_map, hd])) rfl rfl) ?_
 refine RS (ok_call (ref9Seal_fn f mk hf hmk i s c hs hc d hd hi) (Args.cons rfl (Le.refl _) (Args.cons rfl (Le.refl _) (A3 rfl rfl rfl)))) ?_
 refine RM rfl ?_
 refine RS (ok_extract rfl rfl) ?_
 refine RS (ok_extract rfl rfl) ?_
 refine RN ?_
 refine ⟨_, _, eff_alloc (n := 116) (d := 10) (k := 1000010) zero33 (by decide), fun b10 hb10 => ?_⟩
 have hBb10 := hb10.1
 have hlt_b3_b10 : b3 < b10 := hb10.2 1000003 _ _ _ rfl
 have hlt_b5_b10 : b5 < b10 := hb10.2 1000005 _ _ _ rfl
 refine TN 16 ?_
 refine RN ?_
 refine ⟨_, _, eff_alloc (n := 116) (d := 11) (k := 1000011) zero34 (by decide), fun b11 hb11 => ?_⟩
 have hBb11 := hb11.1
 have hlt_b6_b11 : b6 < b11 := hb11.2 1000006 _ _ _ rfl
 refine TF 17 ?_
 refine RN ?_
 refine ⟨_, eff_storeA (n := 116) (s := 1000010) (size33.of (by rw [List.length_map, xorK_length, hd])) rfl rfl (all_bytes _) hBb10 rfl (by simp [xorK_length, hd]) (LV 2 rfl (LV 3 rfl (LV 5 rfl (LV 6 rfl (LV 7 rfl (LV 10 rfl (LV 11 rfl (LV 79 rfl (LT 1000002 rfl (LB 1000003 rfl (LB 1000005 rfl (LT 1000006 rfl (LT 1000011 rfl (LeftS.cons (t := 1900000) rfl (Surv.tab (by omega)) (LeftS.cons (t := 1900001) rfl (Surv.tab (by omega)) LN))))))))))))))), ?_⟩
 refine TF 18 ?_
 refine RN ?_
 refine ⟨_, eff_storeA (n := 116) (s := 1000011) (size34.of (by rw [List.length_map, hmac_length])) rfl rfl (all_bytes _) hBb11 rfl (by simp [hmac_length]) (LV 2 rfl (LV 3 rfl (LV 5 rfl (LV 6 rfl (LV 7 rfl (LV 10 rfl (LV 11 rfl (LT 1000002 rfl (LT 1000003 rfl (LT 1000005 rfl (LB 1000006 rfl (LT 1000010 rfl (LeftS.cons (t := 1900000) rfl (Surv.tab (by omega)) (LeftS.cons (t := 1900001) rfl (Surv.tab (by omega)) LN)))))))))))))), ?_⟩
 refine TL ?_
 refine RN ?_
 refine A.sub (KC 2 rfl (KC 3 rfl (KC 5 rfl (KC 6 rfl (KC 7 rfl (KC 10 rfl (KC 11 rfl (KC 1000002 rfl (KC 1000003 rfl (KC 1000005 rfl (KC 1000006 rfl (KC 1000010 rfl (KC 1000011 rfl (KC 1900000 rfl (KC 1900001 rfl KN))))))))))))))) ?_
 refine GS ?_
 refine TN 12 ?_
 refine RS (ok_field field32_0 (by decide) rfl) ?_
 refine RS (ok_loadP (s := 1000002) (by decide) Tryz.underlying26 rfl size26 rfl rfl (by simp [rowV_length, hmk]) (SC_keys f hmk _)) ?_
 refine RS (ok_field field32_1 (by decide) rfl) ?_
 refine RS (ok_loadV (s := 1000002) (by decide) Tryz.underlying3 rfl rfl rfl (SC_ix f hmk _ _ _)) ?_
 refine RS (ok_field field32_2 (by decide) rfl) ?_
 refine RS (ok_loadP (s := 1000002) (by decide) Tryz.underlying30 rfl size30 rfl rfl (by simp [rowV_length, hmk]) (SC_non f hmk _ _ _)) ?_
 refine RS (ok_loadA (s := 1000005) (by decide) Tryz.underlying33 rfl (size33.of (by rw [List.length_map, xorK_length, hd])) rfl rfl) ?_
 refine RS (ok_loadA (s := 1000006) (by decide) Tryz.underlying34 rfl (size34.of (by rw [List.length_map, hmac_length])) rfl rfl) ?_
 refine RS (ok_callM (Open_ok f mk hf hmk i s c hs hc (xorK f s c 0 d) (by rw [xorK_length, hd]) hi (hmac mk (msgL i s c (xorK f s c 0 d))) (hmac_length _ _) rfl) (Sub.cons rfl (Sub.cons rfl KN)) tabs_v (Args.cons rfl (Le.refl _) (Args.cons rfl (Le.refl _) (A3 rfl rfl rfl)))) ?_; refine RZ (.tuple #[aggV (d.map byteV), .int .i64 0]) (by rw [xorK_xorK hf]) ?_
 refine RM rfl ?_
 refine RS (ok_extractV rfl rfl) ?_
 refine RS (ok_extractV rfl rfl) ?_
 refine RN ?_
 refine ⟨_, _, eff_alloc (n := 116) (d := 12) (k := 1000012) zero33 (by decide), fun b12 hb12 => ?_⟩
 have hBb12 := hb12.1
 have hlt_b3_b12 : b3 < b12 := hb12.2 1000003 _ _ _ rfl
 have hlt_b5_b12 : b5 < b12 := hb12.2 1000005 _ _ _ rfl
 have hlt_b10_b12 : b10 < b12 := hb12.2 1000010 _ _ _ rfl
 refine TF 13 ?_
 refine RN ?_
 refine ⟨_, eff_storeA (n := 116) (s := 1000012) (size33.of (by rw [List.length_map, hd])) rfl rfl (all_bytes _) hBb12 rfl (by simp [hd]) (LV 3 rfl (LV 5 rfl (LV 6 rfl (LV 7 rfl (LV 10 rfl (LV 11 rfl (LV 12 rfl (LV 91 rfl (LT 1000002 rfl (LB 1000003 rfl (LB 1000005 rfl (LT 1000006 rfl (LB 1000010 rfl (LT 1000011 rfl (LeftS.cons (t := 1900000) rfl (Surv.tab (by omega)) (LeftS.cons (t := 1900001) rfl (Surv.tab (by omega)) LN)))))))))))))))), ?_⟩
 refine TL ?_
 refine RA rfl ?_
 refine RN ?_
 refine GS ?_
 refine TL ?_
 refine RM rfl ?_
 refine RBS rfl rfl rfl (.bool true) (by rfl) ?_
 refine RM rfl ?_
 refine RQ (ok_loadA (s := 1000005) (by decide) Tryz.underlying33 rfl (size33.of (by rw [List.length_map, xorK_length, hd])) rfl rfl) ?_
 refine RQ (ok_loadA (s := 1000010) (by decide) Tryz.underlying33 rfl (size33.of (by rw [List.length_map, xorK_length, hd])) rfl rfl) ?_
 refine RQ (ok_eqlT (n := 3) true flat33 (by decide) (by kernel_rfl) (by kernel_rfl) rfl rfl (kinB (by rw [xorK_length, hd])) (kinB (by rw [xorK_length, hd])) ⟨fun _ => rfl, fun _ => rfl⟩) ?_; refine RZ (.bool true) (by rfl) ?_
 refine RP rfl rfl ?_
 refine RM rfl ?_
 refine RQ (ok_loadA (s := 1000006) (by decide) Tryz.underlying34 rfl (size34.of (by rw [List.length_map, hmac_length])) rfl rfl) ?_
 refine RQ (ok_loadA (s := 1000011) (by decide) Tryz.underlying34 rfl (size34.of (by rw [List.length_map, hmac_length])) rfl rfl) ?_
 refine RQ (ok_eqlT (n := 3) true flat34 (by decide) (by kernel_rfl) (by kernel_rfl) rfl rfl (kinB (hmac_length _ _)) (kinB (hmac_length _ _)) ⟨fun _ => rfl, fun _ => rfl⟩) ?_; refine RZ (.bool true) (by rfl) ?_
 refine RP rfl rfl ?_
 refine RM rfl ?_
 refine RQ (ok_move rfl) ?_
 refine RQ (ok_bin rfl rfl rfl) ?_; refine RZ (.bool true) (by rfl) ?_
 refine RP rfl rfl ?_
 refine RM rfl ?_
 refine RQ (ok_loadA (s := 1000012) (by decide) Tryz.underlying33 rfl (size33.of (by rw [List.length_map, hd])) rfl rfl) ?_
 refine RQ (ok_loadA (s := 1000003) (by decide) Tryz.underlying33 rfl (size33.of (by rw [List.length_map, hd])) rfl rfl) ?_
 refine RQ (ok_eqlT (n := 3) true flat33 (by decide) (by kernel_rfl) (by kernel_rfl) rfl rfl (kinB hd) (kinB hd) ⟨fun _ => rfl, fun _ => rfl⟩) ?_; refine RZ (.bool true) (by rfl) ?_
 refine RP rfl rfl ?_
 refine RM rfl ?_
 refine RQ (ok_callM lives9_fn (Sub.cons rfl (Sub.cons rfl KN)) tabs_v Args.nil) ?_
 refine RP rfl rfl ?_
 refine RA rfl ?_
 refine RN ?_
 refine A.sub (KC 4 rfl (KC 1000002 rfl (KC 1000003 rfl (KC 1000005 rfl (KC 1000006 rfl (KC 1000010 rfl (KC 1000011 rfl (KC 1000012 rfl (KC 1900000 rfl (KC 1900001 rfl KN)))))))))) ?_
 refine A.ret ?_
 exact End.ret1 rfl rfl (by first | exact Le.refl _ | exact Le.old _ _)
theorem SealsBack_fn (f : Nat → Nat) (mk : List UInt8) (hf : By f) (hmk : mk.length = 32) (i : Int) (s c : Nat) (hs : s < 4294967296) (hc : c < 18446744073709551616) (d : List UInt8) (hd : d.length = 32)  : FnM Tryz.prog 3 tabs [.v (aggV (rowV 16 f ++ mk.map byteV ++ [.int .i64 i, nW s, nQ c])), .v (aggV (d.map byteV))] (.v (.bool true)) := by
 by_cases hi : i < 0 ∨ 4096 ≤ i
 ·exact SealsBack_bad f mk hf hmk i hi s c hs hc d hd
 ·obtain ⟨k, rfl⟩ := Int.eq_ofNat_of_zero_le (show 0 ≤ i by omega)
  exact SealsBack_good f mk hf hmk k (by omega) s c hs hc d hd
theorem SealsOpen_bad (f : Nat → Nat) (mk : List UInt8) (hf : By f) (hmk : mk.length = 32) (i : Int) (hi : i < 0 ∨ 4096 ≤ i) (s c : Nat) (hs : s < 4294967296) (hc : c < 18446744073709551616) (d : List UInt8) (hd : d.length = 32) (tg : List UInt8) (htg : tg.length = 32)  : FnM Tryz.prog 4 tabs [.v (aggV (rowV 16 f ++ mk.map byteV ++ [.int .i64 i, nW s, nQ c])), .v (aggV (d.map byteV)), .v (aggV (tg.map byteV))] (.v (.bool true)) := by
 refine FnM.of Tryz.func4 rfl (by kernel_rfl) Tryz.ntmps4 (by simp) (by decide) (fun w => [(0, .v (aggV (rowV 16 f ++ mk.map byteV ++ [.int .i64 i, nW s, nQ c]))), (1, .v (aggV (d.map byteV))), (2, .v (aggV (tg.map byteV))), (1900000, tab 0 (H8.list.map u32V)), (1900001, tab 1 (K64.map u32V))]) (fun w => (StartM.v rfl (StartM.v rfl (StartM.v rfl (StartM.m (by simp [tabs]) (by decide) (StartM.m (by simp [tabs]) (by decide) StartM.nil)))))) fun w₀ hM => ?_
 have htab := tabs_hi hM
 refine GS ?_
 refine TN 0 ?_
 refine RN ?_
 refine ⟨_, _, eff_box (n := 84) (d := 3) (k := 1000003) rfl (by decide), fun b3 hb3 => ?_⟩
 have hBb3 := hb3.1
 refine TN 1 ?_
 refine RN ?_
 refine ⟨_, _, eff_box (n := 84) (d := 4) (k := 1000004) rfl (by decide), fun b4 hb4 => ?_⟩
 have hBb4 := hb4.1
 refine TN 2 ?_
 refine RN ?_
 refine ⟨_, _, eff_box (n := 84) (d := 5) (k := 1000005) rfl (by decide), fun b5 hb5 => ?_⟩
 have hBb5 := hb5.1
 refine TL ?_
 refine RA rfl ?_
 refine RN ?_
 refine A.seq ?_
 refine GS ?_
 refine TL ?_
 refine RS (ok_field field32_1 (by decide) rfl) ?_
 refine RS (ok_loadV (s := 1000003) (by decide) Tryz.underlying3 rfl rfl rfl (SC_ix f hmk _ _ _)) ?_
 refine RS (ok_call (bad9_yes i hi) (A1 rfl)) ?_
 refine RN ?_
 refine A.yes rfl ?_
 refine GS ?_
 refine TL ?_
 refine RS (ok_callM lives9_fn (Sub.cons rfl (Sub.cons rfl KN)) tabs_v Args.nil) ?_
 refine RA rfl ?_
 refine RN ?_
 refine A.ret ?_
 refine End.ret_then ?_
 exact End.ret1 rfl rfl (by first | exact Le.refl _ | exact Le.old _ _)
set_option maxHeartbeats 4000000 in
theorem SealsOpen_int (f : Nat → Nat) (mk : List UInt8) (hf : By f) (hmk : mk.length = 32) (i : Nat) (hi : i < 4096) (s c : Nat) (hs : s < 4294967296) (hc : c < 18446744073709551616) (d : List UInt8) (hd : d.length = 32) (tg : List UInt8) (htg : tg.length = 32) (h : tg ≠ (hmac mk (msgL i s c d))) : FnM Tryz.prog 4 tabs [.v (aggV (rowV 16 f ++ mk.map byteV ++ [nI i, nW s, nQ c])), .v (aggV (d.map byteV)), .v (aggV (tg.map byteV))] (.v (.bool true)) := by
 refine FnM.of Tryz.func4 rfl (by kernel_rfl) Tryz.ntmps4 (by simp) (by decide) (fun w => [(0, .v (aggV (rowV 16 f ++ mk.map byteV ++ [nI i, nW s, nQ c]))), (1, .v (aggV (d.map byteV))), (2, .v (aggV (tg.map byteV))), (1900000, tab 0 (H8.list.map u32V)), (1900001, tab 1 (K64.map u32V))]) (fun w => (StartM.v rfl (StartM.v rfl (StartM.v rfl (StartM.m (by simp [tabs]) (by decide) (StartM.m (by simp [tabs]) (by decide) StartM.nil)))))) fun w₀ hM => ?_
 have htab := tabs_hi hM
 refine GS ?_
 refine TN 0 ?_
 refine RN ?_
 refine ⟨_, _, eff_box (n := 84) (d := 3) (k := 1000003) rfl (by decide), fun b3 hb3 => ?_⟩
 have hBb3 := hb3.1
 refine TN 1 ?_
 refine RN ?_
 refine ⟨_, _, eff_box (n := 84) (d := 4) (k := 1000004) rfl (by decide), fun b4 hb4 => ?_⟩
 have hBb4 := hb4.1
 refine TN 2 ?_
 refine RN ?_
 refine ⟨_, _, eff_box (n := 84) (d := 5) (k := 1000005) rfl (by decide), fun b5 hb5 => ?_⟩
 have hBb5 := hb5.1
 refine TL ?_
 refine RA rfl ?_
 refine RN ?_
 refine A.seq ?_
 refine GS ?_
 refine TL ?_
 refine RS (ok_field field32_1 (by decide) rfl) ?_
 refine RS (ok_loadV (s := 1000003) (by decide) Tryz.underlying3 rfl rfl rfl (SC_ix f hmk _ _ _)) ?_
 refine RS (ok_call (bad9_no (i : Int) (by omega) (by omega)) (A1 rfl)) ?_
 refine RN ?_
 refine A.no rfl ?_
 refine A.skip ?_
 refine EN ?_
 refine GS ?_
 refine TN 16 ?_
 refine RS (ok_field field32_0 (by decide) rfl) ?_
 refine RS (ok_field field26_0 (by decide) rfl) ?_
 refine RS (ok_loadP (s := 1000003) (by decide) Tryz.underlying22 rfl size22 rfl rfl (by simp [rowV_length, hmk]) (SC_enc f mk _)) ?_
 refine RS (ok_field field32_0 (by decide) rfl) ?_
 refine RS (ok_field field26_1 (by decide) rfl) ?_
 refine RS (ok_loadP (s := 1000003) (by decide) Tryz.underlying24 rfl size24 rfl rfl (by simp [rowV_length, hmk]) (SC_mac f hmk _)) ?_
 refine RS (ok_field field32_1 (by decide) rfl) ?_
 refine RS (ok_loadV (s := 1000003) (by decide) Tryz.underlying3 rfl rfl rfl (SC_ix f hmk _ _ _)) ?_
 refine RS (ok_field field32_2 (by decide) rfl) ?_
 refine RS (ok_loadP (s := 1000003) (by decide) Tryz.underlying30 rfl size30 rfl rfl (by simp [rowV_length, hmk]) (SC_non f hmk _ _ _)) ?_
 refine RS (ok_loadA (s := 1000004) (by decide) Tryz.underlying33 rfl (size33.of (by rw [List.length_map, hd])) rfl rfl) ?_
 refine RS (ok_loadA (s := 1000005) (by decide) Tryz.underlying34 rfl (size34.of (by rw [List.length_map, htg])) rfl rfl) ?_
 refine RS (ok_call (ref9Open_int f mk hf hmk i s c hs hc d hd hi tg htg h) (Args.cons rfl (Le.refl _) (Args.cons rfl (Le.refl _) (Args.cons rfl (Le.refl _) (A3 rfl rfl rfl))))) ?_
 refine RM rfl ?_
 refine RS (ok_extract rfl rfl) ?_
 refine RS (ok_extract rfl rfl) ?_
 refine RN ?_
 refine ⟨_, _, eff_alloc (n := 84) (d := 7) (k := 1000007) zero33 (by decide), fun b7 hb7 => ?_⟩
 have hBb7 := hb7.1
 have hlt_b4_b7 : b4 < b7 := hb7.2 1000004 _ _ _ rfl
 refine TF 17 ?_
 refine RN ?_
 refine ⟨_, eff_storeA (n := 84) (s := 1000007) (size33.of (rfl)) rfl rfl (rfl) hBb7 rfl (rfl) (LV 3 rfl (LV 4 rfl (LV 5 rfl (LV 7 rfl (LV 33 rfl (LT 1000003 rfl (LB 1000004 rfl (LT 1000005 rfl (LeftS.cons (t := 1900000) rfl (Surv.tab (by omega)) (LeftS.cons (t := 1900001) rfl (Surv.tab (by omega)) LN)))))))))), ?_⟩
 refine TL ?_
 refine RA rfl ?_
 refine RN ?_
 refine A.sub (KC 3 rfl (KC 4 rfl (KC 5 rfl (KC 7 rfl (KC 8 rfl (KC 1000003 rfl (KC 1000004 rfl (KC 1000005 rfl (KC 1000007 rfl (KC 1900000 rfl (KC 1900001 rfl KN))))))))))) ?_
 refine GS ?_
 refine TN 12 ?_
 refine RS (ok_field field32_0 (by decide) rfl) ?_
 refine RS (ok_loadP (s := 1000003) (by decide) Tryz.underlying26 rfl size26 rfl rfl (by simp [rowV_length, hmk]) (SC_keys f hmk _)) ?_
 refine RS (ok_field field32_1 (by decide) rfl) ?_
 refine RS (ok_loadV (s := 1000003) (by decide) Tryz.underlying3 rfl rfl rfl (SC_ix f hmk _ _ _)) ?_
 refine RS (ok_field field32_2 (by decide) rfl) ?_
 refine RS (ok_loadP (s := 1000003) (by decide) Tryz.underlying30 rfl size30 rfl rfl (by simp [rowV_length, hmk]) (SC_non f hmk _ _ _)) ?_
 refine RS (ok_loadA (s := 1000004) (by decide) Tryz.underlying33 rfl (size33.of (by rw [List.length_map, hd])) rfl rfl) ?_
 refine RS (ok_loadA (s := 1000005) (by decide) Tryz.underlying34 rfl (size34.of (by rw [List.length_map, htg])) rfl rfl) ?_
 refine RS (ok_callM (Open_int f mk hf hmk i s c hs hc d hd hi tg htg h) (Sub.cons rfl (Sub.cons rfl KN)) tabs_v (Args.cons rfl (Le.refl _) (Args.cons rfl (Le.refl _) (A3 rfl rfl rfl)))) ?_
 refine RM rfl ?_
 refine RS (ok_extractV rfl rfl) ?_
 refine RS (ok_extractV rfl rfl) ?_
 refine RN ?_
 refine ⟨_, _, eff_alloc (n := 84) (d := 9) (k := 1000009) zero33 (by decide), fun b9 hb9 => ?_⟩
 have hBb9 := hb9.1
 have hlt_b4_b9 : b4 < b9 := hb9.2 1000004 _ _ _ rfl
 have hlt_b7_b9 : b7 < b9 := hb9.2 1000007 _ _ _ rfl
 refine TF 13 ?_
 refine RN ?_
 refine ⟨_, eff_storeA (n := 84) (s := 1000009) (size33.of (rfl)) rfl rfl (rfl) hBb9 rfl (rfl) (LV 3 rfl (LV 4 rfl (LV 5 rfl (LV 7 rfl (LV 8 rfl (LV 9 rfl (LV 45 rfl (LT 1000003 rfl (LB 1000004 rfl (LT 1000005 rfl (LB 1000007 rfl (LeftS.cons (t := 1900000) rfl (Surv.tab (by omega)) (LeftS.cons (t := 1900001) rfl (Surv.tab (by omega)) LN))))))))))))), ?_⟩
 refine TL ?_
 refine RA rfl ?_
 refine RN ?_
 refine A.seq ?_
 refine GS ?_
 refine TL ?_
 refine RS (ok_loadA (s := 1000009) (by decide) Tryz.underlying33 rfl (size33.of (rfl)) rfl rfl) ?_
 refine RS (ok_loadA (s := 1000007) (by decide) Tryz.underlying33 rfl (size33.of (rfl)) rfl rfl) ?_
 refine RS (ok_neqT (n := 3) true flat33 (by decide) (by kernel_rfl) (by kernel_rfl) rfl rfl (kinZ 32) (kinZ 32) ⟨fun _ => rfl, fun _ => rfl⟩) ?_; refine RZ (.bool false) (by rfl) ?_
 refine RM rfl ?_
 refine RQ (ok_move rfl) ?_
 refine RQ (ok_move rfl) ?_
 refine RQ (ok_bin rfl rfl rfl) ?_; refine RZ (.bool false) (by rfl) ?_
 refine RP rfl rfl ?_
 refine RN ?_
 refine A.no rfl ?_
 refine A.skip ?_
 refine EN ?_
 refine A.seq ?_
 refine GS ?_
 refine TL ?_
 refine RM rfl ?_
 refine RBS rfl rfl rfl (.bool true) (by rfl) ?_
 refine RN ?_
 refine A.sub (KC 3 rfl (KC 4 rfl (KC 5 rfl (KC 9 rfl (KC 55 rfl (KC 1000003 rfl (KC 1000004 rfl (KC 1000005 rfl (KC 1000007 rfl (KC 1000009 rfl (KC 1900000 rfl (KC 1900001 rfl KN)))))))))))) ?_
 refine A.yes rfl ?_
 refine GS ?_
 refine TL ?_
 refine RS (ok_callM lives9_fn (Sub.cons rfl (Sub.cons rfl KN)) tabs_v Args.nil) ?_
 refine RA rfl ?_
 refine RN ?_
 refine A.ret ?_
 refine End.ret_then ?_
 exact End.ret1 rfl rfl (by first | exact Le.refl _ | exact Le.old _ _)
set_option maxHeartbeats 4000000 in
theorem SealsOpen_ok (f : Nat → Nat) (mk : List UInt8) (hf : By f) (hmk : mk.length = 32) (i : Nat) (hi : i < 4096) (s c : Nat) (hs : s < 4294967296) (hc : c < 18446744073709551616) (d : List UInt8) (hd : d.length = 32) (tg : List UInt8) (htg : tg.length = 32) (h : tg = (hmac mk (msgL i s c d))) : FnM Tryz.prog 4 tabs [.v (aggV (rowV 16 f ++ mk.map byteV ++ [nI i, nW s, nQ c])), .v (aggV (d.map byteV)), .v (aggV (tg.map byteV))] (.v (.bool true)) := by
 refine FnM.of Tryz.func4 rfl (by kernel_rfl) Tryz.ntmps4 (by simp) (by decide) (fun w => [(0, .v (aggV (rowV 16 f ++ mk.map byteV ++ [nI i, nW s, nQ c]))), (1, .v (aggV (d.map byteV))), (2, .v (aggV (tg.map byteV))), (1900000, tab 0 (H8.list.map u32V)), (1900001, tab 1 (K64.map u32V))]) (fun w => (StartM.v rfl (StartM.v rfl (StartM.v rfl (StartM.m (by simp [tabs]) (by decide) (StartM.m (by simp [tabs]) (by decide) StartM.nil)))))) fun w₀ hM => ?_
 have htab := tabs_hi hM
 refine GS ?_
 refine TN 0 ?_
 refine RN ?_
 refine ⟨_, _, eff_box (n := 84) (d := 3) (k := 1000003) rfl (by decide), fun b3 hb3 => ?_⟩
 have hBb3 := hb3.1
 refine TN 1 ?_
 refine RN ?_
 refine ⟨_, _, eff_box (n := 84) (d := 4) (k := 1000004) rfl (by decide), fun b4 hb4 => ?_⟩
 have hBb4 := hb4.1
 refine TN 2 ?_
 refine RN ?_
 refine ⟨_, _, eff_box (n := 84) (d := 5) (k := 1000005) rfl (by decide), fun b5 hb5 => ?_⟩
 have hBb5 := hb5.1
 refine TL ?_
 refine RA rfl ?_
 refine RN ?_
 refine A.seq ?_
 refine GS ?_
 refine TL ?_
 refine RS (ok_field field32_1 (by decide) rfl) ?_
 refine RS (ok_loadV (s := 1000003) (by decide) Tryz.underlying3 rfl rfl rfl (SC_ix f hmk _ _ _)) ?_
 refine RS (ok_call (bad9_no (i : Int) (by omega) (by omega)) (A1 rfl)) ?_
 refine RN ?_
 refine A.no rfl ?_
 refine A.skip ?_
 refine EN ?_
 refine GS ?_
 refine TN 16 ?_
 refine RS (ok_field field32_0 (by decide) rfl) ?_
 refine RS (ok_field field26_0 (by decide) rfl) ?_
 refine RS (ok_loadP (s := 1000003) (by decide) Tryz.underlying22 rfl size22 rfl rfl (by simp [rowV_length, hmk]) (SC_enc f mk _)) ?_
 refine RS (ok_field field32_0 (by decide) rfl) ?_
 refine RS (ok_field field26_1 (by decide) rfl) ?_
 refine RS (ok_loadP (s := 1000003) (by decide) Tryz.underlying24 rfl size24 rfl rfl (by simp [rowV_length, hmk]) (SC_mac f hmk _)) ?_
 refine RS (ok_field field32_1 (by decide) rfl) ?_
 refine RS (ok_loadV (s := 1000003) (by decide) Tryz.underlying3 rfl rfl rfl (SC_ix f hmk _ _ _)) ?_
 refine RS (ok_field field32_2 (by decide) rfl) ?_
 refine RS (ok_loadP (s := 1000003) (by decide) Tryz.underlying30 rfl size30 rfl rfl (by simp [rowV_length, hmk]) (SC_non f hmk _ _ _)) ?_
 refine RS (ok_loadA (s := 1000004) (by decide) Tryz.underlying33 rfl (size33.of (by rw [List.length_map, hd])) rfl rfl) ?_
 refine RS (ok_loadA (s := 1000005) (by decide) Tryz.underlying34 rfl (size34.of (by rw [List.length_map, htg])) rfl rfl) ?_
 refine RS (ok_call (ref9Open_ok f mk hf hmk i s c hs hc d hd hi tg htg h) (Args.cons rfl (Le.refl _) (Args.cons rfl (Le.refl _) (Args.cons rfl (Le.refl _) (A3 rfl rfl rfl))))) ?_
 refine RM rfl ?_
 refine RS (ok_extract rfl rfl) ?_
 refine RS (ok_extract rfl rfl) ?_
 refine RN ?_
 refine ⟨_, _, eff_alloc (n := 84) (d := 7) (k := 1000007) zero33 (by decide), fun b7 hb7 => ?_⟩
 have hBb7 := hb7.1
 have hlt_b4_b7 : b4 < b7 := hb7.2 1000004 _ _ _ rfl
 refine TF 17 ?_
 refine RN ?_
 refine ⟨_, eff_storeA (n := 84) (s := 1000007) (size33.of (by rw [List.length_map, xorK_length, hd])) rfl rfl (all_bytes _) hBb7 rfl (by simp [xorK_length, hd]) (LV 3 rfl (LV 4 rfl (LV 5 rfl (LV 7 rfl (LV 33 rfl (LT 1000003 rfl (LB 1000004 rfl (LT 1000005 rfl (LeftS.cons (t := 1900000) rfl (Surv.tab (by omega)) (LeftS.cons (t := 1900001) rfl (Surv.tab (by omega)) LN)))))))))), ?_⟩
 refine TL ?_
 refine RA rfl ?_
 refine RN ?_
 refine A.sub (KC 3 rfl (KC 4 rfl (KC 5 rfl (KC 7 rfl (KC 8 rfl (KC 1000003 rfl (KC 1000004 rfl (KC 1000005 rfl (KC 1000007 rfl (KC 1900000 rfl (KC 1900001 rfl KN))))))))))) ?_
 refine GS ?_
 refine TN 12 ?_
 refine RS (ok_field field32_0 (by decide) rfl) ?_
 refine RS (ok_loadP (s := 1000003) (by decide) Tryz.underlying26 rfl size26 rfl rfl (by simp [rowV_length, hmk]) (SC_keys f hmk _)) ?_
 refine RS (ok_field field32_1 (by decide) rfl) ?_
 refine RS (ok_loadV (s := 1000003) (by decide) Tryz.underlying3 rfl rfl rfl (SC_ix f hmk _ _ _)) ?_
 refine RS (ok_field field32_2 (by decide) rfl) ?_
 refine RS (ok_loadP (s := 1000003) (by decide) Tryz.underlying30 rfl size30 rfl rfl (by simp [rowV_length, hmk]) (SC_non f hmk _ _ _)) ?_
 refine RS (ok_loadA (s := 1000004) (by decide) Tryz.underlying33 rfl (size33.of (by rw [List.length_map, hd])) rfl rfl) ?_
 refine RS (ok_loadA (s := 1000005) (by decide) Tryz.underlying34 rfl (size34.of (by rw [List.length_map, htg])) rfl rfl) ?_
 refine RS (ok_callM (Open_ok f mk hf hmk i s c hs hc d hd hi tg htg h) (Sub.cons rfl (Sub.cons rfl KN)) tabs_v (Args.cons rfl (Le.refl _) (Args.cons rfl (Le.refl _) (A3 rfl rfl rfl)))) ?_
 refine RM rfl ?_
 refine RS (ok_extractV rfl rfl) ?_
 refine RS (ok_extractV rfl rfl) ?_
 refine RN ?_
 refine ⟨_, _, eff_alloc (n := 84) (d := 9) (k := 1000009) zero33 (by decide), fun b9 hb9 => ?_⟩
 have hBb9 := hb9.1
 have hlt_b4_b9 : b4 < b9 := hb9.2 1000004 _ _ _ rfl
 have hlt_b7_b9 : b7 < b9 := hb9.2 1000007 _ _ _ rfl
 refine TF 13 ?_
 refine RN ?_
 refine ⟨_, eff_storeA (n := 84) (s := 1000009) (size33.of (by rw [List.length_map, xorK_length, hd])) rfl rfl (all_bytes _) hBb9 rfl (by simp [xorK_length, hd]) (LV 3 rfl (LV 4 rfl (LV 5 rfl (LV 7 rfl (LV 8 rfl (LV 9 rfl (LV 45 rfl (LT 1000003 rfl (LB 1000004 rfl (LT 1000005 rfl (LB 1000007 rfl (LeftS.cons (t := 1900000) rfl (Surv.tab (by omega)) (LeftS.cons (t := 1900001) rfl (Surv.tab (by omega)) LN))))))))))))), ?_⟩
 refine TL ?_
 refine RA rfl ?_
 refine RN ?_
 refine A.seq ?_
 refine GS ?_
 refine TL ?_
 refine RS (ok_loadA (s := 1000009) (by decide) Tryz.underlying33 rfl (size33.of (by rw [List.length_map, xorK_length, hd])) rfl rfl) ?_
 refine RS (ok_loadA (s := 1000007) (by decide) Tryz.underlying33 rfl (size33.of (by rw [List.length_map, xorK_length, hd])) rfl rfl) ?_
 refine RS (ok_neqT (n := 3) true flat33 (by decide) (by kernel_rfl) (by kernel_rfl) rfl rfl (kinB (by rw [xorK_length, hd])) (kinB (by rw [xorK_length, hd])) ⟨fun _ => rfl, fun _ => rfl⟩) ?_; refine RZ (.bool false) (by rfl) ?_
 refine RM rfl ?_
 refine RQ (ok_move rfl) ?_
 refine RQ (ok_move rfl) ?_
 refine RQ (ok_bin rfl rfl rfl) ?_; refine RZ (.bool false) (by rfl) ?_
 refine RP rfl rfl ?_
 refine RN ?_
 refine A.no rfl ?_
 refine A.skip ?_
 refine EN ?_
 refine A.seq ?_
 refine GS ?_
 refine TL ?_
 refine RM rfl ?_
 refine RBS rfl rfl rfl (.bool false) (by rfl) ?_
 refine RN ?_
 refine A.sub (KC 3 rfl (KC 4 rfl (KC 5 rfl (KC 9 rfl (KC 55 rfl (KC 1000003 rfl (KC 1000004 rfl (KC 1000005 rfl (KC 1000007 rfl (KC 1000009 rfl (KC 1900000 rfl (KC 1900001 rfl KN)))))))))))) ?_
 refine A.no rfl ?_
 refine A.skip ?_
 refine EN ?_
 refine GS ?_
 refine TN 12 ?_
 refine RS (ok_field field32_0 (by decide) rfl) ?_
 refine RS (ok_loadP (s := 1000003) (by decide) Tryz.underlying26 rfl size26 rfl rfl (by simp [rowV_length, hmk]) (SC_keys f hmk _)) ?_
 refine RS (ok_field field32_1 (by decide) rfl) ?_
 refine RS (ok_loadV (s := 1000003) (by decide) Tryz.underlying3 rfl rfl rfl (SC_ix f hmk _ _ _)) ?_
 refine RS (ok_field field32_2 (by decide) rfl) ?_
 refine RS (ok_loadP (s := 1000003) (by decide) Tryz.underlying30 rfl size30 rfl rfl (by simp [rowV_length, hmk]) (SC_non f hmk _ _ _)) ?_
 refine RS (ok_loadA (s := 1000009) (by decide) Tryz.underlying33 rfl (size33.of (by rw [List.length_map, xorK_length, hd])) rfl rfl) ?_
 refine RS (ok_callM (Seal_ok f mk hf hmk i s c hs hc (xorK f s c 0 d) (by rw [xorK_length, hd]) hi) (Sub.cons rfl (Sub.cons rfl KN)) tabs_v (Args.cons rfl (Le.refl _) (A3 rfl rfl rfl))) ?_; refine RZ (.tuple #[aggV (d.map byteV), aggV (tg.map byteV), .int .i64 0]) (by rw [xorK_xorK hf, ← h]) ?_
 refine RM rfl ?_
 refine RS (ok_extractV rfl rfl) ?_
 refine RS (ok_extractV rfl rfl) ?_
 refine RS (ok_extractV rfl rfl) ?_
 refine RN ?_
 refine ⟨_, _, eff_alloc (n := 84) (d := 11) (k := 1000011) zero33 (by decide), fun b11 hb11 => ?_⟩
 have hBb11 := hb11.1
 have hlt_b4_b11 : b4 < b11 := hb11.2 1000004 _ _ _ rfl
 have hlt_b7_b11 : b7 < b11 := hb11.2 1000007 _ _ _ rfl
 have hlt_b9_b11 : b9 < b11 := hb11.2 1000009 _ _ _ rfl
 refine TN 13 ?_
 refine RN ?_
 refine ⟨_, _, eff_alloc (n := 84) (d := 12) (k := 1000012) zero34 (by decide), fun b12 hb12 => ?_⟩
 have hBb12 := hb12.1
 have hlt_b5_b12 : b5 < b12 := hb12.2 1000005 _ _ _ rfl
 refine TF 14 ?_
 refine RN ?_
 refine ⟨_, eff_storeA (n := 84) (s := 1000011) (size33.of (by rw [List.length_map, hd])) rfl rfl (all_bytes _) hBb11 rfl (by simp [hd]) (LV 4 rfl (LV 5 rfl (LV 11 rfl (LV 12 rfl (LV 67 rfl (LV 68 rfl (LT 1000003 rfl (LB 1000004 rfl (LT 1000005 rfl (LB 1000007 rfl (LB 1000009 rfl (LT 1000012 rfl (LeftS.cons (t := 1900000) rfl (Surv.tab (by omega)) (LeftS.cons (t := 1900001) rfl (Surv.tab (by omega)) LN)))))))))))))), ?_⟩
 refine TF 15 ?_
 refine RN ?_
 refine ⟨_, eff_storeA (n := 84) (s := 1000012) (size34.of (by rw [List.length_map, htg])) rfl rfl (all_bytes _) hBb12 rfl (by simp [htg]) (LV 4 rfl (LV 5 rfl (LV 11 rfl (LV 12 rfl (LV 68 rfl (LT 1000003 rfl (LT 1000004 rfl (LB 1000005 rfl (LT 1000007 rfl (LT 1000009 rfl (LT 1000011 rfl (LeftS.cons (t := 1900000) rfl (Surv.tab (by omega)) (LeftS.cons (t := 1900001) rfl (Surv.tab (by omega)) LN))))))))))))), ?_⟩
 refine TL ?_
 refine RA rfl ?_
 refine RN ?_
 refine GS ?_
 refine TL ?_
 refine RS (ok_loadA (s := 1000011) (by decide) Tryz.underlying33 rfl (size33.of (by rw [List.length_map, hd])) rfl rfl) ?_
 refine RS (ok_loadA (s := 1000004) (by decide) Tryz.underlying33 rfl (size33.of (by rw [List.length_map, hd])) rfl rfl) ?_
 refine RS (ok_eqlT (n := 3) true flat33 (by decide) (by kernel_rfl) (by kernel_rfl) rfl rfl (kinB hd) (kinB hd) ⟨fun _ => rfl, fun _ => rfl⟩) ?_; refine RZ (.bool true) (by rfl) ?_
 refine RM rfl ?_
 refine RQ (ok_loadA (s := 1000012) (by decide) Tryz.underlying34 rfl (size34.of (by rw [List.length_map, htg])) rfl rfl) ?_
 refine RQ (ok_loadA (s := 1000005) (by decide) Tryz.underlying34 rfl (size34.of (by rw [List.length_map, htg])) rfl rfl) ?_
 refine RQ (ok_eqlT (n := 3) true flat34 (by decide) (by kernel_rfl) (by kernel_rfl) rfl rfl (kinB htg) (kinB htg) ⟨fun _ => rfl, fun _ => rfl⟩) ?_; refine RZ (.bool true) (by rfl) ?_
 refine RP rfl rfl ?_
 refine RM rfl ?_
 refine RQ (ok_move rfl) ?_
 refine RQ (ok_bin rfl rfl rfl) ?_; refine RZ (.bool true) (by rfl) ?_
 refine RP rfl rfl ?_
 refine RM rfl ?_
 refine RQ (ok_callM lives9_fn (Sub.cons rfl (Sub.cons rfl KN)) tabs_v Args.nil) ?_
 refine RP rfl rfl ?_
 refine RA rfl ?_
 refine RN ?_
 refine A.sub (KC 6 rfl (KC 1000003 rfl (KC 1000004 rfl (KC 1000005 rfl (KC 1000007 rfl (KC 1000009 rfl (KC 1000011 rfl (KC 1000012 rfl (KC 1900000 rfl (KC 1900001 rfl KN)))))))))) ?_
 refine A.ret ?_
 exact End.ret1 rfl rfl (by first | exact Le.refl _ | exact Le.old _ _)
theorem SealsOpen_fn (f : Nat → Nat) (mk : List UInt8) (hf : By f) (hmk : mk.length = 32) (i : Int) (s c : Nat) (hs : s < 4294967296) (hc : c < 18446744073709551616) (d : List UInt8) (hd : d.length = 32) (tg : List UInt8) (htg : tg.length = 32)  : FnM Tryz.prog 4 tabs [.v (aggV (rowV 16 f ++ mk.map byteV ++ [.int .i64 i, nW s, nQ c])), .v (aggV (d.map byteV)), .v (aggV (tg.map byteV))] (.v (.bool true)) := by
 by_cases hi : i < 0 ∨ 4096 ≤ i
 ·exact SealsOpen_bad f mk hf hmk i hi s c hs hc d hd tg htg
 ·obtain ⟨k, rfl⟩ := Int.eq_ofNat_of_zero_le (show 0 ≤ i by omega)
  by_cases h : tg = hmac mk (msgL k s c d)
  ·exact SealsOpen_ok f mk hf hmk k (by omega) s c hs hc d hd tg htg h
  ·exact SealsOpen_int f mk hf hmk k (by omega) s c hs hc d hd tg htg h
end Go.Proofs.YthadcgkcgpinhaaGreatDoor
namespace Go.Proofs.YthadcgkcgpinhaaGreatDoor
open Go Go.RowKit Go.ChangeShapes Go.WideShapes
section
variable {H : Type} {enc : TypeId × Value → H} {P : Program} {w : World} {base : Nat} {held : Bool}
end
end Go.Proofs.YthadcgkcgpinhaaGreatDoor
namespace Go.Proofs.YthadcgkcgpinhaaGreatDoor
open Go Go.RowKit Go.ChangeShapes Go.WideShapes
section
variable {H : Type} {enc : TypeId × Value → H} {P : Program} {w : World} {base : Nat} {held : Bool}
/-- Keys, an index, a nonce. -/
theorem arg_S {t : TypeId} {v : Value} {d : DataW H} {ps : List MemPlace} (hf : flat P 5 t = some (List.replicate 16 .u8 ++ (List.replicate 32 .u8 ++ [.i64, .u32, .u64]))) (hg : isAggT P t = true) {r : Reach} {b0 : Nat} (hk : Value.okWide P w r b0 t v)
    (h : DataW.Trod enc P w base (fun _ => true) held t v d ps) : ∃ (f : Nat → Nat) (mk : List UInt8) (i : Int) (s c : Nat), (∀ i, f i < 256) ∧ mk.length = 32 ∧ s < 4294967296 ∧ c < 18446744073709551616 ∧ -9223372036854775808 ≤ i ∧ i ≤ 9223372036854775807 ∧
      v = aggV (rowV 16 f ++ mk.map byteV ++ [.int .i64 i, .int .u32 ((s : Nat) : Int), .int .u64 ((c : Nat) : Int)]) := by
  obtain ⟨xs, rfl, hx⟩ := arg_flat 5 hf hg hk h
  obtain ⟨x, y, rfl, h1, h2⟩ := hx.append
  obtain ⟨l, hl, rfl⟩ := h1.bytes
  obtain ⟨x, y, rfl, h3, h4⟩ := h2.append
  obtain ⟨mk, hmk, rfl⟩ := h3.bytes
  obtain ⟨i, y, rfl, h5, h6⟩ := h4.cons
  obtain ⟨n, y, rfl, h7, h8⟩ := h6.cons
  obtain ⟨m, rfl, h9⟩ := h8.one
  obtain ⟨s, rfl, hs⟩ := nat_u32 h7
  obtain ⟨c, rfl, hc⟩ := nat_u64 h9
  exact ⟨byL l, mk, i, s, c, byL_lt l, hmk, hs, hc, (bounds_i64 h5).1, (bounds_i64 h5).2, by rw [rowV_byL hl, List.append_assoc]⟩
end
end Go.Proofs.YthadcgkcgpinhaaGreatDoor
