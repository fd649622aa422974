/- OWN TEXTS. -/
import Derived.WalkKit
import Derived.RegionTactic
import Derived.Deep.Draws
import Derived.TacticsIn
import Derived.OrdersIn
import Derived.RangeFuncLeaves
import Derived.Great.BuildSlice
import Derived.Maps.AppendAt
import Derived.ArgAppend
import Derived.Laws.Tables
import Derived.Laws.Rows
import Derived.Deep.MidRow
import Derived.OpenShut
import Derived.ChangeSlices
namespace Go.Proofs.YtjigbkamgfidkaaGreatDoor
set_option linter.unusedVariables false
set_option linter.unusedSimpArgs false
open Go Go.RowKit
section
def Grow (w w':World):Prop:=Below w.heap.size w w'
theorem Grow.refl (w:World):Grow w w:=Below.refl _ _
theorem Grow.trans {a b c:World} (h:Grow a b) (k:Grow b c):Grow a c:=Below.trans h (Below.mono k h.size)
theorem Grow.drew {a w:World} (h:Grow a w):Grow a w.drew:=Below.drew h
theorem Grow.alloc (w:World) (o:Obj):Grow w (w.alloc o):=(Below.refl _ _).alloc (Nat.le_refl _) o
inductive D where
 | v (x:Value)
 | p (F:Nat->World->Value->Prop) (keep:∀ B w w' x,Below B w w'->F B w x->F B w' x) (up:∀ B B' w x,B<=B'->F B w x->F B' w x)
def D.OfB:D->Nat->World->Value->Prop
 | .v y,_,_,x=>x=y
 | .p F _ _,B,w,x=>F B w x
def D.Of (d:D) (w:World) (x:Value):Prop:=d.OfB w.heap.size w x
theorem D.OfB.keep {d:D} {B:Nat} {w w':World} {x:Value} (h:d.OfB B w x) (g:Below B w w'):d.OfB B w' x:=by
 cases d with
 | v y=>exact h
 | p F k u=>exact k B w w' x g h
theorem D.OfB.up {d:D} {B B':Nat} {w:World} {x:Value} (h:d.OfB B w x) (g:B<=B'):d.OfB B' w x:=by
 cases d with
 | v y=>exact h
 | p F k u=>exact u B B' w x g h
theorem D.Of.grow {d:D} {w w':World} {x:Value} (h:d.Of w x) (g:Grow w w'):d.Of w' x:=(D.OfB.keep h g).up g.size
abbrev Env:=List (Nat×D)
def Env.look:Env->Nat->Option D
 | [],_=>none
 | (s,d)::r,t=>cond (Nat.beq s t) (some d) (Env.look r t)
def Env.at (E:Env):Operand->Option D
 | .tmp t=>E.look t
 | .const c=>some (.v c)
 | .global g=>some (.v (.pointer (some ⟨g,0,none⟩)))
 | .func f=>some (.v (.func (.func f) #[] #[]))
theorem look_here (E:Env) (t:Nat) (d:D):Env.look ((t,d)::E) t=some d:=by simp[Env.look]
theorem look_past (E:Env) {s t:Nat} (d:D) (h:s≠t):Env.look ((s,d)::E) t=E.look t:=by
 have h0:Nat.beq s t=false:=by
  cases hb:Nat.beq s t with
  | false=>rfl
  | true=>exact absurd (Nat.eq_of_beq_eq_true hb) h
 simp[Env.look,h0]
structure Cx where
 rd:Option Nat
 df:List Deferred
def Cx.top:Cx:=⟨none,[]⟩
def FR (r:Option Nat):Fence:={ Fence.wide with round:=r }
theorem callsIn_FR {r:Option Nat} {m:Nat} {P:Program} {f:FuncId} {args:Array Value} {w:World} {R:Ending->World->Prop}:CallsIn (FR r) m P f args w R↔Calls P f args w R:=callsIn_wide (n:=m)
theorem not_defer {P:Program} {o:Oper} {ρ:Operand->Value} {w w':World} {v:Value} (h:(execOp ρ o).run P w = .ok (.value v) w'):∀ c,o.op ≠ .defer c:=fun c hc=>by
 simp[execOp,hc] at h
 cases hr:Sem.run P (resolve ρ c o.type) w with
 | ok d w'=>rw[hr] at h; cases h
 | halt x w'=>rw[hr] at h; cases h
theorem opR {r:Option Nat} {P:Program} {o:Oper} {a:Act} {w:World} {K:Act->World->Prop} {Q:Exit->Act->World->Prop} (hnd:∀ c,o.op ≠ .defer c) (h:o.wp P a w K Q):o.wpIn (FR r) 0 P a w K Q:=by
 refine⟨fun _ _=>trivial,?_⟩
 rw[Oper.semAt_eq _ _ _ hnd]
 unfold Oper.wp at h
 generalize (execOp a.eval o).run P w=res at h ⊢
 cases res with
 | ok x w' =>
  cases x with
  | value v=>exact h
  | skip=>exact h
  | defer d=>exact h
  | enter f args=>exact⟨(fun e=>absurd e (by simp[FR,Fence.wide])),callsIn_FR.2 h⟩
  | row row args=>exact⟨(fun e=>absurd e (by simp[FR,Fence.wide])),fun c cs _=>by
   obtain⟨v,w',r,s⟩:=h c cs
   exact⟨v,w',r,stepsIn_wide.2 s⟩⟩
  | _=>exact h.elim
 | halt x w' =>
  cases x with
  | panic v=>exact h
  | _=>exact h.elim
variable {κ:Cx}
structure St (κ:Cx) (n B:Nat) (E:Env) (a:Act) (w:World):Prop where
 base:B<=w.heap.size
 defers:a.defers=κ.df
 size:a.tmps.size=n
 of:∀ t d,E.look t=some d->d.Of w (a.tmps.getD t undef)
theorem St.grow {n B:Nat} {E:Env} {a:Act} {w w':World} (h:St κ n B E a w) (g:Grow w w'):St κ n B E a w' :=
 ⟨Nat.le_trans h.base g.size,h.defers,h.size,fun t d hd=>(h.of t d hd).grow g⟩
theorem St.at_ {n B:Nat} {E:Env} {a:Act} {w:World} (h:St κ n B E a w) (x:Operand) (d:D) (hd:E.at x=some d):d.Of w (a.eval x):=by
 cases x with
 | tmp t=>exact h.of t d hd
 | const c=>simp only[Env.at,Option.some.injEq] at hd; subst hd; rfl
 | global g=>simp only[Env.at,Option.some.injEq] at hd; subst hd; rfl
 | func f=>simp only[Env.at,Option.some.injEq] at hd; subst hd; rfl
theorem getD_put_here (a:Act) {t:Nat} (x:Value) (h:t<a.tmps.size):(a.put (some t) x).tmps.getD t undef=x:=by
 simp[Act.put,h]
theorem getD_put_past (a:Act) {s t:Nat} (x:Value) (h:s≠t):(a.put (some s) x).tmps.getD t undef=a.tmps.getD t undef:=by
 simp[Act.put,Array.getElem?_setIfInBounds_ne h]
theorem St.put {n B:Nat} {E:Env} {a:Act} {w:World} (h:St κ n B E a w) {t:Nat} {d:D} {x:Value} (ht:t<n) (hx:d.Of w x):St κ n B ((t,d)::E) (a.put (some t) x) w:=by
 refine⟨h.base,h.defers,by simp[Act.put,h.size],fun s e he=>?_⟩
 by_cases hs:t=s
 ·subst hs
  rw[look_here] at he
  injection he with he
  subst he
  rw[getD_put_here _ _ (by rw[h.size]; exact ht)]
  exact hx
 ·rw[look_past _ _ hs] at he
  rw[getD_put_past _ _ hs]
  exact h.of s e he
def Sub (E' E:Env):Prop:=∀ p∈E',E.look p.1=some p.2
theorem Sub.nil {E:Env}:Sub [] E:=fun _ h=>by cases h
theorem Sub.cons {E' E:Env} {t:Nat} {d:D} (h:E.look t=some d) (hs:Sub E' E):Sub ((t,d)::E') E:=fun p hp=>by
 rcases List.mem_cons.1 hp with rfl|hp
 ·exact h
 ·exact hs p hp
theorem look_mem {E:Env} {t:Nat} {d:D} (h:E.look t=some d):(t,d)∈E:=by
 induction E with
 | nil=>cases h
 | cons p r ih =>
  obtain⟨s,e⟩:=p
  by_cases hs:s=t
  ·subst hs; rw[look_here] at h; injection h with h; subst h; exact List.mem_cons_self
  ·rw[look_past _ _ hs] at h; exact List.mem_cons_of_mem _ (ih h)
theorem St.sub {n B:Nat} {E E':Env} {a:Act} {w:World} (h:St κ n B E a w) (hs:Sub E' E):St κ n B E' a w :=
 ⟨h.base,h.defers,h.size,fun t d hd=>h.of t d (hs (t,d) (look_mem hd))⟩
def Out (P:Program) (o:Oper) (ρ:Operand->Value) (w:World) (K:Value->World->Prop):Prop :=
 match (execOp ρ o).run P w with
 | .ok (.value x) w'=>K x w'
 | .ok (.enter f args) w'=>Calls P f args w' fun e w''=>∃ x,e = .returned x∧K x w''
 | _=>False
def vbase:Nat:=1000000
def OpOk (P:Program) (B:Nat) (o:Oper) (E:Env) (d:D):Prop :=
 ∀ (ρ:Operand->Value) (w:World),B<=w.heap.size->(∀ t e,vbase<=t->E.look t=some e->e.Of w undef)->(∀ x,x∈o.op.operands->∀ e,E.at x=some e->e.Of w (ρ x))->Out P o ρ w fun x w'=>Grow w w'∧d.Of w' x
def GuardIs (ops:Array Oper) (E:Env) (o:Oper) (b:Bool):Prop :=
 match o.guard with
 | none=>b=true
 | some (j,want)=>∃ t,((ops[j]?).bind (·.dst))=some t∧((∃ c,E.look t=some (.v (.bool c))∧b=(c==want))∨(E.look t=some (.v undef)∧b=false))
def Good (P:Program) (B:Nat) (ops:Array Oper) (o:Oper) (E:Env) (d:D):Prop :=
 (GuardIs ops E o true∧OpOk P B o E d)∨(GuardIs ops E o false∧d = .v undef)
inductive Run (P:Program) (B:Nat) (ops:Array Oper):List Oper->Env->Env->Prop
 | nil {E:Env}:Run P B ops [] E E
 | cons {o:Oper} {rest:List Oper} {E E':Env} {t:Nat} {d:D} (ht:o.dst=some t) (hg:Good P B ops o E d) (hr:Run P B ops rest ((t,d)::E) E'):Run P B ops (o::rest) E E'
theorem Run.step {P:Program} {B:Nat} {ops:Array Oper} {o:Oper} {rest:List Oper} {E E':Env} {t:Nat} {d:D} (ht:o.dst=some t) (hg:o.guard=none) (h:OpOk P B o E d) (hr:Run P B ops rest ((t,d)::E) E'):Run P B ops (o::rest) E E' :=
 .cons ht (.inl ⟨by simp[GuardIs,hg],h⟩) hr
theorem Run.guarded {P:Program} {B:Nat} {ops:Array Oper} {o:Oper} {rest:List Oper} {E E':Env} {t:Nat} {d:D} {j:Nat} {want:Bool} {s:Nat} (ht:o.dst=some t) (hg:o.guard=some (j,want)) (hj:((ops[j]?).bind (·.dst))=some s)
  (hE:E.look s=some (.v (.bool want))) (h:OpOk P B o E d) (hr:Run P B ops rest ((t,d)::E) E'):Run P B ops (o::rest) E E' :=
 .cons ht (.inl ⟨by simp only[GuardIs,hg]; exact⟨s,hj,.inl ⟨want,hE,by cases want<;>rfl⟩⟩,h⟩) hr
theorem Run.skipped {P:Program} {B:Nat} {ops:Array Oper} {o:Oper} {rest:List Oper} {E E':Env} {t:Nat} {j:Nat} {want c:Bool} {s:Nat} (ht:o.dst=some t) (hg:o.guard=some (j,want)) (hj:((ops[j]?).bind (·.dst))=some s)
  (hE:E.look s=some (.v (.bool c))) (hc:(c==want)=false) (hr:Run P B ops rest ((t,.v undef)::E) E'):Run P B ops (o::rest) E E' :=
 .cons ht (.inr ⟨by simp only[GuardIs,hg]; exact⟨s,hj,.inl ⟨c,hE,hc.symm⟩⟩,rfl⟩) hr
theorem Run.skippedU {P:Program} {B:Nat} {ops:Array Oper} {o:Oper} {rest:List Oper} {E E':Env} {t:Nat} {j:Nat} {want:Bool} {s:Nat} (ht:o.dst=some t) (hg:o.guard=some (j,want)) (hj:((ops[j]?).bind (·.dst))=some s)
  (hE:E.look s=some (.v undef)) (hr:Run P B ops rest ((t,.v undef)::E) E'):Run P B ops (o::rest) E E' :=
 .cons ht (.inr ⟨by simp only[GuardIs,hg]; exact⟨s,hj,.inr ⟨hE,trivial⟩⟩,rfl⟩) hr
section
variable {P:Program} {B:Nat} {ops:Array Oper} {Q:Exit->Act->World->Prop}
theorem wpListR_step {o:Oper} {rest:List Oper} {a:Act} {w:World} (h:∀ K:Act->World->Prop,(∀ a w,wpListIn (FR κ.rd) 0 P ops Q rest a w->K a w)->if Region.wanted o (yielded ops a.tmps)=true then o.wpIn (FR κ.rd) 0 P a w K Q else K (a.put o.dst undef) w):wpListIn (FR κ.rd) 0 P ops Q (o::rest) a w:=by
 refine wpListIn_step fun K hK=>?_
 have:=h K hK
 split
 ·rename_i hw; rwa [if_pos hw] at this
 ·rename_i hw; rw[if_neg hw] at this; exact⟨fun _ _=>trivial,this⟩
theorem wpOpR_step {i:Nat} {o:Oper} {K:Act->World->Prop} {a:Act} {w:World} (ho:ops[i]?=some o) (h:∀ K':Act->World->Prop,(∀ a w,K a w->K' a w)->if Region.wanted o (yielded ops a.tmps)=true then o.wpIn (FR κ.rd) 0 P a w K' Q else K' (a.put o.dst undef) w):wpOpIn (FR κ.rd) 0 P ops Q i K a w:=by
 have:=h K (fun _ _ h=>h)
 unfold wpOpIn
 rw[ho]
 show if Region.wanted o (yielded ops a.tmps)=true then _ else _
 split
 ·rename_i hw; rwa [if_pos hw] at this
 ·rename_i hw; rw[if_neg hw] at this; exact⟨fun _ _=>trivial,this⟩
theorem wp_of_out {o:Oper} {a:Act} {w:World} {K:Act->World->Prop} {t:Nat} (ht:o.dst=some t) (h:Out P o a.eval w fun x w'=>K (a.put (some t) x) w'):o.wpIn (FR κ.rd) 0 P a w K Q:=by
 unfold Out at h
 refine opR (fun c hc=>?_) ?_
 ·simp[execOp,hc] at h
  cases hr:Sem.run P (resolve a.eval c o.type) w with
  | ok d w'=>rw[hr] at h; exact h.elim
  | halt x w'=>rw[hr] at h; exact h.elim
 unfold Oper.wp
 split at h
 ·rename_i hr; rw[hr,Oper.upon_value,ht]; exact h
 ·rename_i hr
  rw[hr,Oper.upon_enter]
  refine Calls.mono h ?_
  rintro e w' ⟨x,rfl,hk⟩
  rw[ht]; exact hk
 ·exact h.elim
theorem Out.mono {o:Oper} {ρ:Operand->Value} {w:World} {K K':Value->World->Prop} (h:Out P o ρ w K) (hk:∀ x w',K x w'->K' x w'):Out P o ρ w K':=by
 unfold Out at *
 split at h
 ·exact hk _ _ h
 ·exact Calls.mono h fun e w' ⟨x,he,hx⟩=>⟨x,he,hk _ _ hx⟩
 ·exact h.elim
theorem wanted_of {E:Env} {o:Oper} {a:Act} {b:Bool} (hg:GuardIs ops E o b) (hl:∀ t d,t∈o.looksAt ops->E.look t=some d->∀ w,d.Of w (a.tmps.getD t undef)∨∃ F k u,d = .p F k u) (hsz:∀ t,t∈o.looksAt ops->t<a.tmps.size) :
  Region.wanted o (yielded ops a.tmps)=b:=by
 unfold GuardIs at hg
 unfold Region.wanted
 cases hgd:o.guard with
 | none=>rw[hgd] at hg; simp only at hg; subst hg; rfl
 | some gw =>
  obtain⟨j,want⟩:=gw
  rw[hgd] at hg
  obtain⟨t,hj,hE⟩:=hg
  have hin:t∈o.looksAt ops:=by simp[Oper.looksAt,hgd,hj]
  have hsz':=hsz t hin
  rcases hE with ⟨c,hE,rfl⟩|⟨hE,rfl⟩
  ·have h1:=(hl t _ hin hE default).resolve_right (by rintro ⟨F,k,u,h⟩; cases h)
   have h2:a.tmps[t]?=some (.bool c):=by
    have h3:a.tmps.getD t undef = .bool c:=h1
    simp[hsz'] at h3
    simp[hsz',h3]
   simp only[yielded,hj,Option.bind_some,h2]
   cases c<;>cases want<;>rfl
  ·have h1:=(hl t _ hin hE default).resolve_right (by rintro ⟨F,k,u,h⟩; cases h)
   have h2:a.tmps[t]?=some undef:=by
    have h3:a.tmps.getD t undef=undef:=h1
    simp[hsz'] at h3
    simp[hsz',h3]
   simp only[yielded,hj,Option.bind_some,h2]
   cases want<;>rfl
def fits (n:Nat) (ops:Array Oper):Bool:=decide (n<=vbase)&&ops.all fun o=>(o.looksAt ops).all (fun t=>decide (t<n))&&(match o.dst with|some t=>decide (t<n)|none=>true)
theorem good_wp {E:Env} {o:Oper} {a:Act} {w:World} {K:Act->World->Prop} {t:Nat} {d:D} (hB:B<=w.heap.size) (hvirt:∀ t e,vbase<=t->E.look t=some e->e.Of w undef) (ht:o.dst=some t) (hg:Good P B ops o E d)
  (hl:∀ s e,s∈o.looksAt ops->E.look s=some e->e.Of w (a.tmps.getD s undef)) (hsz:∀ s,s∈o.looksAt ops->s<a.tmps.size)
  (hK:∀ x w',Grow w w'->d.Of w' x->K (a.put (some t) x) w') :
  if Region.wanted o (yielded ops a.tmps)=true then o.wpIn (FR κ.rd) 0 P a w K Q else K (a.put o.dst undef) w:=by
 have hl':∀ s e,s∈o.looksAt ops->E.look s=some e->∀ w,e.Of w (a.tmps.getD s undef)∨∃ F k u,e = .p F k u:=fun s e hs he w'=>by
  cases e with
  | v y=>exact .inl (hl s _ hs he)
  | p F k u=>exact .inr ⟨F,k,u,rfl⟩
 rcases hg with ⟨hg,hok⟩|⟨hg,rfl⟩
 ·rw[wanted_of hg hl' hsz,if_pos rfl]
  refine wp_of_out ht ((hok a.eval w hB hvirt fun x hx e he=>?_).mono fun x w' h=>hK x w' h.1 h.2)
  cases x with
  | tmp s=>exact hl s e (List.mem_append_left _ (List.mem_filterMap.2 ⟨.tmp s,by simpa using hx,rfl⟩)) he
  | const c=>simp only[Env.at,Option.some.injEq] at he; subst he; rfl
  | global g=>simp only[Env.at,Option.some.injEq] at he; subst he; rfl
  | func f=>simp only[Env.at,Option.some.injEq] at he; subst he; rfl
 ·rw[wanted_of hg hl' hsz,if_neg (by simp),ht]
  exact hK undef w (Grow.refl w) rfl
inductive Trace (P:Program) (B:Nat) (ops:Array Oper):List Oper->Env->List D->Env->Prop
 | nil {E:Env}:Trace P B ops [] E [] E
 | cons {o:Oper} {rest:List Oper} {E E':Env} {t:Nat} {d:D} {ds:List D} (ht:o.dst=some t) (hg:Good P B ops o E d) (hr:Trace P B ops rest ((t,d)::E) ds E'):Trace P B ops (o::rest) E (d::ds) E'
theorem Run.trace {rest:List Oper} {E E':Env} (h:Run P B ops rest E E'):∃ ds,Trace P B ops rest E ds E':=by
 induction h with
 | nil=>exact⟨[],.nil⟩
 | cons ht hg _ ih=>obtain⟨ds,h⟩:=ih; exact⟨_,.cons ht hg h⟩
theorem Trace.nth {rest:List Oper} {E E':Env} {ds:List D} (h:Trace P B ops rest E ds E'):∀ {i:Nat} {o:Oper},rest[i]?=some o ->
  ∃ t d Ei,o.dst=some t∧ds[i]?=some d∧Good P B ops o Ei d∧∀ s e,Ei.look s=some e ->
   (∃ j o',j<i∧rest[j]?=some o'∧o'.dst=some s∧ds[j]?=some e)∨((∀ j o',j<i->rest[j]?=some o'->o'.dst≠some s)∧E.look s=some e):=by
 induction h with
 | nil=>intro i o hi; simp at hi
 | @cons o0 rest E E' t0 d0 ds ht hg hr ih =>
  intro i o hi
  cases i with
  | zero =>
   simp at hi; subst hi
   exact⟨t0,d0,E,ht,rfl,hg,fun s e he=>.inr ⟨fun j _ hj=>by omega,he⟩⟩
  | succ i =>
   obtain⟨t,d,Ei,h1,h2,h3,h4⟩:=ih (i:=i) (by simpa using hi)
   refine⟨t,d,Ei,h1,by simpa using h2,h3,fun s e he=>?_⟩
   rcases h4 s e he with ⟨j,o',hj,ho',hd,hds⟩|⟨hno,hl⟩
   ·exact .inl ⟨j+1,o',by omega,by simpa using ho',hd,by simpa using hds⟩
   ·by_cases hs:t0=s
    ·subst hs
     rw[look_here] at hl
     exact .inl ⟨0,o0,by omega,rfl,ht,by simpa using hl⟩
    ·rw[look_past _ _ hs] at hl
     refine .inr ⟨fun j o' hj ho'=>?_,hl⟩
     cases j with
     | zero=>simp at ho'; subst ho'; rw[ht]; intro h; injection h with h; exact hs h
     | succ j=>exact hno j o' (by omega) (by simpa using ho')
theorem Trace.last {rest : List Oper} {E E' : Env} {ds : List D} (h : Trace P B ops rest E ds E') : ∀ s e, E'.look s = some e ->
      (∃ (j : Nat) (o' : Oper), rest[j]? = some o' ∧ o'.dst = some s ∧ ds[j]? = some e) ∨ ((∀ (j : Nat) (o' : Oper), rest[j]? = some o' -> o'.dst ≠ some s) ∧ E.look s = some e) := by
  induction h with
  | nil => intro s e he; exact .inr ⟨fun j _ hj => by simp at hj, he⟩
  | @cons o0 rest E E' t0 d0 ds ht hg hr ih =>
    intro s e he
    rcases ih s e he with ⟨j, o', ho', hd, hds⟩ | ⟨hno, hl⟩
    · exact .inl ⟨j + 1, o', by simpa using ho', hd, by simpa using hds⟩
    · by_cases hs : t0 = s
      · subst hs
        rw [look_here] at hl
        exact .inl ⟨0, o0, rfl, ht, by simpa using hl⟩
      · rw [look_past _ _ hs] at hl
        refine .inr ⟨fun j o' ho' => ?_, hl⟩
        cases j with
        | zero => simp at ho'; subst ho'; rw [ht]; intro h; injection h with h; exact hs h
        | succ j => exact hno j o' (by simpa using ho')
def tied (ops:Array Oper):Bool :=
 (List.range ops.size).all fun i=>match ops[i]? with
  | none=>false
  | some o=>o.after.all (fun e=>!Region.binds .any e||decide (e.on<i)) &&
   (List.range ops.size).all fun j=>match ops[j]? with
    | none=>false
    | some p=>match p.dst with
     | none=>true
     | some t=>j==i||((o.dst != some t)&&(!(o.looksAt ops).contains t ||
       (if j<i then o.after.any (fun e=>Region.binds .any e&&e.on==j) else p.after.any (fun e=>Region.binds .any e&&e.on==i))))
theorem tied_edge (h:tied ops=true) {i:Nat} {o:Oper} (hi:ops[i]?=some o) {e:Edge} (he:e∈o.after) (hb:Region.binds .any e=true):e.on<i:=by
 have hlt:i<ops.size:=(Array.getElem?_eq_some_iff.1 hi).1
 have h1:=List.all_eq_true.1 h i (List.mem_range.2 hlt)
 simp only[hi,Bool.and_eq_true] at h1
 have h2:=Array.all_eq_true_iff_forall_mem.1 h1.1 e he
 simpa [hb] using h2
theorem tied_pair (h:tied ops=true) {i j:Nat} {o p:Oper} (hi:ops[i]?=some o) (hj:ops[j]?=some p) {t:Nat} (ht:p.dst=some t) (hne:j≠i) :
  o.dst≠some t∧(t∈o.looksAt ops->(j<i->∃ e∈o.after,Region.binds .any e=true∧e.on=j)∧(i<j->∃ e∈p.after,Region.binds .any e=true∧e.on=i)):=by
 have hlt:i<ops.size:=(Array.getElem?_eq_some_iff.1 hi).1
 have hlt':j<ops.size:=(Array.getElem?_eq_some_iff.1 hj).1
 have h1:=List.all_eq_true.1 h i (List.mem_range.2 hlt)
 simp only[hi,Bool.and_eq_true] at h1
 have h2:=List.all_eq_true.1 h1.2 j (List.mem_range.2 hlt')
 simp only[hj,ht,Bool.or_eq_true,beq_iff_eq,hne,false_or,Bool.and_eq_true,bne_iff_ne,ne_eq] at h2
 refine⟨h2.1,fun hin=>?_⟩
 have h3:=h2.2.resolve_left (by simp[hin])
 constructor
 ·intro hji
  rw[if_pos hji] at h3
  obtain⟨e,he,hb⟩:=Array.any_eq_true'.1 h3
  simp only[Bool.and_eq_true,beq_iff_eq] at hb
  exact⟨e,he,hb.1,hb.2⟩
 ·intro hij
  rw[if_neg (by omega)] at h3
  obtain⟨e,he,hb⟩:=Array.any_eq_true'.1 h3
  simp only[Bool.and_eq_true,beq_iff_eq] at hb
  exact⟨e,he,hb.1,hb.2⟩
def unlisted (ops:Array Oper) (listed:Array Bool):Nat:=(List.range ops.size).countP fun i=>!listed.getD i true
theorem countP_lt {l:List Nat} {p q:Nat->Bool} (h:∀ x,q x=true->p x=true) {x:Nat} (hx:x∈l) (px:p x=true) (nq:q x=false):l.countP q<l.countP p:=by
 induction l with
 | nil=>cases hx
 | cons y l ih =>
  have hle:l.countP q<=l.countP p:=List.countP_mono_left fun z _ hz=>h z hz
  by_cases hy:x=y
  ·subst hy
   rw[List.countP_cons_of_pos px,List.countP_cons_of_neg (by simp[nq])]
   omega
  ·have:=ih (by simpa [hy] using hx)
   rw[List.countP_cons,List.countP_cons]
   by_cases hq:q y=true
   ·simp[hq,h y hq]; exact this
   ·simp[hq]; split<;>omega
def Eff (P:Program) (n B:Nat) (ops:Array Oper) (o:Oper) (E E':Env):Prop :=
 ∀ (κ:Cx) (a:Act) (w:World) (K:Act->World->Prop) (Q:Exit->Act->World->Prop),St κ n B E a w->(∀ a' w',Below B w w'->St κ n B E' a' w'->K a' w') ->
  if Region.wanted o (yielded ops a.tmps)=true then o.wpIn (FR κ.rd) 0 P a w K Q else K (a.put o.dst undef) w
def EffG (P:Program) (n B:Nat) (ops:Array Oper) (o:Oper) (E:Env) {ι:Type} (G:ι->Prop) (E':ι->Env):Prop :=
 ∀ (κ:Cx) (a:Act) (w:World) (K:Act->World->Prop) (Q:Exit->Act->World->Prop),St κ n B E a w->(∀ i a' w',G i->Below B w w'->St κ n B (E' i) a' w'->K a' w') ->
  if Region.wanted o (yielded ops a.tmps)=true then o.wpIn (FR κ.rd) 0 P a w K Q else K (a.put o.dst undef) w
theorem Eff.g {n:Nat} {o:Oper} {E E':Env} (h:Eff P n B ops o E E'):EffG P n B ops o E (fun _:Unit=>True) (fun _=>E') :=
 fun κ a w K Q hs hK=>h κ a w K Q hs fun a' w' g h'=>hK () a' w' trivial g h'
def befores (ops:Array Oper):Array (List Nat) :=
 ops.foldl (init:=#[]) fun acc o=>acc.push (o.after.toList.flatMap fun e=>if Region.binds .any e then e.on::acc.getD e.on [] else [])
def barrier (ops:Array Oper) (p:Nat):Bool :=
 let b:=(befores ops).map List.eraseDups
 (List.range ops.size).all fun i=>i==p||(if i<p then (b.getD p []).contains i else (b.getD i []).contains p)
inductive RunTK (P:Program) (n B:Nat) (ops:Array Oper) (draw:Bool) (C:Env->Prop):Nat->Env->Prop
 | last' {s:Nat} {E E':Env} (hr:Run P B ops (ops.toList.drop s) E E') (hC:C E'):RunTK P n B ops draw C s E
 | effG {s p:Nat} {o:Oper} {E E₁:Env} {ι:Type} {G:ι->Prop} {E₂:ι->Env} (hsp:s<=p) (ho:ops[p]?=some o) (hb:draw=false∨barrier ops p=true) (hr:Run P B ops ((ops.toList.drop s).take (p-s)) E E₁)
   (he:EffG P n B ops o E₁ G E₂) (hrest:∀ i,G i->RunTK P n B ops draw C (p+1) (E₂ i)):RunTK P n B ops draw C s E
theorem St.virt {n B:Nat} {E:Env} {a:Act} {w:World} (h:St κ n B E a w) (hn:n<=vbase):∀ t e,vbase<=t->E.look t=some e->e.Of w undef:=fun t e ht he=>by
 have h1:=h.of t e he
 rwa [Array.getD_eq_getD_getElem?,Array.getElem?_eq_none (by rw[h.size]; omega)] at h1
theorem wp_text {n:Nat} (hn:n<=vbase):∀ {seg rest:List Oper} {E E':Env} {a:Act} {w:World},Run P B ops seg E E'->St κ n B E a w->(∀ o∈seg,(∀ t∈o.looksAt ops,t<n)∧∀ t,o.dst=some t->t<n) ->
  (∀ a' w',Grow w w'->St κ n B E' a' w'->wpListIn (FR κ.rd) 0 P ops Q rest a' w')->wpListIn (FR κ.rd) 0 P ops Q (seg++rest) a w:=by
 intro seg rest E E' a w hr
 induction hr generalizing a w with
 | nil=>intro h _ hQ; exact hQ a w (Grow.refl w) h
 | @cons o seg E E' t d ht hg hr ih =>
  intro h hf hQ
  refine wpListR_step fun K hK=>?_
  have hfo:=hf o (List.mem_cons_self)
  refine good_wp h.base (h.virt hn) ht hg (fun s e _ he=>h.of s e he) (fun s hs=>by rw[h.size]; exact hfo.1 s hs) fun x w' g hx=>hK _ _ ?_
  exact ih ((h.grow g).put (hfo.2 t ht) hx) (fun o' ho'=>hf o' (List.mem_cons_of_mem _ ho')) fun a' w'' g' h'=>hQ a' w'' (g.trans g') h'
theorem fits_base {n:Nat} (hfits:fits n ops=true):n<=vbase:=by
 unfold fits at hfits
 rw[Bool.and_eq_true,decide_eq_true_eq] at hfits
 exact hfits.1
theorem fits_mem {n:Nat} (hfits:fits n ops=true) {o:Oper} (ho:o∈ops.toList):(∀ t∈o.looksAt ops,t<n)∧∀ t,o.dst=some t->t<n:=by
 unfold fits at hfits
 rw[Bool.and_eq_true] at hfits
 have hf:=Array.all_eq_true_iff_forall_mem.1 hfits.2 o (by simpa using ho)
 simp only[Bool.and_eq_true,List.all_eq_true,decide_eq_true_eq] at hf
 refine⟨hf.1,fun t ht=>?_⟩
 have:=hf.2
 rw[ht] at this
 simpa using this
theorem wp_textT {n:Nat} {s:Nat} {C:Env->Prop} {E:Env} {a:Act} {w:World} (hfits:fits n ops=true) (hr:RunTK P n B ops false C s E):St κ n B E a w->(∀ E' a' w',C E'->Below B w w'->St κ n B E' a' w'->Q .normal a' w')->wpListIn (FR κ.rd) 0 P ops Q (ops.toList.drop s) a w:=by
 induction hr generalizing a w with
 | @last' s E E' hr hC =>
  intro h hQ
  have:=wp_text (Q:=Q) (rest:=[]) (fits_base hfits) hr h (fun o ho=>fits_mem hfits (List.mem_of_mem_drop ho)) fun a' w' g h'=>id (hQ E' a' w' hC (Below.mono g h.base) h')
  simpa using this
 | @effG s p o E E₁ ι G E₂ hsp ho hb hr he hrest ih =>
  intro h hQ
  have hsplit:ops.toList.drop s=(ops.toList.drop s).take (p-s)++(o::ops.toList.drop (p+1)):=by
   have h1:(ops.toList.drop s).drop (p-s)=o::ops.toList.drop (p+1):=by
    rw[List.drop_drop,show s+(p-s)=p from by omega]
    obtain⟨hlt,hget⟩:=Array.getElem?_eq_some_iff.1 ho
    rw[List.drop_eq_getElem_cons (by simpa using hlt)]
    simp[hget]
   conv=>lhs; rw[<- List.take_append_drop (p-s) (ops.toList.drop s),h1]
  rw[hsplit]
  refine wp_text (fits_base hfits) hr h (fun o' ho'=>fits_mem hfits (List.mem_of_mem_drop (List.mem_of_mem_take ho'))) fun a' w' g h'=>wpListR_step fun K hK=>he κ a' w' K Q h' fun i a'' w'' hi g' h''=>hK _ _ (ih i hi h'' fun E' a3 w3 hC g3 h3=>hQ E' a3 w3 hC (((Below.mono g h.base).trans g').trans g3) h3)
theorem befores_spec:∀ (l:List Oper) (acc:Array (List Nat)) (pre:List Oper),acc.size=pre.length->(∀ i j,j∈acc.getD i []->∃ o e,pre[i]?=some o∧e∈o.after∧Region.binds .any e=true∧(e.on=j∨j∈acc.getD e.on [])) ->
  ∀ i j,j∈(l.foldl (fun acc o=>acc.push (o.after.toList.flatMap fun e=>if Region.binds .any e then e.on::acc.getD e.on [] else [])) acc).getD i [] ->
   ∃ o e,(pre++l)[i]?=some o∧e∈o.after∧Region.binds .any e=true∧(e.on=j∨j∈(l.foldl (fun acc o=>acc.push (o.after.toList.flatMap fun e=>if Region.binds .any e then e.on::acc.getD e.on [] else [])) acc).getD e.on []):=by
 intro l
 induction l with
 | nil=>intro acc pre _ h i j hj; simpa using h i j (by simpa using hj)
 | cons o l ih =>
  intro acc pre hs h i j hj
  have:=ih (acc.push (o.after.toList.flatMap fun e=>if Region.binds .any e then e.on::acc.getD e.on [] else [])) (pre++[o]) (by simp[hs]) (fun i j hj=>?_) i j (by simpa using hj)
  ·simpa using this
  ·have hget:∀ k,k<acc.size->(acc.push (o.after.toList.flatMap fun e=>if Region.binds .any e then e.on::acc.getD e.on [] else [])).getD k []=acc.getD k []:=fun k hk=>by
    simp[Array.getElem?_push,hk,Nat.ne_of_lt hk]
   rcases Nat.lt_trichotomy i acc.size with hi|hi|hi
   ·rw[hget i hi] at hj
    obtain⟨o',e,ho',he,hb,hor⟩:=h i j hj
    refine⟨o',e,by rw[List.getElem?_append_left (by omega)]; exact ho',he,hb,hor.imp id fun hm=>?_⟩
    have hlt:e.on<acc.size:=by
     rcases Nat.lt_or_ge e.on acc.size with h|h
     ·exact h
     ·simp[Array.getElem?_eq_none h] at hm
    rw[hget _ hlt]; exact hm
   ·subst hi
    simp only[Array.getD_eq_getD_getElem?,Array.getElem?_push_size,Option.getD_some,List.mem_flatMap] at hj
    obtain⟨e,he,hm⟩:=hj
    by_cases hb:Region.binds .any e=true
    ·rw[if_pos hb] at hm
     refine⟨o,e,by rw[hs]; simp,by simpa using he,hb,?_⟩
     rcases List.mem_cons.1 hm with rfl|hm
     ·exact .inl rfl
     ·refine .inr ?_
      have hlt:e.on<acc.size:=by
       rcases Nat.lt_or_ge e.on acc.size with h|h
       ·exact h
       ·simp[Array.getElem?_eq_none h] at hm
      rw[hget _ hlt]; simpa using hm
    ·rw[if_neg hb] at hm; cases hm
   ·exfalso
    rw[Array.getD_eq_getD_getElem?,Array.getElem?_eq_none (by simp; omega)] at hj
    simp at hj
theorem befores_step {i j:Nat} (hj:j∈(befores ops).getD i []):∃ o e,ops[i]?=some o∧e∈o.after∧Region.binds .any e=true∧(e.on=j∨j∈(befores ops).getD e.on []):=by
 have:=befores_spec ops.toList #[] [] rfl (fun i j h=>by simp at h) i j (by unfold befores at hj; rw[<- Array.foldl_toList] at hj; exact hj)
 obtain⟨o,e,ho,he,hb,h⟩:=this
 refine⟨o,e,by simpa using ho,he,hb,h.imp id fun h=>?_⟩
 unfold befores
 rw[<- Array.foldl_toList]
 exact h
structure Inv (κ:Cx) (n B:Nat) (ops:Array Oper) (s p:Nat) (E:Env) (ds:List D) (a₀:Act) (w₀:World) (listed:Array Bool) (a:Act) (w:World):Prop where
 grow:Grow w₀ w
 base:B<=w.heap.size
 lsize:listed.size=ops.size
 low:∀ i,i<s->i<ops.size->listed.getD i false=true
 high:∀ i,p<=i->listed.getD i false=false
 defers:a.defers=κ.df
 size:a.tmps.size=n
 closed:∀ i o,ops[i]?=some o->listed.getD i false=true->∀ e∈o.after,Region.binds .any e=true->listed.getD e.on false=true
 facts:∀ i o t d,s<=i->ops[i]?=some o->listed.getD i false=true->o.dst=some t->ds[i-s]?=some d->d.Of w (a.tmps.getD t undef)
 frame:∀ t,(∀ i o,s<=i->ops[i]?=some o->listed.getD i false=true->o.dst≠some t)->a.tmps.getD t undef=a₀.tmps.getD t undef
theorem Inv.befores {n:Nat} {s p:Nat} {E:Env} {ds:List D} {a₀:Act} {w₀:World} {listed:Array Bool} {a:Act} {w:World} (htied:tied ops=true) (I:Inv κ n B ops s p E ds a₀ w₀ listed a w):∀ i j,(∀ o,ops[i]?=some o->∀ e∈o.after,Region.binds .any e=true->listed.getD e.on false=true)->j∈(befores ops).getD i []->listed.getD j false=true:=by
 intro i
 induction i using Nat.strongRecOn with
 | _ i ih =>
  intro j hi hj
  obtain⟨o,e,ho,he,hb,h⟩:=befores_step hj
  have hl:=hi o ho e he hb
  rcases h with rfl|h
  ·exact hl
  ·exact ih e.on (tied_edge htied ho he hb) j (fun o' ho' e' he' hb'=>I.closed e.on o' ho' hl e' he' hb') h
theorem wp_seg {n s p : Nat} {E E' : Env} {ds : List D} {a₀ : Act} {w₀ : World} (htied : tied ops = true) (hfits : fits n ops = true) (hsp : s <= p) (hpn : p <= ops.size) (ht : Trace P B ops ((ops.toList.drop s).take (p - s)) E ds E') (h₀ : St κ n B E a₀ w₀)
    (hbar : p = ops.size ∨ barrier ops p = true)
    (hend : p = ops.size -> ∀ a' w', Grow w₀ w' -> St κ n B E' a' w' -> Q .normal a' w')
    (hnext : p < ops.size -> ∀ fuel (listed : Array Bool) a' w', listed.size = ops.size -> (∀ i, i < ops.size -> listed.getD i false = decide (i < p)) -> unlisted ops listed <= fuel + 1 -> Grow w₀ w' -> St κ n B E' a' w' ->
      wpOpIn (FR κ.rd) 0 P ops Q p (wpAnyIn (FR κ.rd) 0 P .any ops Q fuel (listed.setIfInBounds p true)) a' w') :
    ∀ (fuel : Nat) (listed : Array Bool) (a : Act) (w : World), unlisted ops listed <= fuel -> Inv κ n B ops s p E ds a₀ w₀ listed a w -> wpAnyIn (FR κ.rd) 0 P .any ops Q fuel listed a w := by
  have hidx : ∀ (i : Nat) (o : Oper), s <= i -> i < p -> ops[i]? = some o -> ((ops.toList.drop s).take (p - s))[i - s]? = some o := fun i o h1 h2 h3 => by
    rw [List.getElem?_take, if_pos (by omega), List.getElem?_drop, show s + (i - s) = i from by omega]
    simpa using h3
  have hidx' : ∀ (j : Nat) (o : Oper), ((ops.toList.drop s).take (p - s))[j]? = some o -> ops[s + j]? = some o ∧ s + j < p := fun j o h => by
    rw [List.getElem?_take] at h
    split at h
    · rw [List.getElem?_drop] at h
      exact ⟨by simpa using h, by omega⟩
    · cases h
  -- all between s and p have come up: the environment at the end
  have hst : ∀ (listed : Array Bool) (a : Act) (w : World), Inv κ n B ops s p E ds a₀ w₀ listed a w -> (∀ i, i < p -> i < ops.size -> listed.getD i false = true) -> St κ n B E' a w := by
    intro listed a w I hall
    refine ⟨I.base, I.defers, I.size, fun t e he => ?_⟩
    rcases ht.last t e he with ⟨j, o, hj, hd, hds⟩ | ⟨hno, hl⟩
    · obtain ⟨hj', hlt⟩ := hidx' j o hj
      exact I.facts (s + j) o t e (by omega) hj' (hall _ hlt (Array.getElem?_eq_some_iff.1 hj').1) hd (by rw [show s + j - s = j from by omega]; exact hds)
    · rw [I.frame t fun i o hsi hi hl' => ?_]
      · exact (h₀.of t e hl).grow I.grow
      · rcases Nat.lt_or_ge i p with hip | hip
        · exact hno (i - s) o (hidx i o hsi hip hi)
        · rw [I.high i hip] at hl'; cases hl'
  have hmin : ∀ (listed : Array Bool) (a : Act) (w : World), Inv κ n B ops s p E ds a₀ w₀ listed a w -> Region.ready .any ops listed = [] -> ∀ i, i < ops.size -> listed.getD i false = true := by
    intro listed a w I hr i
    induction i using Nat.strongRecOn with
    | _ i ih =>
      intro hi
      rcases hb : listed.getD i false with _ | _
      · exfalso
        have : i ∈ Region.ready .any ops listed := by
          rw [mem_ready]
          refine ⟨?_, ops[i], Array.getElem?_eq_getElem hi, fun e he hbd => ih e.on (tied_edge htied (Array.getElem?_eq_getElem hi) he hbd) (Nat.lt_trans (tied_edge htied (Array.getElem?_eq_getElem hi) he hbd) hi)⟩
          have : i < listed.size := by rw [I.lsize]; exact hi
          simp [this] at hb ⊢
          exact hb
        rw [hr] at this
        cases this
      · rfl
  have hends : ∀ (listed : Array Bool) (a : Act) (w : World), Inv κ n B ops s p E ds a₀ w₀ listed a w -> Region.ready .any ops listed = [] -> Q .normal a w := by
    intro listed a w I hr
    have hall := hmin listed a w I hr
    have hp : p = ops.size := by
      rcases Nat.lt_or_ge p ops.size with h | h
      · have h1 := hall p h
        rw [I.high p (Nat.le_refl _)] at h1
        cases h1
      · omega
    exact hend hp a w I.grow (hst listed a w I fun i _ h => hall i h)
  intro fuel
  induction fuel with
  | zero =>
    intro listed a w hc I
    have hr : Region.ready .any ops listed = [] := by
      rcases hr : Region.ready .any ops listed with _ | ⟨i, l⟩
      · rfl
      · exfalso
        have hi : i ∈ Region.ready .any ops listed := by rw [hr]; exact List.mem_cons_self
        obtain ⟨hu, o, ho, _⟩ := mem_ready.1 hi
        have hpos : 0 < unlisted ops listed := List.countP_pos_iff.2 ⟨i, List.mem_range.2 (Array.getElem?_eq_some_iff.1 ho).1, by simp only [hu]; rfl⟩
        omega
    exact ⟨hr, hends listed a w I hr⟩
  | succ fuel ih =>
    intro listed a w hc I
    refine ⟨hends listed a w I, fun i hi => ?_⟩
    obtain ⟨hu, o, ho, hall⟩ := mem_ready.1 hi
    have hlt : i < ops.size := (Array.getElem?_eq_some_iff.1 ho).1
    have huf : listed.getD i false = false := by
      have : i < listed.size := by rw [I.lsize]; exact hlt
      simp [this] at hu ⊢
      exact hu
    have hsi : s <= i := by
      rcases Nat.lt_or_ge i s with h | h
      · rw [I.low i h hlt] at huf; cases huf
      · exact h
    have hready : ∀ o', ops[i]? = some o' -> ∀ e ∈ o'.after, Region.binds .any e = true -> listed.getD e.on false = true := fun o' ho' e he hb => by
      rw [ho] at ho'; injection ho' with ho'; subst ho'; exact hall e he hb
    rcases Nat.lt_or_ge i p with hip | hip
    case inr =>
      have hp : p < ops.size := by omega
      have hb := hbar.resolve_left (by omega)
      simp only [barrier, List.all_eq_true, List.mem_range, Bool.or_eq_true, beq_iff_eq] at hb
      have hmem : ∀ k l, l ∈ (Array.map List.eraseDups (befores ops)).getD k [] -> l ∈ (befores ops).getD k [] := fun k l h => by
        rw [Array.getD_eq_getD_getElem?, Array.getElem?_map] at h
        rw [Array.getD_eq_getD_getElem?]
        cases hk : (befores ops)[k]? with
        | none => rw [hk] at h; simp at h
        | some v => rw [hk] at h; simpa using h
      rcases Nat.lt_or_ge p i with hpi | hpi
      · exfalso
        have h1 := (hb i hlt).resolve_left (by omega)
        rw [if_neg (by omega)] at h1
        have h2 := I.befores htied i p hready (hmem i p (by simpa using h1))
        rw [I.high p (Nat.le_refl _)] at h2
        cases h2
      · obtain rfl : i = p := by omega
        have hlow : ∀ k, k < i -> k < ops.size -> listed.getD k false = true := fun k hk hk' => by
          have h1 := (hb k hk').resolve_left (by omega)
          rw [if_pos hk] at h1
          exact I.befores htied i k hready (hmem i k (by simpa using h1))
        refine hnext hlt fuel listed a w I.lsize (fun k hk => ?_) hc I.grow (hst listed a w I hlow)
        rcases Nat.lt_or_ge k i with h | h
        · rw [hlow k h hk]; simp [h]
        · rw [I.high k h]; simp; omega
    obtain ⟨t, d, Ei, hdst, hds, hgood, henv⟩ := ht.nth (i := i - s) (o := o) (hidx i o hsi hip ho)
    have hf := fits_mem hfits (o := o) (by simpa using Array.mem_of_getElem? ho)
    refine wpOpR_step ho fun K hK => good_wp I.base (fun t e hvt he => ?_) hdst hgood (fun r e hs he => ?_) (fun r hs => by rw [I.size]; exact hf.1 r hs) fun x w' g hx => hK _ _ (ih _ _ _ ?_ ?_)
    · have hnb := fits_base hfits
      rcases henv t e he with ⟨j, q, hji, hj, hpd, hpds⟩ | ⟨hno, hl⟩
      · obtain ⟨hj', _⟩ := hidx' j q hj
        have h9 : t < n := (fits_mem hfits (o := q) (by simpa using Array.mem_of_getElem? hj')).2 t hpd
        exact absurd (Nat.lt_of_lt_of_le h9 hnb) (Nat.not_lt.2 hvt)
      · have h1 := (h₀.virt hnb) t e hvt hl
        exact h1.grow I.grow
    · rcases henv r e he with ⟨j, q, hji, hj, hpd, hpds⟩ | ⟨hno, hl⟩
      · obtain ⟨hj', hjp⟩ := hidx' j q hj
        obtain ⟨ed, he1, hb, hon⟩ := ((tied_pair htied ho hj' hpd (by omega)).2 hs).1 (by omega)
        refine I.facts (s + j) q r e (by omega) hj' ?_ hpd (by rw [show s + j - s = j from by omega]; exact hpds)
        rw [<- hon]
        exact hall ed he1 hb
      · rw [I.frame r]
        · exact (h₀.of r e hl).grow I.grow
        · intro j q hsj hj hlist hpd
          by_cases hji : j = i
          · subst hji; rw [huf] at hlist; cases hlist
          · rcases Nat.lt_or_ge j i with h | h
            · exact hno (j - s) q (by omega) (hidx j q hsj (by omega) hj) hpd
            · obtain ⟨ed, he1, hb, hon⟩ := ((tied_pair htied ho hj hpd hji).2 hs).2 (by omega)
              have := I.closed j q hj hlist ed he1 hb
              rw [hon, huf] at this
              cases this
    · have : unlisted ops (listed.setIfInBounds i true) < unlisted ops listed := by
        refine countP_lt (x := i) (fun y hy => ?_) (List.mem_range.2 hlt) (by simp only [hu]; rfl) ?_
        · by_cases hyi : i = y
          · subst hyi
            have : i < listed.size := by rw [I.lsize]; exact hlt
            simp [this] at hy
          · rw [getD_set_ne true hyi] at hy; exact hy
        · have : i < listed.size := by rw [I.lsize]; exact hlt
          simp [this]
      omega
    · have hset : ∀ j, (listed.setIfInBounds i true).getD j false = true -> j = i ∨ listed.getD j false = true := fun j hj => by
        by_cases hji : i = j
        · exact .inl hji.symm
        · rw [getD_set_ne false hji] at hj; exact .inr hj
      refine ⟨I.grow.trans g, Nat.le_trans I.base g.size, by simp [I.lsize], fun j hj hj' => getD_set_true (I.low j hj hj'), fun j hj => ?_, I.defers, by simp [Act.put, I.size], ?_, ?_, ?_⟩
      · rw [getD_set_ne false (by omega)]; exact I.high j hj
      · intro j q hj hl e he hb
        rcases hset j hl with rfl | hl
        · rw [ho] at hj; injection hj with hj; subst hj
          exact getD_set_true (hall e he hb)
        · exact getD_set_true (I.closed j q hj hl e he hb)
      · intro j q r e hsj hj hl hpd hpds
        by_cases hji : j = i
        · subst hji
          rw [ho] at hj; injection hj with hj; subst hj
          rw [hdst] at hpd; injection hpd with hpd; subst hpd
          rw [hds] at hpds; injection hpds with hpds; subst hpds
          rw [getD_put_here _ _ (by rw [I.size]; exact hf.2 _ hdst)]
          exact hx
        · have hl' := (hset j hl).resolve_left hji
          have hne : t ≠ r := fun h => (tied_pair htied ho hj hpd hji).1 (by rw [hdst, h])
          rw [getD_put_past _ _ hne]
          exact (I.facts j q r e hsj hj hl' hpd hpds).grow g
      · intro r hs
        have hne : t ≠ r := fun h => hs i o hsi ho (by have : i < listed.size := by rw [I.lsize]; exact hlt
                                                       simp [this]) (by rw [hdst, h])
        rw [getD_put_past _ _ hne]
        refine I.frame r fun j q hsj hj hl => hs j q hsj hj (getD_set_true hl)
theorem start_inv {n s p:Nat} {E:Env} {ds:List D} {a:Act} {w:World} {listed:Array Bool} (hsp:s<=p) (htied:tied ops=true) (hls:listed.size=ops.size) (hl:∀ i,i<ops.size->listed.getD i false=decide (i<s)) (h:St κ n B E a w):Inv κ n B ops s p E ds a w listed a w:=by
 have hlt:∀ i,listed.getD i false=true->i<s:=fun i hi=>by
  rcases Nat.lt_or_ge i ops.size with h|h
  ·rw[hl i h] at hi; simpa using hi
  ·rw[Array.getD_eq_getD_getElem?,Array.getElem?_eq_none (by omega)] at hi; cases hi
 refine⟨Grow.refl w,h.base,hls,fun i hi h'=>by rw[hl i h']; simp[hi],fun i hi=>?_,h.defers,h.size,?_,?_,fun _ _=>rfl⟩
 ·rcases hb:listed.getD i false with _|_
  ·rfl
  ·have:=hlt i hb; omega
 ·intro i o ho hi e he hb
  have h1:=hlt i hi
  have h2:=tied_edge htied ho he hb
  have h3:=(Array.getElem?_eq_some_iff.1 ho).1
  rw[hl e.on (by omega)]
  simp; omega
 ·intro i o t d hsi ho hi
  have:=hlt i hi
  omega
theorem wp_anyT {n s:Nat} {C:Env->Prop} {E:Env} (htied:tied ops=true) (hfits:fits n ops=true) (hr:RunTK P n B ops true C s E):∀ (fuel:Nat) (listed:Array Bool) (a:Act) (w:World),s<=ops.size->listed.size=ops.size->(∀ i,i<ops.size->listed.getD i false=decide (i<s)) ->
  unlisted ops listed<=fuel->St κ n B E a w->(∀ E' a' w',C E'->Below B w w'->St κ n B E' a' w'->Q .normal a' w')->wpAnyIn (FR κ.rd) 0 P .any ops Q fuel listed a w:=by
 induction hr with
 | @last' s E E' hr hC =>
  intro fuel listed a w hs hls hl hfu h hQ
  obtain⟨ds,ht⟩:=hr.trace
  have ht':Trace P B ops ((ops.toList.drop s).take (ops.size-s)) E ds E':=by
   rw[List.take_of_length_le (by simp)]; exact ht
  exact wp_seg htied hfits hs (Nat.le_refl _) ht' h (.inl rfl) (fun _ a' w' g h'=>hQ E' a' w' hC (Below.mono g h.base) h') (fun hlt=>by omega) fuel listed a w hfu (start_inv hs htied hls hl h)
 | @effG s p o E E₁ ι G E₂ hsp ho hb hr he hrest ih =>
  intro fuel listed a w hs hls hl hfu h hQ
  have hb:=hb.resolve_left (by simp)
  have hp:p<ops.size:=(Array.getElem?_eq_some_iff.1 ho).1
  obtain⟨ds,ht⟩:=hr.trace
  refine wp_seg htied hfits hsp (by omega) ht h (.inr hb) (fun hp'=>by omega) (fun _ fuel' listed' a' w' hls' hl' hfu' g h'=>?_) fuel listed a w hfu (start_inv hsp htied hls hl h)
  refine wpOpR_step ho fun K hK=>he κ a' w' K Q h' fun j a'' w'' hj g' h''=>hK _ _ (ih j hj fuel' _ a'' w'' (by omega) (by simp[hls']) (fun i hi=>?_) ?_ h'' fun E' a3 w3 hC g3 h3=>hQ E' a3 w3 hC (((Below.mono g h.base).trans g').trans g3) h3)
  ·by_cases hpi:p=i
   ·subst hpi
    have:p<listed'.size:=by rw[hls']; exact hi
    simp[this]
   ·rw[getD_set_ne false hpi,hl' i hi]
    by_cases h1:i<p
    ·simp[h1]; omega
    ·simp[h1]; omega
  ·have hpl:p<listed'.size:=by rw[hls']; exact hp
   have:unlisted ops (listed'.setIfInBounds p true)<unlisted ops listed':=by
    refine countP_lt (x:=p) (fun y hy=>?_) (List.mem_range.2 hp) ?_ ?_
    ·by_cases hyi:p=y
     ·subst hyi
      simp[hpl] at hy
     ·rw[getD_set_ne true hyi] at hy; exact hy
    ·have:=hl' p hp
     simp[hpl] at this
     simp[hpl,this]
    ·simp[hpl]
   omega
theorem wp_regT {n id:Nat} {draw:Bool} {C:Env->Prop} {E:Env} {a:Act} {w:World} (hm:P.follows .mixedOrders=true) (hfits:fits n ops=true) (htied:draw=false∨tied ops=true) (h:St κ n B E a w) (hr:RunTK P n B ops draw C 0 E)
  (hQ:∀ E' a' w',C E'->Below B w w'->St κ n B E' a' w'->Q .normal a' w'):(Code.region id ops draw).wpIn (FR κ.rd) 0 P Q a w:=by
 cases draw with
 | false=>exact wpIn_region_list (by have:=wp_textT (Q:=Q) hfits hr h hQ; simpa using this)
 | true =>
  have htied:=htied.resolve_left (by simp)
  have hd:Below B w w.drew:=(Below.refl B w).drew
  refine wpIn_region_any hm (wp_anyT htied hfits hr _ _ _ _ (Nat.zero_le _) (by simp) (fun i hi=>by simp[hi]) ?_ (h.grow (Grow.refl w).drew) fun E' a' w' hC g h'=>hQ E' a' w' hC (hd.trans g) h')
  refine Nat.le_trans List.countP_le_length ?_
  simp
end
end
variable {P:Program} {n:Nat} {e:TypeId} {d:D} {xs:List Value} {w:World} {i:Nat} {b:Nat} {k:Nat} {B:Nat} {E:Env} {l:Nat} {j:Nat} {s:Nat} {ds:List D} {E':Env} {td:TypeDesc} {w₀:World} {ys:List Value} {dst:Option Tmp} {pos:String} {after:Array Edge} {guard:Option (Nat×Bool)} {ops:Array Oper} {ty:TypeId}
section
def Le (e d:D):Prop:=∀ B w x,e.OfB B w x->d.OfB B w x
theorem Le.refl(d:D): Le d d:=fun _ _ _ h=>h
theorem Le.trans{a b c:D}(h:Le a b)(k:Le b c): Le a c:=fun B w x hx=>k B w x (h B w x hx)
theorem Le.v{x y:Value}(h:x=y): Le (.v x) (.v y):=h▸Le.refl _
theorem Le.eq{e:D}(h:d=e): Le d e:=h▸Le.refl _
theorem Le.of{e:D}(h:Le e d){x:Value}(hx:e.Of w x): d.Of w x:=h _ _ _ hx
def old (B:Nat) (d:D):D:=.p (fun B' w x=>B<=B'∧d.OfB B w x) (fun _ _ _ _ g h=>⟨h.1,D.OfB.keep h.2 (g.mono h.1)⟩) (fun _ _ _ _ g h=>⟨Nat.le_trans h.1 g,h.2⟩)
theorem Le.old (B:Nat) (d:D):Le (old B d) d:=fun _ _ _ h=>D.OfB.up h.2 h.1
def Stays (B:Nat) (d:D):Prop:=∀ w w' x,Below B w w'->B<=w.heap.size->d.Of w x->d.Of w' x
theorem Stays.v(B:Nat)(x:Value): Stays B (.v x):=fun _ _ _ _ _ h=>h
theorem Stays.old(B:Nat)(d:D): Stays B (Go.Proofs.YtjigbkamgfidkaaGreatDoor.old B d):=fun _ _ _ g hb h=>⟨Nat.le_trans hb g.size,D.OfB.keep h.2 g⟩
def RowIn (B:Nat) (w:World) (A:Option Addr) (vs:List Value):Prop:=∀ (j:Nat) (u:Value),vs[j]?=some u->∃ ad,A=some ad∧ad.block<B∧w.cell? (ad.add j)=some u
theorem block_of_add(a:Addr)(n:Nat): (a.add n).block=a.block:=by unfold Addr.add; split<;>rfl
theorem add_of_add(a:Addr)(i j:Nat): (a.add i).add j=a.add (i+j):=by
 unfold Addr.add
 by_cases hi:i=0<;>by_cases hj:j=0<;>simp[hi,hj,Nat.add_assoc]
theorem RowIn.keep{w':World}{A:Option Addr}{vs:List Value}(h:RowIn B w A vs)(g:Below B w w'): RowIn B w' A vs:=fun j u hu=>by
 obtain⟨ad,h1,h2,h3⟩:=h j u hu
 exact⟨ad,h1,h2,(g.cell (p:=ad.add j) (by rw[block_of_add]; exact h2)).trans h3⟩
theorem RowIn.up{B':Nat}{A:Option Addr}{vs:List Value}(h:RowIn B w A vs)(g:B<=B'): RowIn B' w A vs:=fun j u hu=>by
 obtain⟨ad,h1,h2,h3⟩:=h j u hu
 exact⟨ad,h1,by omega,h3⟩
theorem RowIn.nil{A:Option Addr}: RowIn B w A []:=fun j u h=>by simp at h
theorem RowIn.cell{ad:Addr}{vs:List Value}(h:RowIn B w (some ad) vs): ∀ (j:Nat) (u:Value),vs[j]?=some u->w.cell? (ad.add j)=some u:=fun j u hu=>by
 obtain⟨ad',h1,_,h3⟩:=h j u hu
 injection h1 with h1; subst h1; exact h3
def ListF (ds:List D) (c B:Nat) (w:World) (x:Value):Prop :=
 ∃ (A:Option Addr) (vs:List Value),x = .slice A ds.length c∧ds.length<=c∧c<=maxLen∧vs.length=ds.length∧RowIn B w A vs∧∀ (j:Nat) (d:D) (u:Value),ds[j]?=some d->vs[j]?=some u->d.OfB B w u
theorem ListF.keep{c:Nat}{w':World}{x:Value}(g:Below B w w'): ListF ds c B w x->ListF ds c B w' x :=
 fun⟨A,vs,h1,h2,h3,h4,h5,h6⟩=>⟨A,vs,h1,h2,h3,h4,h5.keep g,fun j d u hd hu=>(h6 j d u hd hu).keep g⟩
theorem ListF.up{c B':Nat}{x:Value}(g:B<=B'): ListF ds c B w x->ListF ds c B' w x :=
 fun⟨A,vs,h1,h2,h3,h4,h5,h6⟩=>⟨A,vs,h1,h2,h3,h4,h5.up g,fun j d u hd hu=>(h6 j d u hd hu).up g⟩
def list (ds:List D) (c:Nat):D:=.p (ListF ds c) (fun _ _ _ _ g h=>h.keep g) (fun _ _ _ _ g h=>h.up g)
def byteV (b:UInt8):Value:=.int .u8 (b.toNat:Int)
def byteD (b:UInt8):D:=.v (byteV b)
def bytes (l:List UInt8) (c:Nat):D:=list (l.map byteD) c
def lst (ds:List D):D:=.p (fun B w x=>∃ c,ListF ds c B w x) (fun _ _ _ _ g ⟨c,h⟩=>⟨c,h.keep g⟩) (fun _ _ _ _ g ⟨c,h⟩=>⟨c,h.up g⟩)
def byt (l:List UInt8):D:=lst (l.map byteD)
theorem le_lst(ds:List D)(c:Nat): Le (list ds c) (lst ds):=fun _ _ _ h=>⟨c,h⟩
theorem le_byt(l:List UInt8)(c:Nat): Le (bytes l c) (byt l):=le_lst _ c
def ElemF (d:D) (B:Nat) (w:World) (x:Value):Prop:=∃ (ad:Addr) (u:Value),x = .pointer (some ad)∧ad.block<B∧w.cell? ad=some u∧d.OfB B w u
theorem ElemF.keep{w':World}{x:Value}(g:Below B w w'): ElemF d B w x->ElemF d B w' x:=fun⟨ad,u,h1,h2,h3,h4⟩=>⟨ad,u,h1,h2,(g.cell h2).trans h3,h4.keep g⟩
theorem ElemF.up{B':Nat}{x:Value}(g:B<=B'): ElemF d B w x->ElemF d B' w x:=fun⟨ad,u,h1,h2,h3,h4⟩=>⟨ad,u,h1,by omega,h3,h4.up g⟩
def elem (d:D):D:=.p (ElemF d) (fun _ _ _ _ g h=>h.keep g) (fun _ _ _ _ g h=>h.up g)
def TupF (ds:List D) (B:Nat) (w:World) (x:Value):Prop:=∃ xs:List Value,x = .tuple xs.toArray∧xs.length=ds.length∧∀ (j:Nat) (d:D) (u:Value),ds[j]?=some d->xs[j]?=some u->d.OfB B w u
theorem TupF.keep{w':World}{x:Value}(g:Below B w w'): TupF ds B w x->TupF ds B w' x:=fun⟨xs,h1,h2,h3⟩=>⟨xs,h1,h2,fun j d u hd hu=>(h3 j d u hd hu).keep g⟩
theorem TupF.up{B':Nat}{x:Value}(g:B<=B'): TupF ds B w x->TupF ds B' w x:=fun⟨xs,h1,h2,h3⟩=>⟨xs,h1,h2,fun j d u hd hu=>(h3 j d u hd hu).up g⟩
def tup (ds:List D):D:=.p (TupF ds) (fun _ _ _ _ g h=>h.keep g) (fun _ _ _ _ g h=>h.up g)
def blk (b:Nat) (e:TypeId) (xs:List Value):D :=
 .p (fun B w _=>b<B∧w.heap[b]?=some (.cells xs.toArray e (0,0))) (fun _ _ _ _ g h=>⟨h.1,(g.block b h.1).trans h.2⟩) (fun _ _ _ _ g h=>⟨by omega,h.2⟩)
def fresh (base:Nat) (e:TypeId) (xs:List Value) (n:Nat):D :=
 .p (fun B w x=>∃ b,x = .slice (some ⟨b,0,none⟩) n xs.length∧base<=b∧b<B∧w.heap[b]?=some (.cells xs.toArray e (0,0)))
  (fun _ _ _ _ g ⟨b,h1,h2,h3,h4⟩=>⟨b,h1,h2,h3,(g.block b h3).trans h4⟩) (fun _ _ _ _ g ⟨b,h1,h2,h3,h4⟩=>⟨b,h1,h2,by omega,h4⟩)
def own (base:Nat) (e:TypeId) (n:Nat) (xs:List Value):D :=
 .p (fun B w x=>w.ownsRow base e 1 x n xs∧∀ g,x.ownBlock=some g->g<B)
  (fun B w w' x g ⟨h1,h2⟩=>⟨by
   obtain⟨h3,h4⟩:=h1
   refine⟨h3,h4.imp id ?_⟩
   rintro ⟨k,cap,cur,rfl,hk,hh,hr⟩
   exact⟨k,cap,cur,rfl,hk,(g.block k (h2 k (by simp[Value.ownBlock]))).trans hh,hr⟩,h2⟩)
  (fun _ _ _ _ g ⟨h1,h2⟩=>⟨h1,fun k hk=>Nat.lt_of_lt_of_le (h2 k hk) g⟩)
def str (l:List UInt8):D:=.v (.string ⟨l.toArray⟩)
theorem byt_nil_le: Le (.v (.slice none 0 0)) (byt []):=fun B w x h=>⟨0,none,[],by simpa [D.OfB] using h,Nat.zero_le _,Nat.zero_le _,rfl,RowIn.nil,fun j d u hd=>by simp at hd⟩
theorem lst_nil_le: Le (.v (.slice none 0 0)) (lst []):=byt_nil_le
theorem bytes_nil_le: Le (.v (.slice none 0 0)) (bytes [] 0):=fun B w x h=>⟨none,[],by simpa [D.OfB] using h,Nat.zero_le _,Nat.zero_le _,rfl,RowIn.nil,fun j d u hd=>by simp at hd⟩
theorem list_nil_le: Le (.v (.slice none 0 0)) (list [] 0):=fun B w x h=>⟨none,[],by simpa [D.OfB] using h,Nat.zero_le _,Nat.zero_le _,rfl,RowIn.nil,fun j d u hd=>by simp at hd⟩
theorem list_le{es:List D}{c:Nat}(hl:ds.length=es.length)(h:∀ (j:Nat) (d e:D),ds[j]?=some d->es[j]?=some e->Le d e): Le (list ds c) (list es c):=by
 rintro B w x ⟨A,vs,rfl,h2,h3,h4,h5,h6⟩
 refine⟨A,vs,by rw[hl],by omega,h3,by omega,h5,fun j e u he hu=>?_⟩
 have hj:j<ds.length:=by have:=(List.getElem?_eq_some_iff.1 he).1; omega
 exact h j ds[j] e (List.getElem?_eq_getElem hj) he B w u (h6 j _ u (List.getElem?_eq_getElem hj) hu)
theorem bytes_open{l:List UInt8}{c:Nat}{x:Value}(h:(bytes l c).OfB B w x): ∃ A,x = .slice A l.length c∧l.length<=c∧c<=maxLen∧RowIn B w A (l.map byteV):=by
 obtain⟨A,vs,h1,h2,h3,h4,h5,h6⟩:=h
 simp only[List.length_map] at h1 h2 h4
 refine⟨A,h1,h2,h3,?_⟩
 have:vs=l.map byteV:=by
  apply List.ext_getElem?
  intro j
  rcases Nat.lt_or_ge j l.length with hj|hj
  ·have hu:vs[j]?=some vs[j]:=List.getElem?_eq_getElem (by omega)
   have:=h6 j (byteD l[j]) vs[j] (by simp[hj]) hu
   rw[hu,this]; simp[hj]
  ·rw[List.getElem?_eq_none (by omega),List.getElem?_eq_none (by simpa using hj)]
 rw[<- this]; exact h5
theorem bytes_mk{l:List UInt8}{c:Nat}{A:Option Addr}(h1:l.length<=c)(h2:c<=maxLen)(h:RowIn B w A (l.map byteV)): (bytes l c).OfB B w (.slice A l.length c) :=
 ⟨A,l.map byteV,by simp,by simpa using h1,h2,by simp,h,fun j d u hd hu=>by
  simp only[List.getElem?_map] at hd hu
  cases hj:l[j]? with
  | none=>rw[hj] at hd; cases hd
  | some b=>rw[hj] at hd hu; simp at hd hu; subst hd; subst hu; rfl⟩
theorem blk_row(hb:b<B)(h:w.heap[b]?=some (.cells xs.toArray e (0,0)))(n:Nat): RowIn B w (some ⟨b,0,none⟩) (xs.take n):=fun j u hu=>by
 refine⟨_,rfl,hb,?_⟩
 rw[List.getElem?_take] at hu
 split at hu
 ·have:(⟨b,0,none⟩:Addr).add j=⟨b,j,none⟩:=by unfold Addr.add; split<;>simp_all
  rw[this]
  simp[World.cell?,h,hu]
 ·cases hu
def InfoIs (P:Program) (e:TypeId) (z:Value) (nb:Nat):Prop:=(P.info? e).map (fun i=>(i.zero,i.size,i.bytes))=some (some z,1,nb)
theorem InfoIs.get{z:Value}{nb:Nat}(h:InfoIs P e z nb): ∃ i,P.info? e=some i∧i.zero=some z∧i.size=1∧i.bytes=nb:=by
 unfold InfoIs at h
 cases hi:P.info? e with
 | none=>rw[hi] at h; cases h
 | some i=>rw[hi] at h; simp only[Option.map_some,Option.some.injEq,Prod.mk.injEq] at h; exact⟨i,rfl,h.1,h.2.1,h.2.2⟩
section
variable {P:Program} {B:Nat} {E:Env} {dst:Option Tmp} {ty:TypeId} {pos:String} {after:Array Edge} {guard:Option (Nat×Bool)}
theorem out_val{o:Oper}{ρ:Operand->Value}{K:Value->World->Prop}{x:Value}{w':World}(h:(execOp ρ o).run P w = .ok (.value x) w')(hK:K x w'): Out P o ρ w K:=by
 unfold Out; rw[h]; exact hK
theorem OpOk.le{o:Oper}{d':D}(h:OpOk P B o E d)(hd:Le d d'): OpOk P B o E d':=fun ρ w hB hv hρ=>(h ρ w hB hv hρ).mono fun _ _ hx=>⟨hx.1,hd.of hx.2⟩
theorem ok_move{x:Operand}(h:E.at x=some d): OpOk P B ⟨dst,.move x,ty,pos,after,guard⟩ E d:=fun ρ w _ _ hρ =>
 out_val (by simp[execOp]) ⟨Grow.refl w,hρ x (by simp[Op.operands]) d h⟩
theorem ok_assign{x:Operand}(h:E.at x=some d): OpOk P B ⟨dst,.assign x,ty,pos,after,guard⟩ E d:=fun ρ w _ _ hρ =>
 out_val (by simp[execOp]) ⟨Grow.refl w,hρ x (by simp[Op.operands]) d h⟩
theorem ok_pick{c x y:Operand}{b:Bool}(hc:E.at c=some (.v (.bool b)))(h:E.at (cond b x y)=some d): OpOk P B ⟨dst,.pick c x y,ty,pos,after,guard⟩ E d:=fun ρ w _ _ hρ=>by
 have h1:ρ c = .bool b:=hρ c (by simp[Op.operands]) _ hc
 refine out_val (x:=ρ (cond b x y)) (w':=w) (by simp[execOp,h1,asBool]; cases b<;>rfl) ⟨Grow.refl w,hρ _ ?_ d h⟩
 cases b<;>simp[Op.operands]
def binV (op:BinOp) (x y:Value):Option Value :=
 match op,x,y with
 | .add,.int k a,.int k' b=>if k=k' then some (.int k (k.wrap (a+b))) else none
 | .sub,.int k a,.int k' b=>if k=k' then some (.int k (k.wrap (a-b))) else none
 | .mul,.int k a,.int k' b=>if k=k' then some (.int k (k.wrap (a*b))) else none
 | .eql,.int k a,.int k' b=>if k=k' then some (.bool (a==b)) else none
 | .neq,.int k a,.int k' b=>if k=k' then some (.bool (a != b)) else none
 | .lss,.int k a,.int k' b=>if k=k' then some (.bool (decide (a<b))) else none
 | .leq,.int k a,.int k' b=>if k=k' then some (.bool (decide (a<=b))) else none
 | .gtr,.int k a,.int k' b=>if k=k' then some (.bool (decide (a > b))) else none
 | .geq,.int k a,.int k' b=>if k=k' then some (.bool (decide (a >= b))) else none
 | .and,.int k a,.int k' b=>if k=k' then some (.int k (k.wrap (BitVec.ofInt k.bits a &&& BitVec.ofInt k.bits b).toNat)) else none
 | .or,.int k a,.int k' b=>if k=k' then some (.int k (k.wrap (BitVec.ofInt k.bits a ||| BitVec.ofInt k.bits b).toNat)) else none
 | .xor,.int k a,.int k' b=>if k=k' then some (.int k (k.wrap (BitVec.ofInt k.bits a ^^^ BitVec.ofInt k.bits b).toNat)) else none
 | .andNot,.int k a,.int k' b=>if k=k' then some (.int k (k.wrap (BitVec.ofInt k.bits a &&& ~~~ BitVec.ofInt k.bits b).toNat)) else none
 | .eql,.string a,.string b=>some (.bool (a.toList==b.toList))
 | .neq,.string a,.string b=>some (.bool (!(a.toList==b.toList)))
 | .lss,.string a,.string b=>some (.bool (Op.bytesLess a.toList b.toList))
 | _,_,_=>none
theorem binV_run{op:BinOp}{x y c:Value}(h:binV op x y=some c)(t:TypeId)(w:World): (binOp op t x y).run P w = .ok c w:=by
  unfold binV at h
  split at h<;>first
    | (cases h; done)
    | (split at h
       · rename_i hk; subst hk; injection h with h; subst h
         simp[binOp,Op.intArith,Op.intCmp,Op.intBits]
       · cases h)
    | (injection h with h; subst h; simp[binOp,Op.stringOp])
theorem eqGuard_scalar{op:BinOp}{a b:Value}(h:∃ c,binV op a b=some c)(t:TypeId)(x y:Operand)(w:World): (eqGuard op t x y a b).run P w = .ok () w:=by
 obtain⟨c,h⟩:=h
 unfold binV at h
 split at h<;>first
  | (cases h; done)
  | (simp[eqGuard]; done)
theorem ok_bin{op:BinOp}{t t':TypeId}{x y:Operand}{a b c:Value}(hx:E.at x=some (.v a))(hy:E.at y=some (.v b))(h:binV op a b=some c): OpOk P B ⟨dst,.binOp op t x y t',ty,pos,after,guard⟩ E (.v c):=fun ρ w _ _ hρ=>by
 have h1:ρ x=a:=hρ x (by simp[Op.operands]) _ hx
 have h2:ρ y=b:=hρ y (by simp[Op.operands]) _ hy
 exact out_val (x:=c) (w':=w) (by simp[execOp,h1,h2,eqGuard_scalar ⟨c,h⟩,binV_run h]) ⟨Grow.refl w,rfl⟩
theorem ok_div{t t':TypeId}{x y:Operand}{k:IntKind}{a b:Int}(hx:E.at x=some (.v (.int k a)))(hy:E.at y=some (.v (.int k b)))(h:b≠0): OpOk P B ⟨dst,.binOp .quo t x y t',ty,pos,after,guard⟩ E (.v (.int k (k.wrap (a.tdiv b)))):=fun ρ w _ _ hρ=>by
 have h1:=hρ x (by simp[Op.operands]) _ hx
 have h2:=hρ y (by simp[Op.operands]) _ hy
 exact out_val (w':=w) (by simp[execOp,(show ρ x=_ from h1),(show ρ y=_ from h2),eqGuard,binOp,Op.intDiv,h]) ⟨Grow.refl w,rfl⟩
theorem ok_rem{t t':TypeId}{x y:Operand}{k:IntKind}{a b:Int}(hx:E.at x=some (.v (.int k a)))(hy:E.at y=some (.v (.int k b)))(h:b≠0): OpOk P B ⟨dst,.binOp .rem t x y t',ty,pos,after,guard⟩ E (.v (.int k (a.tmod b))):=fun ρ w _ _ hρ=>by
 have h1:=hρ x (by simp[Op.operands]) _ hx
 have h2:=hρ y (by simp[Op.operands]) _ hy
 exact out_val (w':=w) (by simp[execOp,(show ρ x=_ from h1),(show ρ y=_ from h2),eqGuard,binOp,Op.intDiv,h]) ⟨Grow.refl w,rfl⟩
theorem ok_shl{t t':TypeId}{x y:Operand}{k k':IntKind}{a b:Int}(hx:E.at x=some (.v (.int k a)))(hy:E.at y=some (.v (.int k' b)))(h:0<=b): OpOk P B ⟨dst,.binOp .shl t x y t',ty,pos,after,guard⟩ E (.v (.int k (k.wrap (a*2^min b.toNat k.bits)))):=fun ρ w _ _ hρ=>by
 have h1:=hρ x (by simp[Op.operands]) _ hx
 have h2:=hρ y (by simp[Op.operands]) _ hy
 exact out_val (w':=w) (by simp[execOp,(show ρ x=_ from h1),(show ρ y=_ from h2),eqGuard,binOp,Op.shift,show ¬ b<0 from by omega]) ⟨Grow.refl w,rfl⟩
theorem ok_shr{t t':TypeId}{x y:Operand}{k k':IntKind}{a b:Int}(hx:E.at x=some (.v (.int k a)))(hy:E.at y=some (.v (.int k' b)))(h:0<=b): OpOk P B ⟨dst,.binOp .shr t x y t',ty,pos,after,guard⟩ E (.v (.int k (a.fdiv (2^min b.toNat k.bits)))):=fun ρ w _ _ hρ=>by
 have h1:=hρ x (by simp[Op.operands]) _ hx
 have h2:=hρ y (by simp[Op.operands]) _ hy
 exact out_val (w':=w) (by simp[execOp,(show ρ x=_ from h1),(show ρ y=_ from h2),eqGuard,binOp,Op.shift,show ¬ b<0 from by omega]) ⟨Grow.refl w,rfl⟩
theorem ok_not{t:TypeId}{x:Operand}{a:Bool}(hx:E.at x=some (.v (.bool a))): OpOk P B ⟨dst,.unOp .not t x,ty,pos,after,guard⟩ E (.v (.bool (!a))):=fun ρ w _ _ hρ=>by
 have h1:=hρ x (by simp[Op.operands]) _ hx
 exact out_val (w':=w) (by simp[execOp,(show ρ x=_ from h1),Op.unary]) ⟨Grow.refl w,rfl⟩
theorem ok_neg{t:TypeId}{x:Operand}{k:IntKind}{a:Int}(hx:E.at x=some (.v (.int k a))): OpOk P B ⟨dst,.unOp .neg t x,ty,pos,after,guard⟩ E (.v (.int k (k.wrap (0-a)))):=fun ρ w _ _ hρ=>by
 have h1:=hρ x (by simp[Op.operands]) _ hx
 exact out_val (w':=w) (by simp[execOp,(show ρ x=_ from h1),Op.unary,Op.intArith]) ⟨Grow.refl w,rfl⟩
theorem ok_conv{s t:TypeId}{x:Operand}{k k':IntKind}{a:Int}(hs:P.underlying s=some (.int k'))(ht:P.underlying t=some (.int k))(hx:E.at x=some (.v (.int k' a))): OpOk P B ⟨dst,.convert s t x,ty,pos,after,guard⟩ E (.v (.int k (k.wrap a))):=fun ρ w _ _ hρ=>by
 have h1:=hρ x (by simp[Op.operands]) _ hx
 exact out_val (w':=w) (by simp[execOp,(show ρ x=_ from h1),convert,run_underlying hs,run_underlying ht,Conv.intToInt]) ⟨Grow.refl w,rfl⟩
theorem run_bytes_string{s t:TypeId}(hs:P.underlying s=some (.slice e))(he:P.underlying e=some (.int .u8))(ht:P.underlying t=some .string){l:List UInt8}{x:Value}(h:(byt l).Of w x):
  (convert s t x).run P w = .ok (.string ⟨l.toArray⟩) w:=by
 obtain⟨c,h⟩:=h
 obtain⟨A,rfl,_,_,hr⟩:=bytes_open (l:=l) h
 rw[run_convert_bytes_string w s t e A _ _ hs he ht]
 have hfold:∀ (l:List UInt8) (r:ByteArray),(l.map fun b=>(b.toNat:Int)).foldl (fun r n=>r.push (UInt8.ofNat n.toNat)) r=⟨r.data++l.toArray⟩:=by
  intro l
  induction l with
  | nil=>intro r; simp
  | cons b l ih =>
   intro r
   simp only[List.map_cons,List.foldl_cons,ih]
   congr 1
   simp[ByteArray.push]
 cases A with
 | none =>
  have:l=[]:=by
   cases l with
   | nil=>rfl
   | cons b l=>obtain⟨ad,h,_⟩:=hr 0 (byteV b) rfl; cases h
  subst this
  simp[Conv.bytesToString]; rfl
 | some ad =>
  have hb:l.map byteV=(l.map fun b=>(b.toNat:Int)).map (Value.int .u8):=by simp[byteV,Function.comp_def]
  have hc:=run_loadCells_list (P:=P) w ad (l.map byteV) hr.cell
  rw[List.length_map] at hc
  rw[run_bytesToString w ad l.length c (l.map fun b=>(b.toNat:Int)) (by rw[hc,hb])]
  rw[hfold l ByteArray.empty]
  congr 3
  simp[ByteArray.empty,ByteArray.emptyWithCapacity]
  rfl
theorem ok_str{s t:TypeId}{x:Operand}{f:D}{l:List UInt8}(hs:P.underlying s=some (.slice e))(he:P.underlying e=some (.int .u8))(ht:P.underlying t=some .string)(hx:E.at x=some f)(hf:Le f (byt l)):
  OpOk P B ⟨dst,.convert s t x,ty,pos,after,guard⟩ E (str l):=fun ρ w _ _ hρ=>by
 have h1:=hf.of (hρ x (by simp[Op.operands]) _ hx)
 exact out_val (w':=w) (by simp[execOp,run_bytes_string hs he ht h1]) ⟨Grow.refl w,rfl⟩
theorem ok_len{t:TypeId}{x:Operand}{f:D}(ht:P.underlying t=some (.slice e))(hx:E.at x=some f)(hf:Le f (lst ds)):
  OpOk P B ⟨dst,.call { callee:=.builtin .len,args:=#[x],argTypes:=#[t] },ty,pos,after,guard⟩ E (.v (.int .i64 (ds.length:Int))):=fun ρ w _ _ hρ=>by
 obtain⟨c,A,vs,h1,_⟩:=hf.of (hρ x (by simp[Op.operands,Call.operands]) _ hx)
 exact out_val (w':=w) (by simp[execOp,resolve,invoke,builtin,Builtin.len_,run_underlying ht,h1,goInt]) ⟨Grow.refl w,rfl⟩
theorem ok_lenB{t:TypeId}{x:Operand}{f:D}{l:List UInt8}(ht:P.underlying t=some (.slice e))(hx:E.at x=some f)(hf:Le f (byt l)):
  OpOk P B ⟨dst,.call { callee:=.builtin .len,args:=#[x],argTypes:=#[t] },ty,pos,after,guard⟩ E (.v (.int .i64 (l.length:Int))):=by
 have:=ok_len (P:=P) (B:=B) (dst:=dst) (ty:=ty) (pos:=pos) (after:=after) (guard:=guard) ht hx hf
 simpa using this
theorem ok_lenV{t:TypeId}{x:Operand}{A:Option Addr}{c:Nat}(ht:P.underlying t=some (.slice e))(hx:E.at x=some (.v (.slice A n c))):
  OpOk P B ⟨dst,.call { callee:=.builtin .len,args:=#[x],argTypes:=#[t] },ty,pos,after,guard⟩ E (.v (.int .i64 (n:Int))):=fun ρ w _ _ hρ=>by
 have h1:ρ x = .slice A n c:=hρ x (by simp[Op.operands,Call.operands]) _ hx
 exact out_val (w':=w) (by simp[execOp,resolve,invoke,builtin,Builtin.len_,run_underlying ht,h1,goInt]) ⟨Grow.refl w,rfl⟩
theorem ok_extract{x:Operand}(hx:E.at x=some (tup ds))(hi:ds[i]?=some d): OpOk P B ⟨dst,.extract x i,ty,pos,after,guard⟩ E d:=fun ρ w _ _ hρ=>by
 obtain⟨xs,h1,h2,h3⟩:=hρ x (by simp[Op.operands]) _ hx
 have hlt:i<xs.length:=by have:=(List.getElem?_eq_some_iff.1 hi).1; omega
 have hu:xs[i]?=some xs[i]:=List.getElem?_eq_getElem hlt
 exact out_val (x:=xs[i]) (w':=w) (by simp[execOp,h1,Instr.extract,hu]) ⟨Grow.refl w,h3 i d _ hi hu⟩
theorem ok_index{t:TypeId}{z:Value}{nb:Nat}{x i:Operand}{f:D}{k:IntKind}{j:Int}(ht:P.underlying t=some (.slice e))(hs:InfoIs P e z nb)(hx:E.at x=some f)(hf:Le f (lst ds))(hi:E.at i=some (.v (.int k j)))
  (h0:0<=j)(hd:ds[j.toNat]?=some d): OpOk P B ⟨dst,.indexAddr t x i,ty,pos,after,guard⟩ E (elem d):=fun ρ w _ _ hρ=>by
 obtain⟨c,A,vs,h1,h2,h3,h4,h5,h6⟩:=hf.of (hρ x (by simp[Op.operands]) _ hx)
 have hi':ρ i = .int k j:=hρ i (by simp[Op.operands]) _ hi
 have hlt:j.toNat<ds.length:=(List.getElem?_eq_some_iff.1 hd).1
 have hu:vs[j.toNat]?=some vs[j.toNat]:=List.getElem?_eq_getElem (by omega)
 obtain⟨ad,rfl,hb,hc⟩:=h5 _ _ hu
 obtain⟨info,hinfo,_,hsize,_⟩:=hs.get
 refine out_val (x:=.pointer (some (ad.add j.toNat))) (w':=w) ?_ ⟨Grow.refl w,ad.add j.toNat,_,rfl,by rw[block_of_add]; exact hb,hc,h6 _ _ _ hd hu⟩
 have hb1:0<=j∧j<(ds.length:Int):=by omega
 simp[execOp,h1,hi',Instr.indexAt,asIntOf,run_underlying ht,sizeOf,typeInfo,hinfo,hsize,hb1]
def plainTD:TypeDesc->Bool
 | .struct _ | .array _ _=>false
 | _=>true
theorem run_load_plain{t:TypeId}(ht:P.underlying t=some td)(hp:plainTD td=true){ad:Addr}{u:Value}(hc:w.cell? ad=some u): (Instr.loadAt t (.pointer (some ad))).run P w = .ok u w:=by
 have:(isAgg t).run P w = .ok false w:=by
  unfold isAgg
  simp only[Sem.run_bind,run_underlying ht,Result.andThen_ok]
  cases td<;>simp_all [plainTD]
 simp[Instr.loadAt,Instr.sureAddr,loadVar,this,run_load,hc]
theorem ok_load{t:TypeId}{x:Operand}(ht:P.underlying t=some td)(hp:plainTD td=true)(hx:E.at x=some (elem d)): OpOk P B ⟨dst,.load t x,ty,pos,after,guard⟩ E d:=fun ρ w _ _ hρ=>by
 obtain⟨ad,u,h1,h2,h3,h4⟩:=hρ x (by simp[Op.operands]) _ hx
 exact out_val (x:=u) (w':=w) (by simp[execOp,h1,run_load_plain ht hp h3]) ⟨Grow.refl w,h4⟩
theorem ok_indexV{t:TypeId}{z:Value}{nb:Nat}{x i:Operand}{o c:Nat}{k:IntKind}{j:Int}(m:Nat)(ht:P.underlying t=some (.slice e))(hs:InfoIs P e z nb)(hx:E.at x=some (.v (.slice (some ⟨b,o,none⟩) n c)))(hi:E.at i=some (.v (.int k j)))
  (h0:j=(m:Int))(hn:m<n): OpOk P B ⟨dst,.indexAddr t x i,ty,pos,after,guard⟩ E (.v (.pointer (some ⟨b,o+m,none⟩))):=fun ρ w _ _ hρ=>by
 have h1:ρ x=_:=hρ x (by simp[Op.operands]) _ hx
 have hi':ρ i = .int k j:=hρ i (by simp[Op.operands]) _ hi
 obtain⟨info,hinfo,_,hsize,_⟩:=hs.get
 refine out_val (w':=w) ?_ ⟨Grow.refl w,rfl⟩
 subst h0
 have hadd:(⟨b,o,none⟩:Addr).add m=⟨b,o+m,none⟩:=by unfold Addr.add; split<;>simp_all
 simp[execOp,h1,hi',Instr.indexAt,asIntOf,run_underlying ht,sizeOf,typeInfo,hinfo,hsize,hadd]
 intro hle
 omega
theorem ok_loadV{t:TypeId}{x:Operand}{o:Nat}{u:Value}(hsl:vbase<=s)(ht:P.underlying t=some td)(hp:plainTD td=true)(hx:E.at x=some (.v (.pointer (some ⟨b,o,none⟩))))(hblk:E.look s=some (blk b e xs))(hu:xs[o]?=some u):
  OpOk P B ⟨dst,.load t x,ty,pos,after,guard⟩ E (.v u):=fun ρ w _ hv hρ=>by
 have h1:ρ x=_:=hρ x (by simp[Op.operands]) _ hx
 obtain⟨_,hh⟩:=hv s _ hsl hblk
 have hc:w.cell? ⟨b,o,none⟩=some u:=by simp[World.cell?,hh,hu]
 exact out_val (x:=u) (w':=w) (by simp[execOp,h1,run_load_plain ht hp hc]) ⟨Grow.refl w,rfl⟩
theorem ok_make{t:TypeId}{x y:Operand}{z:Value}{nb:Nat}{k k':IntKind}{n m:Int}(c:Nat)(ht:P.underlying t=some (.slice e))(hinfo:InfoIs P e z nb)(hnb:nb<=64)(hz1:z.cells=#[z])
  (hx:E.at x=some (.v (.int k n)))(hy:E.at y=some (.v (.int k' m)))(hn:n=(c:Int))(hm:m=(c:Int))(hc:c<=4398046511104):
  OpOk P B ⟨dst,.makeSlice t x y,ty,pos,after,guard⟩ E (fresh B e (List.replicate c z) c):=fun ρ w hB _ hρ=>by
 obtain⟨i,hi,hz,hs,hb⟩:=hinfo.get
 have h1:ρ x=_:=hρ x (by simp[Op.operands]) _ hx
 have h2:ρ y=_:=hρ y (by simp[Op.operands]) _ hy
 subst hn; subst hm
 have hbc:i.bytes*c<=64*c:=Nat.mul_le_mul_right c (by omega)
 have hr:=run_make (P:=P) w t e i z ht hi hz k k' (c:Int) (c:Int) (by omega) (by omega) (by rw[<- Int.natCast_mul]; omega) (by omega)
 refine out_val (x:=.slice (some ⟨w.heap.size,0,none⟩) c c) (w':=w.alloc (.cells (madeCells z.cells (c*i.size)) e)) ?_ ⟨Grow.alloc w _,w.heap.size,by simp,hB,by simp,?_⟩
 ·simp only[execOp,h1,h2,Sem.run_bind,hr,Result.andThen_ok,Sem.run_pure,Int.toNat_natCast]
 ·have:madeCells z.cells (c*i.size)=(List.replicate c z).toArray:=by
   rw[hs,hz1,Nat.mul_one]
   apply Array.ext
   ·simp[madeCells]
   ·intro j h1 h2; simp[madeCells,Nat.mod_one]
  rw[this]
  exact heap_alloc_new w _
def Parts (E:Env) (vs:List D) (ps:List (Nat×Operand)) (k:Nat):Prop :=
 match vs,ps with
 | [],[]=>True
 | d::vs,(i,x)::ps=>i=k∧E.at x=some d∧Parts E vs ps (k+1)
 | _,_=>False
theorem Parts.length{vs:List D}{ps:List (Nat×Operand)}(h:Parts E vs ps k): vs.length=ps.length:=by
 induction vs generalizing ps k with
 | nil=>cases ps<;>simp_all [Parts]
 | cons d vs ih =>
  cases ps with
  | nil=>simp[Parts] at h
  | cons p ps=>obtain⟨i,x⟩:=p; simp[ih h.2.2]
theorem Parts.nth{vs:List D}{ps:List (Nat×Operand)}(h:Parts E vs ps k): ∀ {j:Nat} {d:D},vs[j]?=some d->∃ x,ps[j]?=some (k+j,x)∧E.at x=some d:=by
 induction vs generalizing ps k with
 | nil=>intro j d hj; simp at hj
 | cons d0 vs ih =>
  cases ps with
  | nil=>simp[Parts] at h
  | cons p ps =>
   obtain⟨i,x⟩:=p
   obtain⟨rfl,h1,h2⟩:=h
   intro j d hj
   cases j with
   | zero=>simp at hj; subst hj; exact⟨x,by simp,h1⟩
   | succ j =>
    obtain⟨y,h3,h4⟩:=ih h2 (by simpa using hj)
    exact⟨y,by rw[List.getElem?_cons_succ,h3]; congr 2; omega,h4⟩
theorem fill_dense: ∀ (us:List Value) (pre suf:List Value) (k:Nat),(∀ u∈us,u.oneCell'=true)->pre.length=k->us.length<=suf.length ->
  Instr.fill (fun i=>some (i*1,1)) (pre++suf).toArray ((us.zipIdx k).map fun x=>(x.2,x.1))=some (pre++us++suf.drop us.length).toArray:=by
 intro us
 induction us with
 | nil=>intro pre suf k _ _ _; simp[Instr.fill]
 | cons u us ih =>
  intro pre suf k h1 hk hl
  have hu:u.cells=#[u]:=by
   have:=h1 u List.mem_cons_self
   cases u<;>simp_all [Value.oneCell',Value.cells]
  cases suf with
  | nil=>simp at hl
  | cons s suf =>
   have hset:(pre++s::suf).toArray.setIfInBounds k u=(pre++[u]++suf).toArray:=by
    apply Array.ext'
    simp[hk]
   simp only[List.zipIdx_cons,List.map_cons,Instr.fill,hu]
   rw[if_neg (by simp; omega)]
   have:=ih (pre++[u]) suf (k+1) (fun v hv=>h1 v (List.mem_cons_of_mem _ hv)) (by simp[hk]) (by simpa using hl)
   simp only[Nat.mul_one] at this ⊢
   simp at hset ⊢
   rw[hset]
   simpa using this
theorem ok_build{t:TypeId}{ps:Array (Nat×Operand)}{z:Value}{nb:Nat}(ds:List D)(ht:P.underlying t=some (.slice e))(hinfo:InfoIs P e z nb)(hz1:z.cells=#[z])
  (hn:0<n)(hn':n<=65536)(hl:ds.length=n)(hp:Parts E ds ps.toList 0)(h1:∀ d∈ds,∀ w x,d.Of w x->x.oneCell'=true):
  OpOk P B ⟨dst,.buildSlice t n ps,ty,pos,after,guard⟩ E (list ds n):=fun ρ w _ _ hρ=>by
 obtain⟨i,hi,hz,hs,_⟩:=hinfo.get
 let us:List Value:=ps.toList.map fun p=>ρ p.2
 have hul:us.length=n:=by simp only[us,List.length_map]; rw[<- hp.length,hl]
 have hof:∀ (j:Nat) (d:D),ds[j]?=some d->∃ u,us[j]?=some u∧d.Of w u:=fun j d hd=>by
  obtain⟨x,hx,he⟩:=hp.nth hd
  refine⟨ρ x,by simp only[us,List.getElem?_map,hx]; rfl,hρ x ?_ d he⟩
  simp only[Op.operands,List.mem_toArray,List.mem_map]
  exact⟨_,List.mem_of_getElem? hx,rfl⟩
 have hus:∀ u∈us,u.oneCell'=true:=fun u hu=>by
  obtain⟨j,hj⟩:=List.mem_iff_getElem?.1 hu
  have hlt:j<ds.length:=by have:=(List.getElem?_eq_some_iff.1 hj).1; omega
  obtain⟨u',hu',hd⟩:=hof j ds[j] (List.getElem?_eq_getElem hlt)
  rw[hj] at hu'; injection hu' with hu'; subst hu'
  exact h1 _ (List.getElem_mem hlt) w u hd
 have hparts:(ps.map fun(i,x)=>(i,ρ x)).toList=(us.zipIdx 0).map fun x=>(x.2,x.1):=by
  apply List.ext_getElem?
  intro j
  rcases Nat.lt_or_ge j ds.length with hj|hj
  ·obtain⟨x,hx,_⟩:=hp.nth (List.getElem?_eq_getElem hj)
   have hx':ps[j]?=some (0+j,x):=by simpa using hx
   simp[us,List.getElem?_zipIdx,hx']
  ·rw[List.getElem?_eq_none (by simp; have:=hp.length; simp at this; omega),List.getElem?_eq_none (by simp; omega)]
 have hz':(Array.range (n*i.size)).map (z.cells[·%z.cells.size]!)=([]++List.replicate n z).toArray:=by
  rw[hs,hz1,Nat.mul_one]
  apply Array.ext
  ·simp
  ·intro j h1 h2; simp[Nat.mod_one]
 have hfill:Instr.fill (fun j=>some (j*i.size,i.size)) ((Array.range (n*i.size)).map (z.cells[·%z.cells.size]!)) (ps.map fun(i,x)=>(i,ρ x)).toList=some us.toArray:=by
  rw[hz',hparts,hs,fill_dense us [] (List.replicate n z) 0 hus rfl (by simp[hul])]
  simp[hul]
 have hr:=run_buildSlice (P:=P) w t e n (ps.map fun(i,x)=>(i,ρ x)) us.toArray i z ht hi hz (by rw[hs]; omega) (by rw[hs]; omega) hfill
 refine out_val (x:=.slice (some ⟨w.heap.size,0,none⟩) n n) (w':=w.alloc (.cells us.toArray e)) (by simp[execOp,hr]) ⟨Grow.alloc w _,?_⟩
 have hg:=Grow.alloc w (.cells us.toArray e)
 refine⟨some ⟨w.heap.size,0,none⟩,us,by rw[hl],by omega,by simp only[maxLen]; omega,by omega,?_,fun j d u hd hu=>?_⟩
 ·have:=blk_row (B:=(w.alloc (.cells us.toArray e)).heap.size) (by simp) (heap_alloc_new w (.cells us.toArray e)) us.length
  rwa [List.take_length] at this
 ·obtain⟨u',hu',hd'⟩:=hof j d hd
  rw[hu] at hu'; injection hu' with hu'; subst hu'
  exact hd'.grow hg
theorem run_slice_list{t:TypeId}{z:Value}{nb:Nat}(ht:P.underlying t=some (.slice e))(hs:InfoIs P e z nb)(w:World)(A:Option Addr)(n c l h:Nat)(lo hi:Option Value)(k k':IntKind)
  (hlo:lo=some (.int k (l:Int))∨(lo=none∧l=0))(hhi:hi=some (.int k' (h:Int))∨(hi=none∧h=n))(hlh:l<=h)(hhc:h<=c):
  (Instr.sliceAt t (.slice A n c) lo hi none).run P w = .ok (.slice (if c=l then A else A.map (·.add l)) (h-l) (c-l)) w:=by
 obtain⟨info,hinfo,_,hsize,_⟩:=hs.get
 have h1:(Instr.sliceAt t (.slice A n c) lo hi none).run P w=(Instr.slice t (.slice A n c) lo hi none).run P w:=by simp[Instr.sliceAt,run_underlying ht]
 rw[h1]
 rcases hlo with rfl|⟨rfl,rfl⟩<;>rcases hhi with rfl|⟨rfl,rfl⟩ <;>
  simp[Instr.slice,run_underlying ht,Instr.sliceBounds,Instr.sliceBound,asIntOf,sizeOf,typeInfo,hinfo,hsize,hlh,hhc]
theorem ok_slice{t:TypeId}{z:Value}{nb:Nat}{x:Operand}{lo hi:Option Operand}{f:D}(l h:Nat)(ht:P.underlying t=some (.slice e))(hs:InfoIs P e z nb)(hx:E.at x=some f)(hf:Le f (lst ds))
  (hlo:(∃ o k,lo=some o∧E.at o=some (.v (.int k (l:Int))))∨(lo=none∧l=0))(hhi:(∃ o k,hi=some o∧E.at o=some (.v (.int k (h:Int))))∨(hi=none∧h=ds.length))(hlh:l<=h)(hhn:h<=ds.length):
  OpOk P B ⟨dst,.slice t x lo hi none,ty,pos,after,guard⟩ E (lst ((ds.take h).drop l)):=fun ρ w _ _ hρ=>by
 obtain⟨c,A,vs,h1,h2,h3,h4,h5,h6⟩:=hf.of (hρ x (by simp[Op.operands]) _ hx)
 have hlo':∃ k,lo.map ρ=some (.int k (l:Int))∨(lo.map ρ=none∧l=0):=by
  rcases hlo with ⟨o,k,rfl,ho⟩|⟨rfl,hl⟩
  ·have:ρ o = .int k (l:Int):=hρ o (by simp[Op.operands]) _ ho
   exact⟨k,.inl (by simp[this])⟩
  ·exact⟨.i64,.inr ⟨rfl,hl⟩⟩
 have hhi':∃ k,hi.map ρ=some (.int k (h:Int))∨(hi.map ρ=none∧h=ds.length):=by
  rcases hhi with ⟨o,k,rfl,ho⟩|⟨rfl,hl⟩
  ·have:ρ o = .int k (h:Int):=hρ o (by simp[Op.operands]) _ ho
   exact⟨k,.inl (by simp[this])⟩
  ·exact⟨.i64,.inr ⟨rfl,hl⟩⟩
 obtain⟨k,hlo'⟩:=hlo'
 obtain⟨k',hhi'⟩:=hhi'
 have hr:=run_slice_list (P:=P) ht hs w A ds.length c l h (lo.map ρ) (hi.map ρ) k k' hlo' hhi' hlh (by omega)
 have hlen:((ds.take h).drop l).length=h-l:=by simp; omega
 refine out_val (x:=.slice (if c=l then A else A.map (·.add l)) (h-l) (c-l)) (w':=w) (by simp[execOp,h1,hr]) ⟨Grow.refl w,c-l,_,(vs.take h).drop l,by rw[hlen],by rw[hlen]; omega,by omega,by simp; omega,?_,?_⟩
 ·intro j u hu
  rw[List.getElem?_drop,List.getElem?_take] at hu
  split at hu
  ·obtain⟨ad,rfl,hb,hc⟩:=h5 _ _ hu
   rw[if_neg (by omega)]
   exact⟨ad.add l,rfl,by rw[block_of_add]; exact hb,by rw[add_of_add]; exact hc⟩
  ·cases hu
 ·intro j d u hd hu
  rw[List.getElem?_drop,List.getElem?_take] at hd hu
  split at hd
  ·rename_i hlt; rw[if_pos hlt] at hu; exact h6 _ _ _ hd hu
  ·cases hd
theorem ok_sliceV{t:TypeId}{z:Value}{nb:Nat}{x o:Operand}{c:Nat}{k:IntKind}(l:Nat)(ht:P.underlying t=some (.slice e))(hs:InfoIs P e z nb)(hx:E.at x=some (.v (.slice (some ⟨b,0,none⟩) n c)))(ho:E.at o=some (.v (.int k (l:Int))))(hln:l<=n)(hnc:n<=c):
  OpOk P B ⟨dst,.slice t x (some o) none none,ty,pos,after,guard⟩ E (.v (.slice (some ⟨b,if c=l then 0 else l,none⟩) (n-l) (c-l))):=fun ρ w _ _ hρ=>by
 have h1:ρ x=_:=hρ x (by simp[Op.operands]) _ hx
 have h2:ρ o = .int k (l:Int):=hρ o (by simp[Op.operands]) _ ho
 have hr:=run_slice_list (P:=P) ht hs w (some ⟨b,0,none⟩) n c l n (some (.int k (l:Int))) none k k (.inl rfl) (.inr ⟨rfl,rfl⟩) hln hnc
 refine out_val (w':=w) (by simp[execOp,h1,h2,hr]; rfl) ⟨Grow.refl w,?_⟩
 show Value.slice _ _ _=Value.slice _ _ _
 congr 1
 split
 ·rfl
 ·simp only[Option.some.injEq]
  unfold Addr.add
  split
  ·rename_i h; subst h; rfl
  ·simp
def PostOf (w₀:World) (d:D) (e:Ending) (w':World):Prop:=∃ x,e = .returned x∧Grow w₀ w'∧d.Of w' x
structure Fn (P:Program) (f:FuncId) (ds:List D) (d:D):Prop where
 body:∃ fn,P.funcs[f]?=some fn∧(fn.name == "runtime.NumGoroutine")=false∧fn.body.isNone=false
 calls:∀ (vs:List Value) (w:World),vs.length=ds.length->(∀ (j:Nat) (e:D) (u:Value),ds[j]?=some e->vs[j]?=some u->e.Of w u)->Calls P f vs.toArray w (PostOf w d)
theorem Fn.le{f:FuncId}{d':D}(h:Fn P f ds d)(hd:Le d d'): Fn P f ds d' :=
 ⟨h.body,fun vs w h1 h2=>(h.calls vs w h1 h2).mono fun _ _ ⟨x,he,g,hx⟩=>⟨x,he,g,hd.of hx⟩⟩
def Args (E:Env) (ds:List D) (xs:List Operand):Prop :=
 match ds,xs with
 | [],[]=>True
 | d::ds,x::xs=>(∃ e,E.at x=some e∧Le e d)∧Args E ds xs
 | _,_=>False
theorem Args.nil: Args E [] []:=trivial
theorem Args.cons{e:D}{x:Operand}{xs:List Operand}(h:E.at x=some e)(hl:Le e d)(hr:Args E ds xs): Args E (d::ds) (x::xs):=⟨⟨e,h,hl⟩,hr⟩
theorem Args.length{xs:List Operand}(h:Args E ds xs): ds.length=xs.length:=by
 induction ds generalizing xs with
 | nil=>cases xs<;>simp_all [Args]
 | cons d ds ih=>cases xs with
  | nil=>simp[Args] at h
  | cons x xs=>simp[ih h.2]
theorem Args.nth{xs:List Operand}(h:Args E ds xs): ∀ {j:Nat} {d:D} {x:Operand},ds[j]?=some d->xs[j]?=some x->∃ e,E.at x=some e∧Le e d:=by
 induction ds generalizing xs with
 | nil=>intro j d x hj; simp at hj
 | cons d0 ds ih=>cases xs with
  | nil=>simp[Args] at h
  | cons x0 xs =>
   intro j d x hj hx
   cases j with
   | zero=>simp at hj hx; subst hj; subst hx; exact h.1
   | succ j=>exact ih h.2 (by simpa using hj) (by simpa using hx)
theorem ok_call{f:FuncId}{args:Array Operand}{argTypes:Array TypeId}(hf:Fn P f ds d)(ha:Args E ds args.toList):
  OpOk P B ⟨dst,.call { callee:=.value (.func f),args:=args,argTypes:=argTypes },ty,pos,after,guard⟩ E d:=fun ρ w _ _ hρ=>by
 obtain⟨fn,h1,h2,h3⟩:=hf.body
 have hfun:ρ (.func f) = .func (.func f) #[] #[]:=hρ (.func f) (by simp[Op.operands,Call.operands]) _ rfl
 have hrun:(execOp ρ ⟨dst,.call { callee:=.value (.func f),args:=args,argTypes:=argTypes },ty,pos,after,guard⟩).run P w = .ok (.enter f (args.map ρ)) w:=by
  have h2':¬ fn.name = "runtime.NumGoroutine":=by simpa using h2
  have h3':¬ fn.body=none:=by intro h; rw[h] at h3; cases h3
  simp[execOp,resolve,Deferred.ofValue,hfun,invoke,callFunc,h1,h2',h3']
 unfold Out
 rw[hrun]
 have:=hf.calls (args.toList.map ρ) w (by rw[List.length_map,ha.length]) fun j e u he hu=>by
  rw[List.getElem?_map] at hu
  cases hx:args.toList[j]? with
  | none=>rw[hx] at hu; cases hu
  | some x =>
   rw[hx] at hu; injection hu with hu; subst hu
   obtain⟨e',h4,h5⟩:=ha.nth he hx
   exact h5.of (hρ x (by simp[Op.operands,Call.operands]; exact .inr (by simpa using List.mem_of_getElem? hx)) _ h4)
 have harr:(args.toList.map ρ).toArray=args.map ρ:=by apply Array.ext'; simp
 rw[harr] at this
 exact this.mono fun e w' ⟨x,he,g,hx⟩=>⟨x,he,g,hx⟩
end
section
variable {P:Program} {n B:Nat} {ops:Array Oper} {E:Env} {ty:TypeId} {pos:String} {after:Array Edge}
def Left (B:Nat) (E' E:Env):Prop:=∀ p∈E',E.look p.1=some p.2∧Stays B p.2
theorem Left.nil: Left B [] E:=fun _ h=>by cases h
theorem Left.cons{t:Nat}(h:E.look t=some d)(hs:Stays B d)(hr:Left B E' E): Left B ((t,d)::E') E:=fun p hp=>by
 rcases List.mem_cons.1 hp with rfl|hp
 ·exact⟨h,hs⟩
 ·exact hr p hp
theorem eff_store{t:TypeId}{z:Value}{nb:Nat}{p x:Operand}{o:Nat}{u:Value}(hinfo:InfoIs P t z nb)(hp:E.at p=some (.v (.pointer (some ⟨b,o,none⟩))))(hx:E.at x=some (.v u))(hu:u.oneCell'=true)
  (hb:B<=b)(hblk:E.look s=some (blk b e xs))(ho:o<xs.length)(hl:Left B E' E):
  Eff P n B ops ⟨none,.store t p x,ty,pos,after,none⟩ E ((s,blk b e (xs.set o u))::E'):=by
 obtain⟨i,hi,_,hs,_⟩:=hinfo.get
 intro κ a w K Q h hK
 have hp':a.eval p=_:=h.at_ p _ hp
 have hx':a.eval x=_:=h.at_ x _ hx
 obtain⟨hlt,hh⟩:=h.of s _ hblk
 have hcell:w.cell? ⟨b,o,none⟩=some xs[o]:=by simp[World.cell?,hh,ho]
 have hfr:w.frozen? ⟨b,o,none⟩=false:=by simp[World.frozen?,hh]
 have hcu:u.cells=#[u]:=by cases u<;>simp_all [Value.oneCell',Value.cells]
 have hadd:(⟨b,o,none⟩:Addr).add 0=⟨b,o,none⟩:=rfl
 have hrun:(execOp a.eval ⟨none,.store t p x,ty,pos,after,none⟩).run P w = .ok .skip (w.setCell ⟨b,o,none⟩ u):=by
  simp[execOp,hp',hx',Instr.storeAt,Instr.sureAddr,storeVar,hcu,sizeOf,typeInfo,hi,hs,storeCells,hadd,run_store P w ⟨b,o,none⟩ u .plain hu,hcell,hfr]
 rw[if_pos (by simp[Region.wanted])]
 refine opR (by nofun) ?_
 unfold Oper.wp
 rw[hrun,Oper.upon_skip]
 have hbel:Below B w (w.setCell ⟨b,o,none⟩ u):=(Below.refl B w).setCell hb u
 refine hK _ _ hbel ⟨Nat.le_trans h.base hbel.size,h.defers,h.size,fun t' d hd=>?_⟩
 by_cases hts:s=t'
 ·subst hts
  rw[look_here] at hd; injection hd with hd; subst hd
  refine⟨by simpa [World.setCell] using hlt,?_⟩
  simp[World.setCell,Array.getElem?_modify,hh]
 ·rw[look_past _ _ hts] at hd
  obtain⟨h1,h2⟩:=hl _ (look_mem hd)
  exact h2 _ _ _ hbel h.base (h.of t' d h1)
theorem eff_copy{t:TypeId}{z:Value}{nb:Nat}{r x:Operand}{o dn dc dst:Nat}{f:D}{l:List UInt8}{e':TypeId}(ht:P.underlying t=some (.slice e))(hinfo:InfoIs P e z nb)
  (hr:E.at r=some (.v (.slice (some ⟨b,o,none⟩) dn dc)))(hx:E.at x=some f)(hf:Le f (byt l))(hn:l.length<=dn)(hb:B<=b)(hblk:E.look s=some (blk b e' xs))(hfit:o+l.length<=xs.length)(hdst:dst<n)(hl:Left B E' E):
  Eff P n B ops ⟨some dst,.call { callee:=.builtin .copy,args:=#[r,x],argTypes:=#[t,t] },ty,pos,after,none⟩ E ((dst,.v (.int .i64 (l.length:Int)))::(s,blk b e' (xs.take o++l.map byteV++xs.drop (o+l.length)))::E'):=by
 obtain⟨i,hi,_,hs,_⟩:=hinfo.get
 intro κ a w K Q h hK
 have hre:a.eval r=_:=h.at_ r _ hr
 obtain⟨c,hby⟩:=hf.of (h.at_ x _ hx)
 obtain⟨A,hxe,hle,hcm,hrow⟩:=bytes_open (l:=l) hby
 obtain⟨hlt,hh⟩:=h.of s _ hblk
 have hsz:(P.info? e).map (·.size)=some 1:=by rw[hi]; simp[hs]
 have hmin:Nat.min l.length dn=l.length:=Nat.min_eq_left hn
 have hrun:∃ w',(Builtin.copy_ #[t,t] ty #[a.eval r,.slice A l.length c]).run P w = .ok (goInt l.length) w'∧Below B w w'∧w'.heap[b]?=some (.cells (xs.take o++l.map byteV++xs.drop (o+l.length)).toArray e' (0,0))∧b<w'.heap.size:=by
  rw[hre]
  cases A with
  | none =>
   have hz:l=[]:=by
    cases l with
    | nil=>rfl
    | cons b l=>obtain⟨ad,h,_⟩:=hrow 0 (byteV b) rfl; cases h
   subst hz
   refine⟨w,by simpa using run_copy_none (P:=P) w t t ty e (some ⟨b,o,none⟩) none dn dc 0 c ht hsz (by simp),Below.refl _ _,?_,hlt⟩
   simp only[List.map_nil,List.append_nil,List.length_nil,Nat.add_zero,List.take_append_drop]; exact hh
  | some ad =>
   have hr:=run_copy_row (P:=P) w t t ty e b o dn dc ad l.length c xs.toArray e' (l.map byteV) ht hsz hh (by rw[hmin]; simp) hrow.cell (by simp; omega) (fun v hv=>by
    simp only[List.mem_map] at hv; obtain⟨u,_,rfl⟩:=hv; rfl)
   simp only[List.length_map] at hr
   refine⟨_,hr,?_,?_,?_⟩
   ·refine⟨rfl,rfl,rfl,by simp[World.setRow],fun k hk=>?_⟩
    simp only[World.setRow,Array.getElem?_modify]
    rw[if_neg (by omega)]
   ·simp[World.setRow,Array.getElem?_modify,hh]
   ·simpa [World.setRow] using hlt
 obtain⟨w',hrun,hbel,hh',hlt'⟩:=hrun
 have hexec:(execOp a.eval ⟨some dst,.call { callee:=.builtin .copy,args:=#[r,x],argTypes:=#[t,t] },ty,pos,after,none⟩).run P w = .ok (.value (.int .i64 (l.length:Int))) w':=by
  simp[execOp,resolve,invoke,builtin,hxe,hrun,goInt]
 rw[if_pos (by simp[Region.wanted])]
 refine opR (by nofun) ?_
 unfold Oper.wp
 rw[hexec,Oper.upon_value]
 have hst:St κ n B ((s,blk b e' (xs.take o++l.map byteV++xs.drop (o+l.length)))::E') a w':=⟨Nat.le_trans h.base hbel.size,h.defers,h.size,fun t' d hd=>by
  by_cases hts:s=t'
  ·subst hts
   rw[look_here] at hd; injection hd with hd; subst hd
   exact⟨hlt',hh'⟩
  ·rw[look_past _ _ hts] at hd
   obtain⟨h7,h8⟩:=hl _ (look_mem hd)
   exact h8 _ _ _ hbel h.base (h.of t' d h7)⟩
 exact hK _ _ hbel (hst.put hdst rfl)
end
theorem Sub.eq{t:Nat}(e:D)(h:E.look t=some e)(he:e=d)(hs:Sub E' E): Sub ((t,d)::E') E:=Sub.cons (he▸h) hs
def A (κ:Cx) (P:Program) (w₀:World) (n:Nat) (c:Code) (E:Env) (Q:Exit->Act->World->Prop):Prop :=
 ∀ (a:Act) (w:World),Below w₀.heap.size w₀ w->St κ n w₀.heap.size E a w->c.wpIn (FR κ.rd) 0 P Q a w
def End (κ:Cx) (w₀:World) (n:Nat) (E:Env) (R:Act->World->Prop):Prop:=∀ (a:Act) (w:World),Below w₀.heap.size w₀ w->St κ n w₀.heap.size E a w->R a w
section
variable {κ:Cx} {P:Program} {w₀:World} {n:Nat} {E E₁ E₂:Env} {Q:Exit->Act->World->Prop} {x y c:Code} {K:Act->World->Prop}
theorem A.seq(h:A κ P w₀ n x E (Exit.then (y.wpIn (FR κ.rd) 0 P Q) Q)): A κ P w₀ n (x.seq y) E Q:=fun a w g hs=>wpIn_seq (h a w g hs)
theorem A.sub(hs:Sub E₁ E)(h:A κ P w₀ n c E₁ Q): A κ P w₀ n c E Q:=fun a w g hst=>h a w g (hst.sub hs)
def RunK (P:Program) (B:Nat) (ops:Array Oper) (rest:List Oper) (E:Env) (C:Env->Prop):Prop:=∃ E₁,Run P B ops rest E E₁∧C E₁
section
variable {B:Nat} {ops:Array Oper} {o:Oper} {rest:List Oper} {C:Env->Prop} {t:Nat} {d:D} {draw:Bool}
theorem RunK.nil(h:C E): RunK P B ops [] E C:=⟨E,.nil,h⟩
theorem RunK.step(ht:o.dst=some t)(hg:o.guard=none)(h:OpOk P B o E d)(hr:RunK P B ops rest ((t,d)::E) C): RunK P B ops (o::rest) E C:=by
 obtain⟨E₁,h1,h2⟩:=hr; exact⟨E₁,.step ht hg h h1,h2⟩
theorem RunK.guarded{want:Bool}(ht:o.dst=some t)(hg:o.guard=some (j,want))(hj:((ops[j]?).bind (·.dst))=some s)(hE:E.look s=some (.v (.bool want)))(h:OpOk P B o E d)(hr:RunK P B ops rest ((t,d)::E) C): RunK P B ops (o::rest) E C:=by
 obtain⟨E₁,h1,h2⟩:=hr; exact⟨E₁,.guarded ht hg hj hE h h1,h2⟩
theorem RunK.skipped{want c:Bool}(ht:o.dst=some t)(hg:o.guard=some (j,want))(hj:((ops[j]?).bind (·.dst))=some s)(hE:E.look s=some (.v (.bool c)))(hc:(c==want)=false)(hr:RunK P B ops rest ((t,.v undef)::E) C): RunK P B ops (o::rest) E C:=by
 obtain⟨E₁,h1,h2⟩:=hr; exact⟨E₁,.skipped ht hg hj hE hc h1,h2⟩
theorem RunK.skippedU{want:Bool}(ht:o.dst=some t)(hg:o.guard=some (j,want))(hj:((ops[j]?).bind (·.dst))=some s)(hE:E.look s=some (.v undef))(hr:RunK P B ops rest ((t,.v undef)::E) C): RunK P B ops (o::rest) E C:=by
 obtain⟨E₁,h1,h2⟩:=hr; exact⟨E₁,.skippedU ht hg hj hE h1,h2⟩
theorem RunK.as(x:Value){y:Value}(h:y=x)(hr:RunK P B ops rest ((t,.v x)::E) C): RunK P B ops rest ((t,.v y)::E) C:=h▸hr
theorem RunTK.last(h:RunK P B ops (ops.toList.drop s) E C): RunTK P n B ops draw C s E:=by
 obtain⟨E₁,h1,h2⟩:=h; exact .last' h1 h2
theorem RunTK.eff(p:Nat)(hsp:s<=p)(ho:ops[p]?=some o)(hb:draw=false∨barrier ops p=true)(h:RunK P B ops ((ops.toList.drop s).take (p-s)) E (fun E₁=>∃ E₂,Eff P n B ops o E₁ E₂∧RunTK P n B ops draw C (p+1) E₂)): RunTK P n B ops draw C s E:=by
 obtain⟨E₁,h1,E₂,h2,h3⟩:=h; exact .effG hsp ho hb h1 h2.g fun _ _=>h3
theorem RunTK.new(p:Nat)(hsp:s<=p)(ho:ops[p]?=some o)(hb:draw=false∨barrier ops p=true)(h:RunK P B ops ((ops.toList.drop s).take (p-s)) E (fun E₁=>∃ (G:Nat->Prop) (E₂:Nat->Env),EffG P n B ops o E₁ G E₂∧∀ b,G b->RunTK P n B ops draw C (p+1) (E₂ b))): RunTK P n B ops draw C s E:=by
 obtain⟨E₁,h1,G,E₂,h2,h3⟩:=h; exact .effG hsp ho hb h1 h2 h3
end
theorem A.reg{id:Nat}{draw:Bool}(hm:P.follows .mixedOrders=true)(hf:fits n ops=true)(ht:draw=false∨tied ops=true)(hr:RunTK P n w₀.heap.size ops draw (fun E₁=>End κ w₀ n E₁ (Q .normal)) 0 E): A κ P w₀ n (.region id ops draw) E Q:=fun _ _ g hst =>
 wp_regT hm hf ht hst hr fun _ a' w' h2 g' h'=>h2 a' w' (g.trans g') h'
theorem A.regs{id:Nat}{draw:Bool}(hm:P.follows .mixedOrders=true)(hf:fits n ops=true)(ht:draw=false∨tied ops=true)(hr:RunTK P n w₀.heap.size ops draw (fun E₁=>A κ P w₀ n y E₁ Q) 0 E): A κ P w₀ n (.seq (.region id ops draw) y) E Q:=A.seq (A.reg hm hf ht hr)
theorem A.cond{o:Operand}{b:Bool}(ho:E.at o=some (.v (.bool b)))(ht:b=true->A κ P w₀ n x E Q)(hf:b=false->A κ P w₀ n y E Q): A κ P w₀ n (.cond o x y) E Q:=fun a w g hs=>by
 have h1:a.eval o = .bool b:=hs.at_ o _ ho
 cases b with
 | true=>exact wpIn_cond h1 (ht rfl a w g hs)
 | false=>exact wpIn_cond h1 (hf rfl a w g hs)
theorem A.yes{o:Operand}(ho:E.at o=some (.v (.bool true)))(h:A κ P w₀ n x E Q): A κ P w₀ n (.cond o x y) E Q:=A.cond ho (fun _=>h) (fun h=>by cases h)
theorem A.no{o:Operand}(ho:E.at o=some (.v (.bool false)))(h:A κ P w₀ n y E Q): A κ P w₀ n (.cond o x y) E Q:=A.cond ho (fun h=>by cases h) (fun _=>h)
theorem A.skip(h:End κ w₀ n E (Q .normal)): A κ P w₀ n .skip E Q:=fun a w g hs=>wpIn_skip (h a w g hs)
theorem A.block{id:Nat}(h:A κ P w₀ n c E (Exit.inBlock id Q)): A κ P w₀ n (.block id c) E Q:=fun a w g hs=>wpIn_block (h a w g hs)
theorem A.exit{id:Nat}(h:End κ w₀ n E (Q (.exit id))): A κ P w₀ n (.exit id) E Q:=fun a w g hs=>wpIn_exit (h a w g hs)
theorem A.ret(h:End κ w₀ n E (Q .ret)): A κ P w₀ n .ret E Q:=fun a w g hs=>wpIn_ret (h a w g hs)
theorem End.exit_then{id:Nat}(h:End κ w₀ n E (Q (.exit id))): End κ w₀ n E (Exit.then K Q (.exit id)):=h
theorem End.exit_here{id:Nat}(h:End κ w₀ n E (Q .normal)): End κ w₀ n E (Exit.inBlock id Q (.exit id)):=fun a w g hs=>by
 show if id=id then Q .normal a w else Q (.exit id) a w
 rw[if_pos rfl]; exact h a w g hs
theorem End.exit_past{id id':Nat}(hne:id'≠id)(h:End κ w₀ n E (Q (.exit id'))): End κ w₀ n E (Exit.inBlock id Q (.exit id')):=fun a w g hs=>by
 show if id'=id then Q .normal a w else Q (.exit id') a w
 rw[if_neg hne]; exact h a w g hs
theorem End.ret_then(h:End κ w₀ n E (Q .ret)): End κ w₀ n E (Exit.then K Q .ret):=h
theorem End.ret_block{id:Nat}(h:End κ w₀ n E (Q .ret)): End κ w₀ n E (Exit.inBlock id Q .ret):=h
theorem End.normal_then(h:End κ w₀ n E K): End κ w₀ n E (Exit.then K Q .normal):=h
theorem End.normal_block{id:Nat}(h:End κ w₀ n E (Q .normal)): End κ w₀ n E (Exit.inBlock id Q .normal):=h
theorem End.code(h:A κ P w₀ n y E Q): End κ w₀ n E (y.wpIn (FR κ.rd) 0 P Q):=h
theorem End.sub{R:Act->World->Prop}(hs:Sub E₁ E)(h:End κ w₀ n E₁ R): End κ w₀ n E R:=fun a w g hst=>h a w g (hst.sub hs)
def Again (κ:Cx) (w₀:World) (n:Nat) {ι:Type} (G:ι->Prop) (I:ι->Env) (μ:ι->Nat) (i:ι) (a:Act) (w:World):Prop:=∃ j,G j∧μ j<μ i∧Below w₀.heap.size w₀ w∧St κ n w₀.heap.size (I j) a w
theorem End.again{ι:Type}{G:ι->Prop}{I:ι->Env}{μ:ι->Nat}{i:ι}(j:ι)(hG:G j)(hμ:μ j<μ i)(hs:Sub (I j) E): End κ w₀ n E (Again κ w₀ n G I μ i) :=
 fun _ _ g hst=>⟨j,hG,hμ,g,hst.sub hs⟩
theorem least_of{p:Nat->Prop}: ∀ {m:Nat},p m->∃ k,p k∧∀ j,p j->k<=j:=by
 intro m
 induction m using Nat.strongRecOn with
 | _ m ih =>
  intro hm
  by_cases h:∃ j,j<m∧p j
  ·obtain⟨j,hj,hp⟩:=h; exact ih j hj hp
  ·exact⟨m,hm,fun j hj=>by
    rcases Nat.lt_or_ge j m with hlt|hge
    ·exact absurd ⟨j,hlt,hj⟩ h
    ·exact hge⟩
theorem A.loop{ι:Type}(G:ι->Prop)(I:ι->Env)(μ:ι->Nat)(i₀:ι)(hG:G i₀)(h0:Sub (I i₀) E)
  (round:∀ i,G i->A κ P w₀ n c (I i) (Exit.then (Again κ w₀ n G I μ i) Q)): A κ P w₀ n (.loop c) E Q:=fun a w g hs=>by
 have hex:∀ p:Act×World,∃ k:Nat,(∃ j,G j∧Below w₀.heap.size w₀ p.2∧St κ n w₀.heap.size (I j) p.1 p.2)->∃ j,(G j∧Below w₀.heap.size w₀ p.2∧St κ n w₀.heap.size (I j) p.1 p.2)∧μ j=k∧∀ j',(G j'∧Below w₀.heap.size w₀ p.2∧St κ n w₀.heap.size (I j') p.1 p.2)->k<=μ j':=by
  intro p
  by_cases h:∃ j,G j∧Below w₀.heap.size w₀ p.2∧St κ n w₀.heap.size (I j) p.1 p.2
  ·obtain⟨j,hj⟩:=h
   obtain⟨k,⟨j',hj',hk⟩,hmin⟩:=least_of (p:=fun k=>∃ j,(G j∧Below w₀.heap.size w₀ p.2∧St κ n w₀.heap.size (I j) p.1 p.2)∧μ j=k) ⟨j,hj,rfl⟩
   exact⟨k,fun _=>⟨j',hj',hk,fun j'' h''=>hmin _ ⟨j'',h'',rfl⟩⟩⟩
  ·exact⟨0,fun h'=>absurd h' h⟩
 obtain⟨m,hm⟩:=Classical.axiomOfChoice hex
 refine wpIn_loop (fun a w=>∃ j,G j∧Below w₀.heap.size w₀ w∧St κ n w₀.heap.size (I j) a w) (fun a w=>m (a,w)) ⟨i₀,hG,g,hs.sub h0⟩ fun a w hI=>?_
 obtain⟨j,⟨hGj,hg,hst⟩,hμ,_⟩:=hm (a,w) hI
 refine wpIn_mono (round j hGj a w hg hst) fun e a' w' hq=>?_
 cases e with
 | normal =>
  obtain⟨j',hG',hlt,hg',hst'⟩:=hq
  refine⟨⟨j',hG',hg',hst'⟩,?_⟩
  obtain⟨_,_,_,hmin⟩:=hm (a',w') ⟨j',hG',hg',hst'⟩
  have:=hmin j' ⟨hG',hg',hst'⟩
  show m (a',w')<m (a,w)
  omega
 | exit id=>exact hq
 | goto l=>exact hq
 | ret=>exact hq
 | panic ch=>exact hq
 | outgrown=>exact hq
abbrev BP (P:Program) (fn:Func) (R:Ending->World->Prop):Exit->Act->World->Prop:=bodyPostM (FR none) 0 P fn R
def Start (B:Nat) (ds:List D) (E:Env):Prop:=∀ p∈E,∃ d,ds[p.1]?=some d∧(p.2=d∨p.2=old B d)
theorem Start.nil: Start B ds []:=fun _ h=>by cases h
theorem Start.v{t:Nat}(h:ds[t]?=some d)(hr:Start B ds E): Start B ds ((t,d)::E):=fun p hp=>by
 rcases List.mem_cons.1 hp with rfl|hp
 ·exact⟨d,h,.inl rfl⟩
 ·exact hr p hp
theorem Start.old{t:Nat}(h:ds[t]?=some d)(hr:Start B ds E): Start B ds ((t,Go.Proofs.YtjigbkamgfidkaaGreatDoor.old B d)::E):=fun p hp=>by
 rcases List.mem_cons.1 hp with rfl|hp
 ·exact⟨d,h,.inr rfl⟩
 ·exact hr p hp
theorem Fn.of{f:FuncId}{fn:Func}{c:Code}(hf:P.funcs[f]?=some fn)(hb:fn.body=some c)(hname:(fn.name == "runtime.NumGoroutine")=false)(hn:fn.ntmps=n)(hds:ds.length<=n)(E:World->Env)
  (hE:∀ w,Start w.heap.size ds (E w))(h:∀ w₀,A Cx.top P w₀ n c (E w₀) (BP P fn (PostOf w₀ d))): Fn P f ds d:=by
 refine⟨⟨fn,hf,hname,by rw[hb]; rfl⟩,fun vs w hl hv=>callsIn_FR.1 (callsIn_of_wp_marks (F:=FR none) (n:=0) hf hb trivial (h w _ w (Below.refl _ _) ⟨Nat.le_refl _,rfl,?_,fun t e he=>?_⟩))⟩
 ·simp[hl,hn]; omega
 ·obtain⟨d',hd',hor⟩:=hE w _ (look_mem he)
  have hlt:t<vs.length:=by have:=(List.getElem?_eq_some_iff.1 hd').1; simp at this; omega
  have hget:(vs.toArray++Array.replicate (fn.ntmps-vs.toArray.size) undef).getD t undef=vs[t]:=by
   rw[Array.getD_eq_getD_getElem?,Array.getElem?_append_left (by simpa using hlt)]
   simp[hlt]
  show e.Of w ((vs.toArray++Array.replicate (fn.ntmps-vs.toArray.size) undef).getD t undef)
  rw[hget]
  have h1:=hv t d' vs[t] hd' (List.getElem?_eq_getElem hlt)
  rcases hor with h2|h2
  ·simp only at h2; rw[h2]; exact h1
  ·simp only at h2; rw[h2]; exact⟨Nat.le_refl _,h1⟩
theorem BP.ret{fn:Func}{R:Ending->World->Prop}{a:Act}(hd:a.defers=[])(h:∃ v,(results fn a.tmps).run P w = .ok v w∧R (.returned v) w): BP P fn R .ret a w:=by
 show LeavesInM (FR none) 0 P fn a.tmps R a.defers .returning w
 rw[hd]; exact h
theorem End.ret1{fn:Func}{r:Nat}{e:D}(hr:fn.results=#[.tmp r])(he:E.look r=some e)(hl:Le e d): End Cx.top w₀ n E (BP P fn (PostOf w₀ d) .ret):=fun a w g hs =>
 BP.ret hs.defers ⟨a.tmps.getD r undef,by simp[results,hr],_,rfl,g,hl.of (hs.of r e he)⟩
theorem End.ret2{fn:Func}{r:Nat}{d₁ d₂ e₁ e₂:D}(hr:fn.results=#[.tmp r,.tmp s])(he₁:E.look r=some e₁)(hl₁:Le e₁ d₁)(he₂:E.look s=some e₂)(hl₂:Le e₂ d₂): End Cx.top w₀ n E (BP P fn (PostOf w₀ (tup [d₁,d₂])) .ret):=fun a w g hs =>
 BP.ret hs.defers ⟨.tuple #[a.tmps.getD r undef,a.tmps.getD s undef],by simp[results,hr],_,rfl,g,[a.tmps.getD r undef,a.tmps.getD s undef],rfl,rfl,fun j d u hd hu=>by
  match j,hd,hu with
  | 0,hd,hu=>simp only[List.getElem?_cons_zero,Option.some.injEq] at hd hu; subst hd; subst hu; exact hl₁.of (hs.of r e₁ he₁)
  | 1,hd,hu=>simp only[List.getElem?_cons_succ,List.getElem?_cons_zero,Option.some.injEq] at hd hu; subst hd; subst hu; exact hl₂.of (hs.of s e₂ he₂)
  | j+2,hd,_=>simp at hd⟩
theorem A.open{t:Nat}{m:Nat}(ht:E.look t=some (fresh w₀.heap.size e xs m))(h:∀ b,w₀.heap.size<=b->A κ P w₀ n c ((t,.v (.slice (some ⟨b,0,none⟩) m xs.length))::(k,blk b e xs)::E) Q): A κ P w₀ n c E Q:=fun a w g hs=>by
 obtain⟨b,h1,h2,h3,h4⟩:=hs.of t _ ht
 refine h b h2 a w g ⟨hs.base,hs.defers,hs.size,fun s d hd=>?_⟩
 by_cases hts:t=s
 ·subst hts
  rw[look_here] at hd; injection hd with hd; subst hd; exact h1
 ·rw[look_past _ _ hts] at hd
  by_cases hks:k=s
  ·subst hks
   rw[look_here] at hd; injection hd with hd; subst hd; exact⟨h3,h4⟩
  ·rw[look_past _ _ hks] at hd
   exact hs.of s d hd
theorem End.bytes {R:Act->World->Prop} (t k:Nat) {b:Nat} {e:TypeId} {xs:List Value} (l:List UInt8) {m c:Nat} (ht:E.look t=some (.v (.slice (some ⟨b,0,none⟩) m c))) (hm:m=l.length) (hk:E.look k=some (blk b e xs)) (hl:xs.take l.length=l.map byteV) (h1:l.length<=c) (h2:c<=maxLen)
  (h:End κ w₀ n ((t,bytes l c)::E) R):End κ w₀ n E R:=fun a w g hs=>by
 subst hm
 refine h a w g ⟨hs.base,hs.defers,hs.size,fun s d hd=>?_⟩
 by_cases hts:t=s
 ·subst hts
  rw[look_here] at hd; injection hd with hd; subst hd
  have h3:a.tmps.getD t undef = .slice (some ⟨b,0,none⟩) l.length c:=hs.of t _ ht
  obtain⟨h4,h5⟩:=hs.of k _ hk
  rw[h3]
  exact bytes_mk h1 h2 (hl▸blk_row h4 h5 l.length)
 ·rw[look_past _ _ hts] at hd
  exact hs.of s d hd
theorem own_le{vs:List Value}(hn:n=vs.length): Le (own B e n vs) (lst (vs.map .v)):=by
 subst hn
 intro B' w x h
 obtain⟨⟨_,h1⟩,h2⟩:=h
 have hv:∀ (j:Nat) (d:D) (u:Value),(vs.map D.v)[j]?=some d->vs[j]?=some u->d.OfB B' w u:=fun j d u hd hu=>by
  simp only[List.getElem?_map,hu,Option.map_some,Option.some.injEq] at hd; subst hd; rfl
 rcases h1 with ⟨rfl,h0⟩|⟨g,cap,cur,rfl,hb,hh,hnc,hcm,hsz,htk⟩
 ·have:vs=[]:=List.eq_nil_of_length_eq_zero h0
  subst this
  exact⟨0,none,[],by simp,by simp,Nat.zero_le _,rfl,RowIn.nil,fun j d u hd=>by simp at hd⟩
 ·refine⟨cap,some ⟨g,0,none⟩,vs,by simp,by simpa using hnc,hcm,by simp,?_,hv⟩
  have:=blk_row (xs:=cur.toList) (h2 g (by simp[Value.ownBlock])) (by simpa using hh) vs.length
  rw[show cur.toList.take vs.length=vs from by simpa using htk] at this
  exact this
end
end
section
variable {κ:Cx}
def SubL (E' E:Env):Prop:=∀ p∈E',∃ e,E.look p.1=some e∧Le e p.2
theorem SubL.nil: SubL [] E:=fun _ h=>by cases h
theorem SubL.cons{t:Nat}{e:D}(h:E.look t=some e)(hl:Le e d)(hs:SubL E' E): SubL ((t,d)::E') E:=fun p hp=>by
 rcases List.mem_cons.1 hp with rfl|hp
 ·exact⟨e,h,hl⟩
 ·exact hs p hp
theorem St.subL{a:Act}(h:St κ n B E a w)(hs:SubL E' E): St κ n B E' a w :=
 ⟨h.base,h.defers,h.size,fun t d hd=>by
  obtain⟨e,he,hl⟩:=hs (t,d) (look_mem hd)
  exact hl.of (h.of t e he)⟩
theorem A.subL{c:Code}{E₁:Env}{Q:Exit->Act->World->Prop}(hs:SubL E₁ E)(h:A κ P w₀ n c E₁ Q): A κ P w₀ n c E Q:=fun a w g hst=>h a w g (hst.subL hs)
def OldOf (B:Nat) (E' E:Env):Prop:=∀ p∈E',∃ d,E.look p.1=some d∧(p.2=d∧(∃ x,d = .v x)∨p.2=old B d)
theorem OldOf.nil: OldOf B [] E:=fun _ h=>by cases h
theorem OldOf.v{t:Nat}{x:Value}(h:E.look t=some (.v x))(hr:OldOf B E' E): OldOf B ((t,.v x)::E') E:=fun p hp=>by
 rcases List.mem_cons.1 hp with rfl|hp
 ·exact⟨_,h,.inl ⟨rfl,_,rfl⟩⟩
 ·exact hr p hp
theorem OldOf.p {B:Nat} {E E':Env} {t:Nat} {d:D} (h:E.look t=some d) (hr:OldOf B E' E):OldOf B ((t,old B d)::E') E:=fun p hp=>by
 rcases List.mem_cons.1 hp with rfl|hp
 ·exact⟨d,h,.inr rfl⟩
 ·exact hr p hp
theorem A.regsG{y:Code}{Q:Exit->Act->World->Prop}{id:Nat}{draw:Bool}(E':Nat->Env)(hE:∀ B,OldOf B (E' B) E)(hm:P.follows .mixedOrders=true)(hf:fits n ops=true)(ht:draw=false∨tied ops=true)
  (hr:∀ B,w₀.heap.size<=B->RunTK P n B ops draw (fun E₁=>A κ P w₀ n y E₁ Q) 0 (E' B)): A κ P w₀ n (.seq (.region id ops draw) y) E Q:=A.seq fun a w g hst=>by
 have hst':St κ n w.heap.size (E' w.heap.size) a w:=⟨Nat.le_refl _,hst.defers,hst.size,fun t d hd=>by
  obtain⟨d',hd',h⟩:=hE w.heap.size _ (look_mem hd)
  have h1:=hst.of t d' hd'
  rcases h with ⟨h2,_⟩|h2
  ·simp only at h2; rw[h2]; exact h1
  ·simp only at h2; rw[h2]; exact⟨Nat.le_refl _,h1⟩⟩
 exact wp_regT hm hf ht hst' (hr w.heap.size hst.base) fun _ a' w' h2 g' h'=>h2 a' w' (g.trans (g'.mono hst.base)) ⟨Nat.le_trans hst.base g'.size,h'.defers,h'.size,h'.of⟩
structure FnB (P:Program) (f:FuncId) (ds:List D) (d:Nat->D):Prop where
 body:∃ fn,P.funcs[f]?=some fn∧(fn.name == "runtime.NumGoroutine")=false∧fn.body.isNone=false
 calls:∀ (vs:List Value) (w:World),vs.length=ds.length->(∀ (j:Nat) (e:D) (u:Value),ds[j]?=some e->vs[j]?=some u->e.Of w u)->Calls P f vs.toArray w (PostOf w (d w.heap.size))
theorem FnB.fn{f:FuncId}{d:Nat->D}{d':D}(h:FnB P f ds d)(hd:∀ B,Le (d B) d'): Fn P f ds d' :=
 ⟨h.body,fun vs w h1 h2=>(h.calls vs w h1 h2).mono fun _ _ ⟨x,he,g,hx⟩=>⟨x,he,g,(hd _).of hx⟩⟩
theorem ok_callB{f:FuncId}{args:Array Operand}{argTypes:Array TypeId}{d:Nat->D}(hf:FnB P f ds d)(hd:∀ B B',B<=B'->Le (d B') (d B))(ha:Args E ds args.toList):
  OpOk P B ⟨dst,.call { callee:=.value (.func f),args:=args,argTypes:=argTypes },ty,pos,after,guard⟩ E (d B):=fun ρ w hB _ hρ=>by
 obtain⟨fn,h1,h2,h3⟩:=hf.body
 have hfun:ρ (.func f) = .func (.func f) #[] #[]:=hρ (.func f) (by simp[Op.operands,Call.operands]) _ rfl
 have hrun:(execOp ρ ⟨dst,.call { callee:=.value (.func f),args:=args,argTypes:=argTypes },ty,pos,after,guard⟩).run P w = .ok (.enter f (args.map ρ)) w:=by
  have h2':¬ fn.name = "runtime.NumGoroutine":=by simpa using h2
  have h3':¬ fn.body=none:=by intro h; rw[h] at h3; cases h3
  simp[execOp,resolve,Deferred.ofValue,hfun,invoke,callFunc,h1,h2',h3']
 unfold Out
 rw[hrun]
 have:=hf.calls (args.toList.map ρ) w (by rw[List.length_map,ha.length]) fun j e u he hu=>by
  rw[List.getElem?_map] at hu
  cases hx:args.toList[j]? with
  | none=>rw[hx] at hu; cases hu
  | some x =>
   rw[hx] at hu; injection hu with hu; subst hu
   obtain⟨e',h4,h5⟩:=ha.nth he hx
   exact h5.of (hρ x (by simp[Op.operands,Call.operands]; exact .inr (by simpa using List.mem_of_getElem? hx)) _ h4)
 have harr:(args.toList.map ρ).toArray=args.map ρ:=by apply Array.ext'; simp
 rw[harr] at this
 exact this.mono fun e w' ⟨x,he,g,hx⟩=>⟨x,he,g,(hd _ _ hB).of hx⟩
theorem FnB.of{f:FuncId}{fn:Func}{c:Code}{d:Nat->D}(hf:P.funcs[f]?=some fn)(hb:fn.body=some c)(hname:(fn.name == "runtime.NumGoroutine")=false)(hn:fn.ntmps=n)(hds:ds.length<=n)(E:World->Env)
  (hE:∀ w,Start w.heap.size ds (E w))(h:∀ w₀,A Cx.top P w₀ n c (E w₀) (BP P fn (PostOf w₀ (d w₀.heap.size)))): FnB P f ds d:=by
 refine⟨⟨fn,hf,hname,by rw[hb]; rfl⟩,fun vs w hl hv=>callsIn_FR.1 (callsIn_of_wp_marks (F:=FR none) (n:=0) hf hb trivial (h w _ w (Below.refl _ _) ⟨Nat.le_refl _,rfl,?_,fun t e he=>?_⟩))⟩
 ·simp[hl,hn]; omega
 ·obtain⟨d',hd',hor⟩:=hE w _ (look_mem he)
  have hlt:t<vs.length:=by have:=(List.getElem?_eq_some_iff.1 hd').1; simp at this; omega
  have hget:(vs.toArray++Array.replicate (fn.ntmps-vs.toArray.size) undef).getD t undef=vs[t]:=by
   rw[Array.getD_eq_getD_getElem?,Array.getElem?_append_left (by simpa using hlt)]
   simp[hlt]
  show e.Of w ((vs.toArray++Array.replicate (fn.ntmps-vs.toArray.size) undef).getD t undef)
  rw[hget]
  have h1:=hv t d' vs[t] hd' (List.getElem?_eq_getElem hlt)
  rcases hor with h2|h2
  ·simp only at h2; rw[h2]; exact h1
  ·simp only at h2; rw[h2]; exact⟨Nat.le_refl _,h1⟩
theorem fresh_mono(B B':Nat)(h:B<=B'): Le (fresh B' e xs n) (fresh B e xs n):=fun _ _ _ ⟨b,h1,h2,h3,h4⟩=>⟨b,h1,by omega,h3,h4⟩
theorem fresh_bytes{l:List UInt8}(hn:n=l.length)(hm:n<=maxLen): Le (fresh B e (l.map byteV) n) (bytes l n):=by
 subst hn
 rintro B' w x ⟨b,rfl,_,h3,h4⟩
 have:=blk_row h3 h4 l.length
 rw[List.take_of_length_le (by simp)] at this
 simp only[List.length_map]
 exact bytes_mk (Nat.le_refl _) hm this
theorem End.fresh{fn:Func}{r:Nat}{m c:Nat}(hr:fn.results=#[.tmp r])(hb:w₀.heap.size<=b)(ht:E.look r=some (.v (.slice (some ⟨b,0,none⟩) m c)))(hc:c=ys.length)(hk:E.look k=some (blk b e xs))(hx:xs=ys):
  End Cx.top w₀ n E (BP P fn (PostOf w₀ (Go.Proofs.YtjigbkamgfidkaaGreatDoor.fresh w₀.heap.size e ys m)) .ret):=fun a w g hs=>by
 subst hx; subst hc
 obtain⟨h4,h5⟩:=hs.of k _ hk
 exact BP.ret hs.defers ⟨a.tmps.getD r undef,by simp[results,hr],_,rfl,g,b,hs.of r _ ht,hb,h4,h5⟩
section
variable {P:Program} {B:Nat} {E:Env} {dst:Option Tmp} {ty:TypeId} {pos:String} {after:Array Edge} {guard:Option (Nat×Bool)}
theorem ok_min{x y:Operand}{a b:Int}{ts:Array TypeId}(hx:E.at x=some (.v (.int .i64 a)))(hy:E.at y=some (.v (.int .i64 b))):
  OpOk P B ⟨dst,.call { callee:=.builtin .min,args:=#[x,y],argTypes:=ts },ty,pos,after,guard⟩ E (.v (.int .i64 (min a b))):=fun ρ w _ _ hρ=>by
 have h1:ρ x = .int .i64 a:=hρ x (by simp[Op.operands,Call.operands]) _ hx
 have h2:ρ y = .int .i64 b:=hρ y (by simp[Op.operands,Call.operands]) _ hy
 exact out_val (w':=w) (by simp[execOp,resolve,invoke,builtin,Builtin.min_,Builtin.min2,h1,h2]; omega) ⟨Grow.refl w,rfl⟩
theorem ok_build0own{t:TypeId}{z:Value}{nb:Nat}(ht:P.underlying t=some (.slice e))(hinfo:InfoIs P e z nb): OpOk P B ⟨dst,.buildSlice t 0 #[],ty,pos,after,guard⟩ E (own B e 0 []):=fun ρ w hB _ _=>by
 obtain⟨i,hi,hz,hs,_⟩:=hinfo.get
 refine out_val (x:=.slice (some ⟨w.heap.size,0,none⟩) 0 0) (w':=w.alloc (.cells #[] e)) ?_ ⟨Grow.alloc w _,⟨rfl,.inr ⟨w.heap.size,0,#[],rfl,hB,heap_alloc_new w _,Nat.le_refl _,Nat.zero_le _,rfl,rfl⟩⟩,fun g hg=>?_⟩
 ·simp[execOp,Instr.buildSlice,run_underlying ht,sizeOf,typeInfo,hi,Instr.fill,newRow]
  rw[show(Array.map (fun _=>(default:Value)) (Array.range 0))=#[] from Array.eq_empty_of_size_eq_zero (by simp)]
 ·simp[Value.ownBlock] at hg; subst hg; simp
end
theorem own_nil: Le (.v (.slice none 0 0)) (own B e 0 []):=fun _ _ _ h=>by
 have h:_=_:=h
 subst h
 exact⟨⟨rfl,.inl ⟨rfl,rfl⟩⟩,fun g hg=>by simp[Value.ownBlock] at hg⟩
theorem own_byt{l:List UInt8}(hn:n=l.length): Le (own B e n (l.map byteV)) (byt l):=by
 have h:=own_le (B:=B) (e:=e) (n:=n) (vs:=l.map byteV) (by simpa using hn)
 unfold byt
 rw[List.map_map] at h
 exact h
theorem list_lst1{c:Nat}{d₁ e₁:D}(h₁:Le d₁ e₁): Le (list [d₁] c) (lst [e₁]):=(list_le (ds:=[d₁]) (es:=[e₁]) rfl fun j d e hd he=>by
 match j,hd,he with
 | 0,hd,he=>simp at hd he; subst hd; subst he; exact h₁
 | j+1,hd,_=>simp at hd).trans (le_lst _ _)
theorem list_lst2{c:Nat}{d₁ e₁ d₂ e₂:D}(h₁:Le d₁ e₁)(h₂:Le d₂ e₂): Le (list [d₁,d₂] c) (lst [e₁,e₂]):=(list_le (ds:=[d₁,d₂]) (es:=[e₁,e₂]) rfl fun j d e hd he=>by
 match j,hd,he with
 | 0,hd,he=>simp at hd he; subst hd; subst he; exact h₁
 | 1,hd,he=>simp at hd he; subst hd; subst he; exact h₂
 | j+2,hd,_=>simp at hd).trans (le_lst _ _)
theorem list_lst3{c:Nat}{d₁ e₁ d₂ e₂ d₃ e₃:D}(h₁:Le d₁ e₁)(h₂:Le d₂ e₂)(h₃:Le d₃ e₃): Le (list [d₁,d₂,d₃] c) (lst [e₁,e₂,e₃]):=(list_le (ds:=[d₁,d₂,d₃]) (es:=[e₁,e₂,e₃]) rfl fun j d e hd he=>by
 match j,hd,he with
 | 0,hd,he=>simp at hd he; subst hd; subst he; exact h₁
 | 1,hd,he=>simp at hd he; subst hd; subst he; exact h₂
 | 2,hd,he=>simp at hd he; subst hd; subst he; exact h₃
 | j+3,hd,_=>simp at hd).trans (le_lst _ _)
theorem lst_one{x:Value}(h:(lst ds).Of w x): x.oneCell'=true:=by
 obtain⟨c,A,vs,rfl,_⟩:=h; rfl
theorem bytes_one{l:List UInt8}{c:Nat}{x:Value}(h:(bytes l c).Of w x): x.oneCell'=true:=by
 obtain⟨A,vs,rfl,_⟩:=h; rfl
theorem list_one{c:Nat}{x:Value}(h:(list ds c).Of w x): x.oneCell'=true:=by
 obtain⟨A,vs,rfl,_⟩:=h; rfl
theorem v_one{y:Value}(hy:y.oneCell'=true){x:Value}(h:(D.v y).Of w x): x.oneCell'=true:=by
 have h:x=y:=h
 subst h; exact hy
end
section
variable {κ:Cx}
structure Wrote (B:Nat) (T:TypeId) (g:Nat) (w w':World):Prop where
 base:B<=g
 os:w'.os=w.os
 tape:w'.tape=w.tape
 output:w'.output=w.output
 size:w.heap.size<=w'.heap.size
 cel:∀ o,w.heap[g]?=some o->∃ cs fr,o = .cells cs T fr
 other:∀ k,k<w.heap.size->k≠g->w'.heap[k]?=w.heap[k]?
theorem Wrote.row{T g:Nat}{w':World}(h:Wrote B T g w w')(cs:Array Value)(e:TypeId)(fr:Nat×Nat)(hh:w.heap[g]?=some (.cells cs e fr)): e=T:=by
 obtain⟨_,_,hx⟩:=h.cel _ hh
 injection hx
theorem Wrote.under{T g:Nat}{w':World}(h:Wrote B T g w w')(hg:k<=g)(hk:k<=w.heap.size): Below k w w' :=
 ⟨h.os,h.tape,h.output,h.size,fun j hj=>h.other j (by omega) (by omega)⟩
def Surv (B T g:Nat) (d:D):Prop:=∀ w w' x,Wrote B T g w w'->d.Of w x->d.Of w' x
theorem Surv.v{T g:Nat}(y:Value): Surv B T g (.v y):=fun _ _ _ _ h=>h
theorem Surv.old{T g B':Nat}(h:B'<=g): Surv B T g (Go.Proofs.YtjigbkamgfidkaaGreatDoor.old B' d):=fun _ _ _ k ⟨h1,h2⟩=>⟨Nat.le_trans h1 k.size,D.OfB.keep h2 (k.under h h1)⟩
theorem Surv.blk{T g:Nat}(h:b≠g): Surv B T g (Go.Proofs.YtjigbkamgfidkaaGreatDoor.blk b e xs):=fun _ _ _ k ⟨h1,h2⟩=>⟨Nat.lt_of_lt_of_le h1 k.size,(k.other b h1 h).trans h2⟩
theorem Surv.blkT{T g:Nat}(h:e≠T): Surv B T g (Go.Proofs.YtjigbkamgfidkaaGreatDoor.blk b e xs):=fun w w' x k hx=>by
 refine Surv.blk (B:=B) (T:=T) (fun hb=>h ?_) w w' x k hx
 subst hb; exact k.row _ _ _ hx.2
theorem Surv.own{T g base:Nat}(h:e≠T): Surv B T g (Go.Proofs.YtjigbkamgfidkaaGreatDoor.own base e n xs):=fun w w' x k ⟨h1,h2⟩=>by
 obtain⟨h3,h4⟩:=h1
 refine⟨⟨h3,h4.imp id ?_⟩,fun j hj=>Nat.lt_of_lt_of_le (h2 j hj) k.size⟩
 rintro ⟨j,cap,cur,rfl,hj,hh,hr⟩
 have hne:j≠g:=fun hb=>h (by subst hb; exact k.row _ _ _ hh)
 exact⟨j,cap,cur,rfl,hj,(k.other j (h2 j (by simp[Value.ownBlock])) hne).trans hh,hr⟩
theorem Surv.fresh{T g base:Nat}(h:e≠T): Surv B T g (Go.Proofs.YtjigbkamgfidkaaGreatDoor.fresh base e xs n):=fun w w' x k ⟨b,h1,h2,h3,h4⟩=>by
 have hne:b≠g:=fun hb=>h (by subst hb; exact k.row _ _ _ h4)
 exact⟨b,h1,h2,Nat.lt_of_lt_of_le h3 k.size,(k.other b h3 hne).trans h4⟩
def LeftS (B T g:Nat) (E' E:Env):Prop:=∀ p∈E',E.look p.1=some p.2∧Surv B T g p.2
theorem LeftS.nil{T g:Nat}: LeftS B T g [] E:=fun _ h=>by cases h
theorem LeftS.cons{T g:Nat}{t:Nat}(h:E.look t=some d)(hs:Surv B T g d)(hr:LeftS B T g E' E): LeftS B T g ((t,d)::E') E:=fun p hp=>by
 rcases List.mem_cons.1 hp with rfl|hp
 ·exact⟨h,hs⟩
 ·exact hr p hp
theorem LeftS.st{T g:Nat}{a:Act}{w':World}(hl:LeftS B T g E' E)(h:St κ n B E a w)(k:Wrote B T g w w'): St κ n B E' a w' :=
 ⟨Nat.le_trans h.base k.size,h.defers,h.size,fun t d hd=>by
  obtain⟨h1,h2⟩:=hl _ (look_mem hd)
  exact h2 _ _ _ k (h.of t d h1)⟩
theorem Wrote.setRow{g:Nat}{old:Array Value}{T:TypeId}(hb:B<=g)(hh:w.heap[g]?=some (.cells old T (0,0)))(cs:Array Value): Wrote B T g w (w.setRow g cs) :=
 ⟨hb,rfl,rfl,rfl,by simp,fun o h=>by rw[hh] at h; injection h with h; exact⟨_,_,h.symm⟩,fun k _ hk=>setRow_other w g k cs hk⟩
theorem Wrote.below{T g:Nat}{w':World}(h:Wrote B T g w w')(hB:B<=w.heap.size): Below B w w':=h.under h.base hB
def SizeIs (P:Program) (T:TypeId) (m:Nat):Prop:=(P.info? T).map (·.size)=some m
def ZeroIs (P:Program) (T:TypeId) (zs:List Value):Prop:=(P.info? T).bind (fun i=>i.zero.map (fun z=>z.cells.toList))=some zs
theorem ZeroIs.get{T:TypeId}{zs:List Value}(h:ZeroIs P T zs): ∃ i z,P.info? T=some i∧i.zero=some z∧z.cells=zs.toArray:=by
 unfold ZeroIs at h
 cases hi:P.info? T with
 | none=>rw[hi] at h; cases h
 | some i =>
  rw[hi] at h
  cases hz:i.zero with
  | none=>simp[hz] at h
  | some z=>simp[hz] at h; exact⟨i,z,rfl,hz,by rw[<- h]⟩
theorem SizeIs.of{T:TypeId}{m m':Nat}(h:SizeIs P T m)(e:m'=m): SizeIs P T m':=e▸h
def aggV (xs:List Value):Value:=.agg xs.toArray
section
variable {P:Program} {n B:Nat} {ops:Array Oper} {E:Env} {dst:Option Tmp} {ty:TypeId} {pos:String} {after:Array Edge} {guard:Option (Nat×Bool)}
def NewB (B:Nat) (E:Env) (b:Nat):Prop:=B<=b∧∀ s b' e xs,E.look s=some (blk b' e xs)->b'<b
theorem eff_new{o:Oper}{d:Nat}{T:TypeId}(hd:o.dst=some d)(hg:o.guard=none)
  (hrun:∀ (κ:Cx) a w,St κ n B E a w->(execOp a.eval o).run P w = .ok (.value (.pointer (some ⟨w.heap.size,0,none⟩))) (w.alloc (.cells xs.toArray T)))(hdn:d<n):
  EffG P n B ops o E (NewB B E) (fun b=>(d,.v (.pointer (some ⟨b,0,none⟩)))::(k,blk b T xs)::E):=by
 intro κ a w K Q h hK
 rw[if_pos (by simp[Region.wanted,hg])]
 refine opR (not_defer (hrun κ a w h)) ?_
 unfold Oper.wp
 rw[hrun κ a w h,Oper.upon_value,hd]
 have hbel:Below B w (w.alloc (.cells xs.toArray T)):=(Below.refl B w).alloc h.base _
 refine hK w.heap.size _ _ ⟨h.base,fun s b' e ys hs=>(h.of s _ hs).1⟩ hbel (St.put ?_ hdn rfl)
 have hst:=h.grow (Grow.alloc w (.cells xs.toArray T))
 refine⟨hst.base,hst.defers,hst.size,fun s e he=>?_⟩
 by_cases hks:k=s
 ·subst hks
  rw[look_here] at he; injection he with he; subst he
  exact⟨by simp,heap_alloc_new w _⟩
 ·rw[look_past _ _ hks] at he
  exact hst.of s e he
theorem eff_alloc{T:TypeId}{zs:List Value}{d:Nat}(hz:ZeroIs P T zs)(hdn:d<n):
  EffG P n B ops ⟨some d,.alloc T,ty,pos,after,none⟩ E (NewB B E) (fun b=>(d,.v (.pointer (some ⟨b,0,none⟩)))::(k,blk b T zs)::E) :=
 eff_new rfl rfl (fun _ a w _=>by
  obtain⟨i,z,hi,hz,hc⟩:=hz.get
  simp[execOp,Instr.alloc,zeroValue,typeInfo,hi,hz,newVar,newRow,hc]) hdn
theorem eff_box{T:TypeId}{x:Operand}{d:Nat}(hx:E.at x=some (.v (aggV xs)))(hdn:d<n):
  EffG P n B ops ⟨some d,.box T x,ty,pos,after,none⟩ E (NewB B E) (fun b=>(d,.v (.pointer (some ⟨b,0,none⟩)))::(k,blk b T xs)::E) :=
 eff_new rfl rfl (fun _ a w h=>by
  have h1:a.eval x=aggV xs:=h.at_ x _ hx
  simp[execOp,Instr.box,newVar,newRow,h1,aggV,Value.cells]) hdn
theorem eff_box1{T:TypeId}{x:Operand}{u:Value}{d:Nat}(hx:E.at x=some (.v u))(hu:u.oneCell'=true)(hdn:d<n):
  EffG P n B ops ⟨some d,.box T x,ty,pos,after,none⟩ E (NewB B E) (fun b=>(d,.v (.pointer (some ⟨b,0,none⟩)))::(k,blk b T [u])::E) :=
 eff_new rfl rfl (fun _ a w h=>by
  have h1:a.eval x=u:=h.at_ x _ hx
  have hc:u.cells=#[u]:=by cases u<;>simp_all [Value.oneCell',Value.cells]
  simp[execOp,Instr.box,newVar,newRow,h1,hc]) hdn
theorem eff_storeS{t:TypeId}{z:Value}{nb:Nat}{p x:Operand}{o:Nat}{u:Value}(hinfo:InfoIs P t z nb)(hp:E.at p=some (.v (.pointer (some ⟨b,o,none⟩))))(hx:E.at x=some (.v u))(hu:u.oneCell'=true)
  (hb:B<=b)(hblk:E.look s=some (blk b e xs))(ho:o<xs.length)(hl:LeftS B e b E' E):
  Eff P n B ops ⟨none,.store t p x,ty,pos,after,none⟩ E ((s,blk b e (xs.set o u))::E'):=by
 obtain⟨i,hi,_,hs,_⟩:=hinfo.get
 intro κ a w K Q h hK
 have hp':a.eval p=_:=h.at_ p _ hp
 have hx':a.eval x=_:=h.at_ x _ hx
 obtain⟨hlt,hh⟩:=h.of s _ hblk
 have hcell:w.cell? ⟨b,o,none⟩=some xs[o]:=by simp[World.cell?,hh,ho]
 have hfr:w.frozen? ⟨b,o,none⟩=false:=by simp[World.frozen?,hh]
 have hcu:u.cells=#[u]:=by cases u<;>simp_all [Value.oneCell',Value.cells]
 have hadd:(⟨b,o,none⟩:Addr).add 0=⟨b,o,none⟩:=rfl
 have hset:=setCell_eq_setRow w b o xs.toArray e (0,0) u hh
 have hrun:(execOp a.eval ⟨none,.store t p x,ty,pos,after,none⟩).run P w = .ok .skip (w.setRow b (xs.toArray.setIfInBounds o u)):=by
  rw[<- hset]
  simp[execOp,hp',hx',Instr.storeAt,Instr.sureAddr,storeVar,hcu,sizeOf,typeInfo,hi,hs,storeCells,hadd,run_store P w ⟨b,o,none⟩ u .plain hu,hcell,hfr]
 rw[if_pos (by simp[Region.wanted])]
 refine opR (by nofun) ?_
 unfold Oper.wp
 rw[hrun,Oper.upon_skip]
 have hwr:=Wrote.setRow hb hh (xs.toArray.setIfInBounds o u)
 have hst:=hl.st h hwr
 refine hK _ _ (hwr.below h.base) ⟨hst.base,hst.defers,hst.size,fun t' d hd=>?_⟩
 by_cases hts:s=t'
 ·subst hts
  rw[look_here] at hd; injection hd with hd; subst hd
  exact⟨by simpa using hlt,by rw[setRow_heap w b _ _ e _ hh]; simp⟩
 ·rw[look_past _ _ hts] at hd
  exact hst.of t' d hd
theorem eff_storeA{T:TypeId}{p x:Operand}(hsz:SizeIs P T ys.length)(hp:E.at p=some (.v (.pointer (some ⟨b,0,none⟩))))(hx:E.at x=some (.v (aggV ys)))(h1:ys.all (·.oneCell')=true)
  (hb:B<=b)(hblk:E.look s=some (blk b e xs))(ho:xs.length=ys.length)(hl:LeftS B e b E' E):
  Eff P n B ops ⟨none,.store T p x,ty,pos,after,none⟩ E ((s,blk b e ys)::E'):=by
 intro κ a w K Q h hK
 have hp':a.eval p=_:=h.at_ p _ hp
 have hx':a.eval x=_:=h.at_ x _ hx
 obtain⟨hlt,hh⟩:=h.of s _ hblk
 have hrun:(execOp a.eval ⟨none,.store T p x,ty,pos,after,none⟩).run P w = .ok .skip (w.setRow b ys.toArray):=by
  have:=run_storeVar_row (P:=P) w b e T xs.toArray ys.toArray hh (by simpa [SizeIs] using hsz) (by simpa using ho) (by simpa using h1)
  simp[execOp,hp',hx',Instr.storeAt,Instr.sureAddr,aggV,this]
 rw[if_pos (by simp[Region.wanted])]
 refine opR (by nofun) ?_
 unfold Oper.wp
 rw[hrun,Oper.upon_skip]
 have hwr:=Wrote.setRow hb hh ys.toArray
 have hst:=hl.st h hwr
 refine hK _ _ (hwr.below h.base) ⟨hst.base,hst.defers,hst.size,fun t' d hd=>?_⟩
 by_cases hts:s=t'
 ·subst hts
  rw[look_here] at hd; injection hd with hd; subst hd
  exact⟨by simpa using hlt,setRow_heap w b _ _ e _ hh⟩
 ·rw[look_past _ _ hts] at hd
  exact hst.of t' d hd
theorem eff_appendS{t:TypeId}{z:Value}{nb:Nat}{r x:Operand}{dst:Nat}{f:D}{vs:List Value}(ht:P.underlying t=some (.slice e))(hinfo:InfoIs P e z nb)(hnb:nb<=64)(hz1:z.cells.size=1)
  (hr:E.at r=some (own B e k xs))(hx:E.at x=some f)(hf:Le f (lst (vs.map .v)))(h1:∀ u∈vs,u.oneCell'=true)(hk:k+vs.length<=1099511627776)(hdst:dst<n)(hl:∀ g,B<=g->LeftS B e g E' E):
  Eff P n B ops ⟨some dst,.call { callee:=.builtin .append,args:=#[r,x],argTypes:=#[t,t] },ty,pos,after,none⟩ E ((dst,own B e (k+vs.length) (xs++vs))::E'):=by
 obtain⟨i,hi,hz,hs,hby⟩:=hinfo.get
 intro κ a w K Q h hK
 obtain⟨hown,hob⟩:=h.at_ r _ hr
 obtain⟨c,A,us,hxe,hle,hcm,hul,hrow,hus⟩:=hf.of (h.at_ x _ hx)
 have huv:us=vs:=by
  apply List.ext_getElem?
  intro j
  simp only[List.length_map] at hul
  rcases Nat.lt_or_ge j vs.length with hj|hj
  ·have hu:us[j]?=some us[j]:=List.getElem?_eq_getElem (by omega)
   have h2:us[j]=vs[j]:=hus j (.v vs[j]) us[j] (by simp[hj]) hu
   rw[hu,h2,List.getElem?_eq_getElem hj]
  ·rw[List.getElem?_eq_none (by omega),List.getElem?_eq_none hj]
 subst huv
 simp only[List.length_map] at hxe hle hul
 have hrun:∃ v' w',(Builtin.append_ #[t,t] ty #[a.eval r,.slice A us.length c]).run P w = .ok v' w'∧w'.ownsRow B e 1 v' (k+us.length) (xs++us)∧w.grownBy w' (a.eval r).ownBlock ∧
   (v'.ownBlock=(a.eval r).ownBlock∨v'.ownBlock=some w.heap.size):=by
  have hbb:(k+us.length)*i.bytes<=(k+us.length)*64:=Nat.mul_le_mul_left _ (by omega)
  have hnil:us=[]->∀ c',(Builtin.append_ #[t,t] ty #[a.eval r,.slice none 0 c']).run P w = .ok (a.eval r) w:=by
   intro _ c'
   rcases hown.2 with ⟨hv,hn0⟩|⟨g,cap,cur,hv,_,_,hnc,_⟩
   ·rw[hv]; simp[Builtin.append_,run_underlying ht,sizeOf,typeInfo,hi,Builtin.lenOf,Builtin.firstCells]
   ·rw[hv]; simp[Builtin.append_,run_underlying ht,sizeOf,typeInfo,hi,Builtin.lenOf,Builtin.firstCells,hnc,storeCells]
  cases A with
  | none =>
   have hz:us=[]:=by
    cases us with
    | nil=>rfl
    | cons b l=>obtain⟨ad,h,_⟩:=hrow 0 b rfl; cases h
   subst hz
   exact⟨a.eval r,w,hnil rfl c,by simpa using hown,World.grownBy.refl w _,.inl rfl⟩
  | some ad =>
   obtain⟨v',w',h2,h3,h4,_,h6⟩:=run_append_own_at (P:=P) w B t ty e i z 1 i.bytes ht hi hz hs rfl hz1 (by omega) (a.eval r) k xs hown ad us.length c us (by simp) hrow.cell h1 (by simp only[maxLen]; omega) (by omega) h.base
   exact⟨v',w',h2,h3,h4,h6⟩
 obtain⟨v',w',hrun,h3,h4,h5⟩:=hrun
 have hexec:(execOp a.eval ⟨some dst,.call { callee:=.builtin .append,args:=#[r,x],argTypes:=#[t,t] },ty,pos,after,none⟩).run P w = .ok (.value v') w':=by
  simp[execOp,resolve,invoke,builtin,hxe,hrun]
 rw[if_pos (by simp[Region.wanted])]
 refine opR (by nofun) ?_
 unfold Oper.wp
 rw[hexec,Oper.upon_value]
 have hbase:∀ g,(a.eval r).ownBlock=some g->B<=g:=fun g hg=>by
  rcases hown.2 with ⟨hv,_⟩|⟨g',cap,cur,hv,hb,_⟩
  ·rw[hv] at hg; simp[Value.ownBlock] at hg
  ·rw[hv] at hg; simp[Value.ownBlock] at hg; omega
 have hbel:Below B w w':=(Below.refl B w).grown h4 h.base hbase
 have hlt:∀ g,v'.ownBlock=some g->g<w'.heap.size:=fun g hg=>by
  rcases h3.2 with ⟨hv,_⟩|⟨g',cap,cur,hv,_,hh,_⟩
  ·rw[hv] at hg; simp[Value.ownBlock] at hg
  ·rw[hv] at hg; simp[Value.ownBlock] at hg; subst hg
   rcases Nat.lt_or_ge g' w'.heap.size with h|h
   ·exact h
   ·rw[Array.getElem?_eq_none h] at hh; cases hh
 have hwr:∃ g,B<=g∧Wrote B e g w w':=by
  rcases hown.2 with ⟨hv,_⟩|⟨g',cap,cur,hv,hb,hh,_⟩
  ·refine⟨w.heap.size,h.base,h.base,h4.os,h4.tape,h4.output,h4.size,fun o hx=>?_,fun k hk _=>h4.block k hk (by rw[hv]; simp[Value.ownBlock])⟩
   rw[Array.getElem?_eq_none (Nat.le_refl _)] at hx; cases hx
  ·refine⟨g',hb,hb,h4.os,h4.tape,h4.output,h4.size,fun o hx=>?_,fun k hk hne=>h4.block k hk (by rw[hv]; simp[Value.ownBlock]; omega)⟩
   rw[hh] at hx; injection hx with hx; exact⟨_,_,hx.symm⟩
 obtain⟨g,hg,hwr⟩:=hwr
 have hst:St κ n B E' a w':=(hl g hg).st h hwr
 exact hK _ _ hbel (hst.put hdst ⟨h3,hlt⟩)
theorem ok_loadA{T:TypeId}{x:Operand}(hsl:vbase<=s)(ht:P.underlying T=some td)(hp:(match td with | .struct _ | .array _ _=>true|_=>false)=true)(hsz:SizeIs P T xs.length)
  (hx:E.at x=some (.v (.pointer (some ⟨b,0,none⟩))))(hblk:E.look s=some (blk b e xs)): OpOk P B ⟨dst,.load T x,ty,pos,after,guard⟩ E (.v (aggV xs)):=fun ρ w _ hv hρ=>by
 have h1:ρ x=_:=hρ x (by simp[Op.operands]) _ hx
 obtain⟨_,hh⟩:=hv s _ hsl hblk
 have:=run_loadVar_row (P:=P) w b e T xs.toArray (0,0) td hh ht hp (by simpa [SizeIs] using hsz)
 exact out_val (w':=w) (by simp[execOp,h1,Instr.loadAt,Instr.sureAddr,this,aggV]) ⟨Grow.refl w,rfl⟩
theorem ok_indexA{t:TypeId}{len:Nat}{z:Value}{nb:Nat}{x i:Operand}{o:Nat}{k:IntKind}{j:Int}(m:Nat)(ht:P.underlying t=some (.array len e))(hs:InfoIs P e z nb)(hx:E.at x=some (.v (.pointer (some ⟨b,o,none⟩))))(hi:E.at i=some (.v (.int k j)))
  (h0:j=(m:Int))(hn:m<len): OpOk P B ⟨dst,.indexAddr t x i,ty,pos,after,guard⟩ E (.v (.pointer (some ⟨b,o+m,none⟩))):=fun ρ w _ _ hρ=>by
 have h1:ρ x=_:=hρ x (by simp[Op.operands]) _ hx
 have hi':ρ i = .int k j:=hρ i (by simp[Op.operands]) _ hi
 obtain⟨info,hinfo,_,hsize,_⟩:=hs.get
 refine out_val (w':=w) ?_ ⟨Grow.refl w,rfl⟩
 subst h0
 have hadd:(⟨b,o,none⟩:Addr).add m=⟨b,o+m,none⟩:=by unfold Addr.add; split<;>simp_all
 simp[execOp,h1,hi',Instr.indexAt,Instr.sureAddr,asIntOf,run_underlying ht,sizeOf,typeInfo,hinfo,hsize,hadd]
 intro hle
 omega
theorem ok_index0{t:TypeId}{len:Nat}{z:Value}{nb:Nat}{x i:Operand}{k:IntKind}{j:Int}(m:Nat)(ht:P.underlying t=some (.array len e))(hs:InfoIs P e z nb)(hx:E.at x=some (.v (.pointer (some ⟨b,0,none⟩))))(hi:E.at i=some (.v (.int k j)))
  (h0:j=(m:Int))(hn:m<len): OpOk P B ⟨dst,.indexAddr t x i,ty,pos,after,guard⟩ E (.v (.pointer (some ⟨b,m,none⟩))):=by
 have:=ok_indexA (P:=P) (B:=B) (dst:=dst) (ty:=ty) (pos:=pos) (after:=after) (guard:=guard) m ht hs hx hi h0 hn
 rwa [Nat.zero_add] at this
theorem ok_sliceA{t:TypeId}{len:Nat}{z:Value}{nb:Nat}{x:Operand}{lo hi:Option Operand}{e':TypeId}(l h:Nat)(hsl:vbase<=s)(ht:P.underlying t=some (.array len e))(hs:InfoIs P e z nb)(hx:E.at x=some (.v (.pointer (some ⟨b,0,none⟩))))(hblk:E.look s=some (blk b e' xs))
  (hlo:(∃ o k,lo=some o∧E.at o=some (.v (.int k (l:Int))))∨(lo=none∧l=0))(hhi:(∃ o k,hi=some o∧E.at o=some (.v (.int k (h:Int))))∨(hi=none∧h=len))(hlh:l<=h)(hhn:h<=len)(hlen:len=xs.length)(hmax:len<=maxLen):
  OpOk P B ⟨dst,.slice t x lo hi none,ty,pos,after,guard⟩ E (lst (((xs.take h).drop l).map .v)):=fun ρ w _ hv hρ=>by
 have h1:ρ x=_:=hρ x (by simp[Op.operands]) _ hx
 obtain⟨hlt,hh⟩:=hv s _ hsl hblk
 obtain⟨info,hinfo,_,hsize,_⟩:=hs.get
 have hlo':∃ k,lo.map ρ=some (.int k (l:Int))∨(lo.map ρ=none∧l=0):=by
  rcases hlo with ⟨o,k,rfl,ho⟩|⟨rfl,hl⟩
  ·have:ρ o = .int k (l:Int):=hρ o (by simp[Op.operands]) _ ho
   exact⟨k,.inl (by simp[this])⟩
  ·exact⟨.i64,.inr ⟨rfl,hl⟩⟩
 have hhi':∃ k,hi.map ρ=some (.int k (h:Int))∨(hi.map ρ=none∧h=len):=by
  rcases hhi with ⟨o,k,rfl,ho⟩|⟨rfl,hl⟩
  ·have:ρ o = .int k (h:Int):=hρ o (by simp[Op.operands]) _ ho
   exact⟨k,.inl (by simp[this])⟩
  ·exact⟨.i64,.inr ⟨rfl,hl⟩⟩
 obtain⟨k,hlo'⟩:=hlo'
 obtain⟨k',hhi'⟩:=hhi'
 have hr:(Instr.sliceAt t (.pointer (some ⟨b,0,none⟩)) (lo.map ρ) (hi.map ρ) none).run P w = .ok (.slice (some (if len=l then ⟨b,0,none⟩ else (⟨b,0,none⟩:Addr).add l)) (h-l) (len-l)) w:=by
  rcases hlo' with h2|⟨h2,rfl⟩<;>rcases hhi' with h3|⟨h3,rfl⟩ <;>
   simp[h2,h3,Instr.sliceAt,run_underlying ht,Instr.sureAddr,Instr.sliceBounds,Instr.sliceBound,asIntOf,sizeOf,typeInfo,hinfo,hsize,hlh,hhn]
 refine out_val (x:=.slice (some (if len=l then ⟨b,0,none⟩ else (⟨b,0,none⟩:Addr).add l)) (h-l) (len-l)) (w':=w) (by simp only[execOp,h1,Option.map_none,Sem.run_bind,hr,Result.andThen_ok,Sem.run_pure]) ⟨Grow.refl w,len-l,some (if len=l then ⟨b,0,none⟩ else (⟨b,0,none⟩:Addr).add l),(xs.take h).drop l,?_,?_,?_,?_,?_,?_⟩
 ·congr 1; simp; omega
 ·simp; omega
 ·omega
 ·simp
 ·intro j u hu
  rw[List.getElem?_drop,List.getElem?_take] at hu
  split at hu
  ·rename_i hj
   refine⟨_,rfl,?_,?_⟩
   ·split
    ·exact hlt
    ·rw[block_of_add]; exact hlt
   ·rw[if_neg (by omega),add_of_add]
    have:=blk_row hlt hh xs.length
    rw[List.take_length] at this
    exact this.cell _ u hu
  ·cases hu
 ·intro j d u hd hu
  simp only[List.getElem?_map,hu,Option.map_some,Option.some.injEq] at hd; subst hd; rfl
theorem ok_lit{t:TypeId}{ps:Array (Nat×Operand)}(us:List (Nat×Value))(ys:List Value)(hp:∀ ρ:Operand->Value,(∀ x,x∈(ps.toList.map (·.2))->∀ v,E.at x=some (.v v)->ρ x=v)->ps.toList.map (fun p=>(p.1,ρ p.2))=us)(hb:P.built t us=some ys.toArray):
  OpOk P B ⟨dst,.build t ps,ty,pos,after,guard⟩ E (.v (aggV ys)):=fun ρ w _ _ hρ=>by
 have h1:=hp ρ fun x hx v hv=>hρ x (by simp[Op.operands]; simpa using hx) _ hv
 have h2:(ps.map fun(i,x)=>(i,ρ x)).toList=us:=by rw[<- h1]; simp
 have:=run_build (P:=P) w t (ps.map fun(i,x)=>(i,ρ x)) ys.toArray (by rw[h2]; exact hb)
 exact out_val (w':=w) (by simp[execOp,this,aggV]) ⟨Grow.refl w,rfl⟩
def LitD (E:Env):List Value->List (Nat×Operand)->Nat->Prop
 | [],[],_=>True
 | u::us,(i,x)::ps,k=>i=k∧E.at x=some (.v u)∧LitD E us ps (k+1)
 | _,_,_=>False
theorem LitD.map {ρ:Operand->Value}:∀ {us:List Value} {ps:List (Nat×Operand)} {k:Nat},LitD E us ps k->(∀ x,x∈ps.map (·.2)->∀ v,E.at x=some (.v v)->ρ x=v)->ps.map (fun p=>(p.1,ρ p.2))=(us.zipIdx k).map fun x=>(x.2,x.1)
 | [],[],_,_,_=>rfl
 | [],_::_,_,h,_=>h.elim
 | _::_,[],_,h,_=>h.elim
 | u::us,(i,x)::ps,k,⟨h1,h2,h3⟩,hρ=>by
  subst h1
  simp only[List.map_cons,List.zipIdx_cons,hρ x (by simp) u h2]
  rw[LitD.map h3 fun y hy v hv=>hρ y (by simp only[List.map_cons,List.mem_cons]; exact .inr hy) v hv]
theorem ok_litP{t:TypeId}{ps:Array (Nat×Operand)}{z:Value}{nb len:Nat}(us:List Value)(ht:P.underlying t=some (.array len e))(hinfo:InfoIs P e z nb)(hz:ZeroIs P t (List.replicate len z))(hn:us.length<=len)(hl:LitD E us ps.toList 0)(h1:us.all (·.oneCell')=true):
  OpOk P B ⟨dst,.build t ps,ty,pos,after,guard⟩ E (.v (aggV (us++List.replicate (len-us.length) z))):=fun ρ w _ _ hρ=>by
 obtain⟨it,zv,hi,hzv,hc⟩:=hz.get
 obtain⟨ie,hie,_,hs,_⟩:=hinfo.get
 have h3:=hl.map (ρ:=ρ) fun x hx v hv=>hρ x (by simp[Op.operands]; simpa using hx) _ hv
 have h2:(ps.map fun(i,x)=>(i,ρ x)).toList=(us.zipIdx 0).map fun x=>(x.2,x.1):=by rw[<- h3]; simp
 have hb:P.built t (ps.map fun(i,x)=>(i,ρ x)).toList=some (us++List.replicate (len-us.length) z).toArray:=by
  have hf:=fill_dense us [] (List.replicate len z) 0 (fun u hu=>by simpa using (List.all_eq_true.1 h1) u hu) rfl (by simpa using hn)
  simp only[Nat.mul_one,List.nil_append,List.drop_replicate] at hf
  simp only[Program.built,hi,ht,hzv,hie,hc,h2,hs,Nat.mul_one]
  exact hf
 have:=run_build (P:=P) w t (ps.map fun(i,x)=>(i,ρ x)) _ hb
 exact out_val (w':=w) (by simp[execOp,this,aggV]) ⟨Grow.refl w,rfl⟩
theorem ok_litA{t:TypeId}{ps:Array (Nat×Operand)}{z:Value}{nb len:Nat}(us:List Value)(ht:P.underlying t=some (.array len e))(hinfo:InfoIs P e z nb)(hz:ZeroIs P t (List.replicate len z))(hn:us.length=len)(hl:LitD E us ps.toList 0)(h1:us.all (·.oneCell')=true):
  OpOk P B ⟨dst,.build t ps,ty,pos,after,guard⟩ E (.v (aggV us)):=by
 have:=ok_litP (P:=P) (B:=B) (dst:=dst) (ty:=ty) (pos:=pos) (after:=after) (guard:=guard) us ht hinfo hz (Nat.le_of_eq hn) hl h1
 rw[hn,Nat.sub_self,List.replicate_zero,List.append_nil] at this
 exact this
theorem ok_xorU{t:TypeId}{x:Operand}{k:IntKind}{a:Int}{c:Value}(hk:k.signed=false)(hx:E.at x=some (.v (.int k a)))(hc:c = .int k (k.wrap (BitVec.ofInt k.bits k.max ^^^ BitVec.ofInt k.bits a).toNat)): OpOk P B ⟨dst,.unOp .xor t x,ty,pos,after,guard⟩ E (.v c):=fun ρ w _ _ hρ=>by
 have h1:=hρ x (by simp[Op.operands]) _ hx
 subst hc
 exact out_val (w':=w) (by simp[execOp,(show ρ x=_ from h1),Op.unary,Op.intBits,hk]) ⟨Grow.refl w,rfl⟩
end
section
variable {P:Program} {w₀:World} {n:Nat} {E:Env}
theorem End.cell1{fn:Func}{r:Nat}{T:TypeId}(hr:fn.results=#[.cell r T])(ht:P.underlying T=some td)(hp:(match td with | .struct _ | .array _ _=>true|_=>false)=true)(hsz:SizeIs P T xs.length)
  (h1:E.look r=some (.v (.pointer (some ⟨b,0,none⟩))))(h2:E.look s=some (blk b e xs))(hl:Le (.v (aggV xs)) d): End Cx.top w₀ n E (BP P fn (PostOf w₀ d) .ret):=fun a w g hs=>by
 have h3:a.tmps[r]?.getD undef = .pointer (some ⟨b,0,none⟩):=by rw[<- Array.getD_eq_getD_getElem?]; exact hs.of r _ h1
 obtain⟨_,hh⟩:=hs.of s _ h2
 have:=run_loadVar_row (P:=P) w b e T xs.toArray (0,0) td hh ht hp (by simpa [SizeIs] using hsz)
 exact BP.ret hs.defers ⟨aggV xs,by simp[results,hr,h3,asAddr,this,aggV],_,rfl,g,hl.of rfl⟩
theorem End.cell2{fn:Func}{r r' s' b':Nat}{T T' e':TypeId}{td':TypeDesc}{xs':List Value}{d':D}(hr:fn.results=#[.cell r T,.cell r' T'])(ht:P.underlying T=some td)(hp:(match td with | .struct _ | .array _ _=>true|_=>false)=true)(hsz:SizeIs P T xs.length)
  (h1:E.look r=some (.v (.pointer (some ⟨b,0,none⟩))))(h2:E.look s=some (blk b e xs))(hl:Le (.v (aggV xs)) d)
  (ht':P.underlying T'=some td')(hp':(match td' with | .struct _ | .array _ _=>true|_=>false)=true)(hsz':SizeIs P T' xs'.length)
  (h1':E.look r'=some (.v (.pointer (some ⟨b',0,none⟩))))(h2':E.look s'=some (blk b' e' xs'))(hl':Le (.v (aggV xs')) d'): End Cx.top w₀ n E (BP P fn (PostOf w₀ (tup [d,d'])) .ret):=fun a w g hs=>by
 have h3:a.tmps[r]?.getD undef = .pointer (some ⟨b,0,none⟩):=by rw[<- Array.getD_eq_getD_getElem?]; exact hs.of r _ h1
 obtain⟨_,hh⟩:=hs.of s _ h2
 have k1:=run_loadVar_row (P:=P) w b e T xs.toArray (0,0) td hh ht hp (by simpa [SizeIs] using hsz)
 have h3':a.tmps[r']?.getD undef = .pointer (some ⟨b',0,none⟩):=by rw[<- Array.getD_eq_getD_getElem?]; exact hs.of r' _ h1'
 obtain⟨_,hh'⟩:=hs.of s' _ h2'
 have k2:=run_loadVar_row (P:=P) w b' e' T' xs'.toArray (0,0) td' hh' ht' hp' (by simpa [SizeIs] using hsz')
 refine BP.ret hs.defers ⟨.tuple #[aggV xs,aggV xs'],by simp[results,hr,h3,h3',asAddr,k1,k2,aggV],_,rfl,g,[aggV xs,aggV xs'],rfl,rfl,fun j e u he hu=>?_⟩
 match j,he,hu with
 | 0,he,hu=>simp at he hu; subst he; subst hu; exact hl.of rfl
 | 1,he,hu=>simp at he hu; subst he; subst hu; exact hl'.of rfl
 | j+2,he,_=>simp at he
end
end
section
variable {κ:Cx}
def tab (b:Nat) (xs:List Value):D :=
 .p (fun B w _=>b<B∧∃ e,w.heap[b]?=some (.cells xs.toArray e (0,0))) (fun _ _ _ _ g ⟨h1,e,h2⟩=>⟨h1,e,(g.block b h1).trans h2⟩) (fun _ _ _ _ g ⟨h1,h2⟩=>⟨Nat.lt_of_lt_of_le h1 g,h2⟩)
theorem Surv.tab{T g:Nat}(h:b≠g): Surv B T g (Go.Proofs.YtjigbkamgfidkaaGreatDoor.tab b xs):=fun _ _ _ k ⟨h1,e,h2⟩=>⟨Nat.lt_of_lt_of_le h1 k.size,e,(k.other b h1 h).trans h2⟩
structure FnM (P:Program) (f:FuncId) (M:Env) (ds:List D) (d:D):Prop where
 body:∃ fn,P.funcs[f]?=some fn∧(fn.name == "runtime.NumGoroutine")=false∧fn.body.isNone=false
 calls:∀ (vs:List Value) (w:World),(∀ p∈M,p.2.Of w undef)->vs.length=ds.length->(∀ (j:Nat) (e:D) (u:Value),ds[j]?=some e->vs[j]?=some u->e.Of w u)->Calls P f vs.toArray w (PostOf w d)
theorem Fn.m{f:FuncId}{M:Env}(h:Fn P f ds d): FnM P f M ds d:=⟨h.body,fun vs w _ h1 h2=>h.calls vs w h1 h2⟩
section
variable {P:Program} {B:Nat} {E:Env} {dst:Option Tmp} {ty:TypeId} {pos:String} {after:Array Edge} {guard:Option (Nat×Bool)}
theorem ok_callM{f:FuncId}{M:Env}{args:Array Operand}{argTypes:Array TypeId}(hf:FnM P f M ds d)(hM:Sub M E)(hMb:∀ p∈M,vbase<=p.1)(ha:Args E ds args.toList):
  OpOk P B ⟨dst,.call { callee:=.value (.func f),args:=args,argTypes:=argTypes },ty,pos,after,guard⟩ E d:=fun ρ w _ hv hρ=>by
 obtain⟨fn,h1,h2,h3⟩:=hf.body
 have hfun:ρ (.func f) = .func (.func f) #[] #[]:=hρ (.func f) (by simp[Op.operands,Call.operands]) _ rfl
 have hrun:(execOp ρ ⟨dst,.call { callee:=.value (.func f),args:=args,argTypes:=argTypes },ty,pos,after,guard⟩).run P w = .ok (.enter f (args.map ρ)) w:=by
  have h2':¬ fn.name = "runtime.NumGoroutine":=by simpa using h2
  have h3':¬ fn.body=none:=by intro h; rw[h] at h3; cases h3
  simp[execOp,resolve,Deferred.ofValue,hfun,invoke,callFunc,h1,h2',h3']
 unfold Out
 rw[hrun]
 have:=hf.calls (args.toList.map ρ) w (fun p hp=>hv p.1 p.2 (hMb p hp) (hM p hp)) (by rw[List.length_map,ha.length]) fun j e u he hu=>by
  rw[List.getElem?_map] at hu
  cases hx:args.toList[j]? with
  | none=>rw[hx] at hu; cases hu
  | some x =>
   rw[hx] at hu; injection hu with hu; subst hu
   obtain⟨e',h4,h5⟩:=ha.nth he hx
   exact h5.of (hρ x (by simp[Op.operands,Call.operands]; exact .inr (by simpa using List.mem_of_getElem? hx)) _ h4)
 have harr:(args.toList.map ρ).toArray=args.map ρ:=by apply Array.ext'; simp
 rw[harr] at this
 exact this.mono fun e w' ⟨x,he,g,hx⟩=>⟨x,he,g,hx⟩
end
def StartM (B:Nat) (ds:List D) (M:Env) (E:Env):Prop:=∀ p∈E,(p∈M∧vbase<=p.1)∨∃ d,ds[p.1]?=some d∧(p.2=d∨p.2=old B d)
theorem StartM.nil{M:Env}: StartM B ds M []:=fun _ h=>by cases h
theorem StartM.m{M:Env}{t:Nat}(h:(t,d)∈M)(ht:vbase<=t)(hr:StartM B ds M E): StartM B ds M ((t,d)::E):=fun p hp=>by
 rcases List.mem_cons.1 hp with rfl|hp
 ·exact .inl ⟨h,ht⟩
 ·exact hr p hp
theorem StartM.v{M:Env}{t:Nat}(h:ds[t]?=some d)(hr:StartM B ds M E): StartM B ds M ((t,d)::E):=fun p hp=>by
 rcases List.mem_cons.1 hp with rfl|hp
 ·exact .inr ⟨d,h,.inl rfl⟩
 ·exact hr p hp
theorem StartM.old{M:Env}{t:Nat}(h:ds[t]?=some d)(hr:StartM B ds M E): StartM B ds M ((t,Go.Proofs.YtjigbkamgfidkaaGreatDoor.old B d)::E):=fun p hp=>by
 rcases List.mem_cons.1 hp with rfl|hp
 ·exact .inr ⟨d,h,.inr rfl⟩
 ·exact hr p hp
theorem FnM.of{f:FuncId}{fn:Func}{c:Code}{M:Env}(hf:P.funcs[f]?=some fn)(hb:fn.body=some c)(hname:(fn.name == "runtime.NumGoroutine")=false)(hn:fn.ntmps=n)(hds:ds.length<=n)(hnv:n<=vbase)(E:World->Env)
  (hE:∀ w,StartM w.heap.size ds M (E w))(h:∀ w₀,(∀ p∈M,p.2.Of w₀ undef)->A Cx.top P w₀ n c (E w₀) (BP P fn (PostOf w₀ d))): FnM P f M ds d:=by
 refine⟨⟨fn,hf,hname,by rw[hb]; rfl⟩,fun vs w hM hl hv=>callsIn_FR.1 (callsIn_of_wp_marks (F:=FR none) (n:=0) hf hb trivial (h w hM _ w (Below.refl _ _) ⟨Nat.le_refl _,rfl,?_,fun t e he=>?_⟩))⟩
 ·simp[hl,hn]; omega
 ·show e.Of w ((vs.toArray++Array.replicate (fn.ntmps-vs.toArray.size) undef).getD t undef)
  rcases hE w _ (look_mem he) with ⟨hm,ht⟩|⟨d',hd',hor⟩
  ·have h1:=hM _ hm
   rwa [Array.getD_eq_getD_getElem?,Array.getElem?_eq_none (by simp[hl,hn]; simp only at ht; omega)]
  ·have hlt:t<vs.length:=by have:=(List.getElem?_eq_some_iff.1 hd').1; simp at this; omega
   have hget:(vs.toArray++Array.replicate (fn.ntmps-vs.toArray.size) undef).getD t undef=vs[t]:=by
    rw[Array.getD_eq_getD_getElem?,Array.getElem?_append_left (by simpa using hlt)]
    simp[hlt]
   rw[hget]
   have h1:=hv t d' vs[t] hd' (List.getElem?_eq_getElem hlt)
   rcases hor with h2|h2
   ·simp only at h2; rw[h2]; exact h1
   ·simp only at h2; rw[h2]; exact⟨Nat.le_refl _,h1⟩
theorem fresh_zeros{z:Nat}(hz:z<=maxLen): Le (fresh B e (List.replicate z (.int .u8 0)) z) (byt (List.replicate z 0)):=by
 have:=fresh_bytes (B:=B) (e:=e) (l:=List.replicate z 0) (n:=z) (by simp) hz
 rw[List.map_replicate] at this
 exact this.trans (le_byt _ _)
theorem freshS_one{x:Value}(h:(fresh B e xs n).Of w x): x.oneCell'=true:=by
 obtain⟨b,rfl,_⟩:=h; rfl
theorem own_one{x:Value}(h:(own B e n xs).Of w x): x.oneCell'=true:=by
 rcases h.1.2 with ⟨rfl,_⟩|⟨_,_,_,rfl,_⟩<;>rfl
theorem own_cat{m:Nat}{l:List UInt8}(hx:xs=l.map byteV)(hm:m=l.length): Le (own B e m xs) (byt l):=by
 subst hx; exact own_byt hm
theorem own_mono{B':Nat}(h:B<=B'): Le (own B' e n xs) (own B e n xs):=fun _ _ _ ⟨⟨h1,h2⟩,h3⟩=>⟨⟨h1,h2.imp id fun⟨g,cap,cur,h4,h5,h6⟩=>⟨g,cap,cur,h4,by omega,h6⟩⟩,h3⟩
def FieldIs (P:Program) (T:TypeId) (i off m:Nat):Prop:=(P.underlying T).bind (fun d=>match d with | .struct fs=>(fs[i]?).bind fun f=>(P.info? f.type).map fun t=>(f.offset,t.size)|_=>none)=some (off,m)
theorem add_lit0(b o j:Nat): (⟨b,o,none⟩:Addr).add j=⟨b,o+j,none⟩:=by unfold Addr.add; split<;>simp_all
section
variable {P:Program} {n B:Nat} {ops:Array Oper} {E:Env} {dst:Option Tmp} {ty:TypeId} {pos:String} {after:Array Edge} {guard:Option (Nat×Bool)}
theorem ok_field{t:TypeId}{x:Operand}{off m o:Nat}(hf:FieldIs P t i off m)(hm:0<m)(hx:E.at x=some (.v (.pointer (some ⟨b,o,none⟩)))):
  OpOk P B ⟨dst,.fieldAddr t x i,ty,pos,after,guard⟩ E (.v (.pointer (some ⟨b,o+off,none⟩))):=fun ρ w _ _ hρ=>by
 have h1:ρ x=_:=hρ x (by simp[Op.operands]) _ hx
 unfold FieldIs at hf
 cases hu:P.underlying t with
 | none=>rw[hu] at hf; cases hf
 | some d =>
  rw[hu] at hf
  cases d with
  | struct fs =>
   simp only[Option.bind_some] at hf
   cases hfi:fs[i]? with
   | none=>rw[hfi] at hf; cases hf
   | some f =>
    rw[hfi] at hf
    simp only[Option.bind_some] at hf
    cases hi:P.info? f.type with
    | none=>rw[hi] at hf; cases hf
    | some inf =>
     rw[hi] at hf
     simp only[Option.map_some,Option.some.injEq,Prod.mk.injEq] at hf
     obtain⟨h2,h3⟩:=hf
     refine out_val (w':=w) ?_ ⟨Grow.refl w,rfl⟩
     have:¬ inf.size=0:=by omega
     simp[execOp,h1,Instr.fieldAt,run_underlying hu,hfi,Instr.sureAddr,fieldPlace,sizeOf,typeInfo,hi,this,add_lit0,h2]
  | _=>simp at hf
theorem ok_loadT{T:TypeId}{x:Operand}(hsl:vbase<=s)(ht:P.underlying T=some td)(hp:(match td with | .struct _ | .array _ _=>true|_=>false)=true)(hsz:SizeIs P T xs.length)
  (hx:E.at x=some (.v (.pointer (some ⟨b,0,none⟩))))(htab:E.look s=some (tab b xs)): OpOk P B ⟨dst,.load T x,ty,pos,after,guard⟩ E (.v (aggV xs)):=fun ρ w _ hv hρ=>by
 have h1:ρ x=_:=hρ x (by simp[Op.operands]) _ hx
 obtain⟨_,e,hh⟩:=hv s _ hsl htab
 have:=run_loadVar_row (P:=P) w b e T xs.toArray (0,0) td hh ht hp (by simpa [SizeIs] using hsz)
 exact out_val (w':=w) (by simp[execOp,h1,Instr.loadAt,Instr.sureAddr,this,aggV]) ⟨Grow.refl w,rfl⟩
theorem ok_loadP{T:TypeId}{x:Operand}{o m:Nat}(hsl:vbase<=s)(ht:P.underlying T=some td)(hp:td.isRow=true)(hsz:SizeIs P T m)
  (hx:E.at x=some (.v (.pointer (some ⟨b,o,none⟩))))(hblk:E.look s=some (blk b e xs))(hle:o+m<=xs.length)(hys:(xs.drop o).take m=ys): OpOk P B ⟨dst,.load T x,ty,pos,after,guard⟩ E (.v (aggV ys)):=fun ρ w _ hv hρ=>by
 have h1:ρ x=_:=hρ x (by simp[Op.operands]) _ hx
 obtain⟨_,hh⟩:=hv s _ hsl hblk
 subst hys
 have hr:w.rangeAt b o ((xs.drop o).take m):=fun j v hj=>by
  rw[List.getElem?_take] at hj
  split at hj
  ·rw[List.getElem?_drop] at hj
   simp[World.cell?,hh,hj]
  ·cases hj
 have:=run_loadAt_mid (P:=P) w b o T _ td hr ht hp (by simp only[SizeIs] at hsz; rw[hsz]; simp; omega)
 exact out_val (w':=w) (by simp[execOp,h1,this,aggV]) ⟨Grow.refl w,rfl⟩
theorem heap_setCells (b:Nat) (e:TypeId):∀ (vs:List Value) (o:Nat) (w:World) (xs:List Value),w.heap[b]?=some (.cells xs.toArray e (0,0))->o+vs.length<=xs.length->(w.setCells b o vs).heap[b]?=some (.cells (xs.take o++vs++xs.drop (o+vs.length)).toArray e (0,0))
 | [],o,w,xs,h,_=>by simpa [World.setCells] using h
 | v::r,o,w,xs,h,hle=>by
  simp only[List.length_cons] at hle
  have h1:(w.setCell ⟨b,o,none⟩ v).heap[b]?=some (.cells (xs.set o v).toArray e (0,0)):=by
   simp[World.setCell,Array.getElem?_modify,h]
  have:=heap_setCells b e r (o+1) _ (xs.set o v) h1 (by simp; omega)
  rw[World.setCells,this]
  congr 3
  rw[List.take_set,List.drop_set]
  have hlt:o<xs.length:=by omega
  rw[List.set_eq_take_append_cons_drop,if_pos (by simp; omega),List.take_take,Nat.min_eq_left (Nat.le_succ o),List.drop_take]
  simp only[Nat.sub_self,List.take_zero,List.append_assoc,List.cons_append,List.nil_append,List.length_cons]
  rw[if_pos (by omega),show o+1+r.length=o+(r.length+1) from by omega]
theorem setCells_other (b:Nat):∀ (vs:List Value) (o:Nat) (w:World),(w.setCells b o vs).os=w.os∧(w.setCells b o vs).tape=w.tape∧(w.setCells b o vs).output=w.output∧(w.setCells b o vs).heap.size=w.heap.size∧∀ k,k≠b->(w.setCells b o vs).heap[k]?=w.heap[k]?
 | [],_,_=>⟨rfl,rfl,rfl,rfl,fun _ _=>rfl⟩
 | v::r,o,w=>by
  obtain⟨h1,h2,h3,h4,h5⟩:=setCells_other b r (o+1) (w.setCell ⟨b,o,none⟩ v)
  refine⟨h1,h2,h3,h4.trans (by simp[World.setCell]),fun k hk=>(h5 k hk).trans ?_⟩
  simp[World.setCell,Array.getElem?_modify,Ne.symm hk]
theorem Wrote.setCells{g:Nat}{T:TypeId}(hb:B<=g)(hh:w.heap[g]?=some (.cells xs.toArray T (0,0)))(o:Nat)(vs:List Value): Wrote B T g w (w.setCells g o vs):=by
 obtain⟨h1,h2,h3,h4,h5⟩:=setCells_other g vs o w
 exact⟨hb,h1,h2,h3,by omega,fun o h=>by rw[hh] at h; injection h with h; exact⟨_,_,h.symm⟩,fun k _ hk=>h5 k hk⟩
theorem eff_storeP{T:TypeId}{p x:Operand}{o:Nat}(hsz:SizeIs P T ys.length)(hp:E.at p=some (.v (.pointer (some ⟨b,o,none⟩))))(hx:E.at x=some (.v (aggV ys)))(h1:ys.all (·.oneCell')=true)
  (hb:B<=b)(hblk:E.look s=some (blk b e xs))(ho:o+ys.length<=xs.length)(hl:LeftS B e b E' E):
  Eff P n B ops ⟨none,.store T p x,ty,pos,after,none⟩ E ((s,blk b e (xs.take o++ys++xs.drop (o+ys.length)))::E'):=by
 intro κ a w K Q h hK
 have hp':a.eval p=_:=h.at_ p _ hp
 have hx':a.eval x=_:=h.at_ x _ hx
 obtain⟨hlt,hh⟩:=h.of s _ hblk
 have hthere:w.there b o ys.toArray.size:=fun j hj=>by
  simp only[List.size_toArray] at hj
  have:o+j<xs.length:=by omega
  simp[World.cell?,World.frozen?,hh,this]
 have hrun:(execOp a.eval ⟨none,.store T p x,ty,pos,after,none⟩).run P w = .ok .skip (w.setCells b o ys):=by
  have:=run_storeAt_mid (P:=P) w b o T ys.toArray hthere (by simpa [SizeIs] using hsz) (by simpa using h1)
  simp[execOp,hp',hx',aggV,this]
 rw[if_pos (by simp[Region.wanted])]
 refine opR (by nofun) ?_
 unfold Oper.wp
 rw[hrun,Oper.upon_skip]
 have hwr:=Wrote.setCells hb hh o ys
 have hst:=hl.st h hwr
 refine hK _ _ (hwr.below h.base) ⟨hst.base,hst.defers,hst.size,fun t' d hd=>?_⟩
 by_cases hts:s=t'
 ·subst hts
  rw[look_here] at hd; injection hd with hd; subst hd
  exact⟨Nat.lt_of_lt_of_le hlt hwr.size,heap_setCells b e ys o w xs hh ho⟩
 ·rw[look_past _ _ hts] at hd
  exact hst.of t' d hd
def Bnd (E:Env) (x:Option Operand) (v:Nat) (dflt:Nat):Prop:=(∃ o k,x=some o∧E.at o=some (.v (.int k (v:Int))))∨(x=none∧v=dflt)
theorem Bnd.get{ρ:Operand->Value}{x:Option Operand}{v dflt:Nat}(h:Bnd E x v dflt)(hρ:∀ o,x=some o->∀ u,E.at o=some (.v u)->ρ o=u): (∃ k,x.map ρ=some (.int k (v:Int)))∨(x.map ρ=none∧v=dflt):=by
 rcases h with ⟨o,k,rfl,ho⟩|⟨rfl,hv⟩
 ·exact .inl ⟨k,by simp[hρ o rfl _ ho]⟩
 ·exact .inr ⟨rfl,hv⟩
theorem sliceBounds_run{sl:Bool}{len cap l h m:Nat}{L H M:Option Value}(w:World)(hL:(∃ k,L=some (.int k (l:Int)))∨(L=none∧l=0))(hH:(∃ k,H=some (.int k (h:Int)))∨(H=none∧M=none∧h=len))
  (hM:(∃ k,M=some (.int k (m:Int)))∨(M=none∧m=cap))(hlh:l<=h)(hhm:h<=m)(hml:m<=cap): (Instr.sliceBounds sl len cap L H M).run P w = .ok (l,h,m) w:=by
 rcases hL with ⟨k1,rfl⟩|⟨rfl,rfl⟩<;>rcases hH with ⟨k2,rfl⟩|⟨rfl,hx,rfl⟩<;>rcases hM with ⟨k3,rfl⟩|⟨rfl,rfl⟩ <;>
  first
   | (cases hx; done)
   | (simp[Instr.sliceBounds,Instr.sliceBound,asIntOf,hlh,hhm,hml]; done)
   | simp[Instr.sliceBounds,Instr.sliceBound,asIntOf,hhm]
theorem ok_sliceX{t:TypeId}{len:Nat}{z:Value}{nb:Nat}{x:Operand}{lo hi mx:Option Operand}{o h m:Nat}(ht:P.underlying t=some (.array len e))(hs:InfoIs P e z nb)(hx:E.at x=some (.v (.pointer (some ⟨b,o,none⟩))))
  (hlo:Bnd E lo l 0)(hhi:(∃ ho k,hi=some ho∧E.at ho=some (.v (.int k (h:Int))))∨(hi=none∧mx=none∧h=len))(hmx:Bnd E mx m len)(hlh:l<=h)(hhm:h<=m)(hml:m<=len)(hne:l<m∨l=0):
  OpOk P B ⟨dst,.slice t x lo hi mx,ty,pos,after,guard⟩ E (.v (.slice (some ⟨b,o+l,none⟩) (h-l) (m-l))):=fun ρ w _ _ hρ=>by
 have h1:ρ x=_:=hρ x (by simp[Op.operands]) _ hx
 obtain⟨info,hinfo,_,hsize,_⟩:=hs.get
 have hlo':=hlo.get (ρ:=ρ) fun o ho u hu=>hρ o (by simp[Op.operands,ho]) _ hu
 have hmx':=hmx.get (ρ:=ρ) fun o ho u hu=>hρ o (by simp[Op.operands,ho]) _ hu
 have hhi':(∃ k,hi.map ρ=some (.int k (h:Int)))∨(hi.map ρ=none∧mx.map ρ=none∧h=len):=by
  rcases hhi with ⟨ho,k,rfl,hh⟩|⟨rfl,rfl,hh⟩
  ·exact .inl ⟨k,by simp[show ρ ho=_ from hρ ho (by simp[Op.operands]) _ hh]⟩
  ·exact .inr ⟨rfl,rfl,hh⟩
 have haddr:(if m=l then (⟨b,o,none⟩:Addr) else (⟨b,o,none⟩:Addr).add (l*1))=⟨b,o+l,none⟩:=by
  rw[add_lit0,Nat.mul_one]
  split
  ·rcases hne with h|h
   ·omega
   ·rw[h,Nat.add_zero]
  ·rfl
 have hr:(Instr.sliceAt t (.pointer (some ⟨b,o,none⟩)) (lo.map ρ) (hi.map ρ) (mx.map ρ)).run P w = .ok (.slice (some ⟨b,o+l,none⟩) (h-l) (m-l)) w:=by
  rw[<- haddr]
  have hb:=sliceBounds_run (P:=P) (sl:=false) w hlo' hhi' hmx' hlh hhm hml
  simp[Instr.sliceAt,run_underlying ht,Instr.sureAddr,hb,sizeOf,typeInfo,hinfo,hsize]
 exact out_val (w':=w) (by simp only[execOp,h1,Sem.run_bind,hr,Result.andThen_ok,Sem.run_pure]) ⟨Grow.refl w,rfl⟩
theorem ok_sliceS{t:TypeId}{z:Value}{nb:Nat}{x:Operand}{lo hi mx:Option Operand}{o len cap h m:Nat}(ht:P.underlying t=some (.slice e))(hs:InfoIs P e z nb)(hx:E.at x=some (.v (.slice (some ⟨b,o,none⟩) len cap)))
  (hlo:Bnd E lo l 0)(hhi:(∃ ho k,hi=some ho∧E.at ho=some (.v (.int k (h:Int))))∨(hi=none∧mx=none∧h=len))(hmx:Bnd E mx m cap)(hlh:l<=h)(hhm:h<=m)(hml:m<=cap)(hne:l<m∨l=0):
  OpOk P B ⟨dst,.slice t x lo hi mx,ty,pos,after,guard⟩ E (.v (.slice (some ⟨b,o+l,none⟩) (h-l) (m-l))):=fun ρ w _ _ hρ=>by
 have h1:ρ x=_:=hρ x (by simp[Op.operands]) _ hx
 obtain⟨info,hinfo,_,hsize,_⟩:=hs.get
 have hlo':=hlo.get (ρ:=ρ) fun o ho u hu=>hρ o (by simp[Op.operands,ho]) _ hu
 have hmx':=hmx.get (ρ:=ρ) fun o ho u hu=>hρ o (by simp[Op.operands,ho]) _ hu
 have hhi':(∃ k,hi.map ρ=some (.int k (h:Int)))∨(hi.map ρ=none∧mx.map ρ=none∧h=len):=by
  rcases hhi with ⟨ho,k,rfl,hh⟩|⟨rfl,rfl,hh⟩
  ·exact .inl ⟨k,by simp[show ρ ho=_ from hρ ho (by simp[Op.operands]) _ hh]⟩
  ·exact .inr ⟨rfl,rfl,hh⟩
 have haddr:(if m=l then (⟨b,o,none⟩:Addr) else (⟨b,o,none⟩:Addr).add (l*1))=⟨b,o+l,none⟩:=by
  rw[add_lit0,Nat.mul_one]
  split
  ·rcases hne with h|h
   ·omega
   ·rw[h,Nat.add_zero]
  ·rfl
 have hr:(Instr.sliceAt t (.slice (some ⟨b,o,none⟩) len cap) (lo.map ρ) (hi.map ρ) (mx.map ρ)).run P w = .ok (.slice (some ⟨b,o+l,none⟩) (h-l) (m-l)) w:=by
  rw[<- haddr]
  have hb:=sliceBounds_run (P:=P) (sl:=true) w hlo' hhi' hmx' hlh hhm hml
  simp only[Instr.sliceAt,Instr.slice,Sem.run_bind,run_underlying ht,Result.andThen_ok,hb,sizeOf,typeInfo]
  simp[hinfo,hsize]
  split<;>rfl
 exact out_val (w':=w) (by simp only[execOp,h1,Sem.run_bind,hr,Result.andThen_ok,Sem.run_pure]) ⟨Grow.refl w,rfl⟩
theorem ok_arrayAt{t:TypeId}{len:Nat}{x:Operand}{a:Addr}{m c:Nat}(ht:P.underlying t=some (.array len e))(hx:E.at x=some (.v (.slice (some a) m c)))(hm:len<=m):
  OpOk P B ⟨dst,.sliceToArrayPointer t x,ty,pos,after,guard⟩ E (.v (.pointer (some a))):=fun ρ w _ _ hρ=>by
 have h1:ρ x=_:=hρ x (by simp[Op.operands]) _ hx
 have:¬ m<len:=by omega
 exact out_val (w':=w) (by simp[execOp,h1,Instr.arrayAt,run_underlying ht,this]) ⟨Grow.refl w,rfl⟩
theorem ok_sliceO{t:TypeId}{z:Value}{nb B':Nat}{x:Operand}{lo hi:Option Operand}{f:D}(l h:Nat)(ht:P.underlying t=some (.slice e))(hs:InfoIs P e z nb)(hx:E.at x=some (old B' f))(hf:Le f (lst ds))
  (hlo:Bnd E lo l 0)(hhi:Bnd E hi h ds.length)(hlh:l<=h)(hhn:h<=ds.length): OpOk P B ⟨dst,.slice t x lo hi none,ty,pos,after,guard⟩ E (old B' (lst ((ds.take h).drop l))):=fun ρ w _ _ hρ=>by
 have hx0:(old B' f).Of w (ρ x):=hρ x (by simp[Op.operands]) _ hx
 obtain⟨hB,hx1⟩:=hx0
 obtain⟨c,A,vs,h1,h2,h3,h4,h5,h6⟩:=hf B' w _ hx1
 have hlo':=hlo.get (ρ:=ρ) fun o ho u hu=>hρ o (by simp[Op.operands,ho]) _ hu
 have hhi':=hhi.get (ρ:=ρ) fun o ho u hu=>hρ o (by simp[Op.operands,ho]) _ hu
 have hlo2:∃ k,lo.map ρ=some (.int k (l:Int))∨(lo.map ρ=none∧l=0):=hlo'.elim (fun⟨k,h⟩=>⟨k,.inl h⟩) fun h=>⟨.i64,.inr h⟩
 have hhi2:∃ k,hi.map ρ=some (.int k (h:Int))∨(hi.map ρ=none∧h=ds.length):=hhi'.elim (fun⟨k,h⟩=>⟨k,.inl h⟩) fun h=>⟨.i64,.inr h⟩
 obtain⟨k,hlo2⟩:=hlo2
 obtain⟨k',hhi2⟩:=hhi2
 have hr:=run_slice_list (P:=P) ht hs w A ds.length c l h (lo.map ρ) (hi.map ρ) k k' hlo2 hhi2 hlh (by omega)
 have hlen:((ds.take h).drop l).length=h-l:=by simp; omega
 refine out_val (x:=.slice (if c=l then A else A.map (·.add l)) (h-l) (c-l)) (w':=w) (by simp[execOp,h1,hr]) ⟨Grow.refl w,hB,c-l,_,(vs.take h).drop l,by rw[hlen],by rw[hlen]; omega,by omega,by simp; omega,?_,?_⟩
 ·intro j u hu
  rw[List.getElem?_drop,List.getElem?_take] at hu
  split at hu
  ·obtain⟨ad,rfl,hb,hc⟩:=h5 _ _ hu
   rw[if_neg (by omega)]
   exact⟨ad.add l,rfl,by rw[block_of_add]; exact hb,by rw[add_of_add]; exact hc⟩
  ·cases hu
 ·intro j d u hd hu
  rw[List.getElem?_drop,List.getElem?_take] at hd hu
  split at hd
  ·rename_i hlt; rw[if_pos hlt] at hu; exact h6 _ _ _ hd hu
  ·cases hd
theorem ok_indexV1{t:TypeId}{len:Nat}{z:Value}{nb:Nat}{x i:Operand}{k:IntKind}{j:Int}{u:Value}(m:Nat)(ht:P.underlying t=some (.array len e))(he:P.underlying e=some td)(hp:plainTD td=true)(hs:InfoIs P e z nb)
  (hx:E.at x=some (.v (aggV xs)))(hi:E.at i=some (.v (.int k j)))(hj:j=(m:Int))(hm:m<len)(hu:xs[m]?=some u): OpOk P B ⟨dst,.index t x i,ty,pos,after,guard⟩ E (.v u):=fun ρ w _ _ hρ=>by
 have h1:ρ x=_:=hρ x (by simp[Op.operands]) _ hx
 have h2:ρ i=_:=hρ i (by simp[Op.operands]) _ hi
 obtain⟨info,hinfo,_,hsize,_⟩:=hs.get
 subst hj
 have hagg:(isAgg e).run P w = .ok false w:=by
  unfold isAgg
  rw[Sem.run_bind,run_underlying he w]
  cases td<;>simp_all [plainTD]
 refine out_val (w':=w) ?_ ⟨Grow.refl w,rfl⟩
 simp[execOp,h1,h2,aggV,Instr.index,asIntOf,run_underlying ht,hm,sizeOf,typeInfo,hinfo,hsize,part,hagg,hu]
theorem eff_copyS{t:TypeId}{z:Value}{nb:Nat}{r x:Operand}{o dn dc dst:Nat}{f:D}{l:List UInt8}{e':TypeId}(ht:P.underlying t=some (.slice e))(hinfo:InfoIs P e z nb)
  (hr:E.at r=some (.v (.slice (some ⟨b,o,none⟩) dn dc)))(hx:E.at x=some f)(hf:Le f (byt l))(hb:B<=b)(hblk:E.look s=some (blk b e' xs))(hfit:o+dn<=xs.length)(hdst:dst<n)(hl:LeftS B e' b E' E):
  Eff P n B ops ⟨some dst,.call { callee:=.builtin .copy,args:=#[r,x],argTypes:=#[t,t] },ty,pos,after,none⟩ E ((dst,.v (.int .i64 ((min l.length dn:Nat):Int)))::(s,blk b e' (xs.take o++(l.take dn).map byteV++xs.drop (o+min l.length dn)))::E'):=by
 obtain⟨i,hi,_,hs,_⟩:=hinfo.get
 intro κ a w K Q h hK
 have hre:a.eval r=_:=h.at_ r _ hr
 obtain⟨c,hby⟩:=hf.of (h.at_ x _ hx)
 obtain⟨A,hxe,hle,hcm,hrow⟩:=bytes_open (l:=l) hby
 obtain⟨hlt,hh⟩:=h.of s _ hblk
 have hsz:(P.info? e).map (·.size)=some 1:=by rw[hi]; simp[hs]
 have hrun:∃ w',(Builtin.copy_ #[t,t] ty #[a.eval r,.slice A l.length c]).run P w = .ok (.int .i64 ((min l.length dn:Nat):Int)) w'∧Wrote B e' b w w'∧w'.heap[b]?=some (.cells (xs.take o++(l.take dn).map byteV++xs.drop (o+min l.length dn)).toArray e' (0,0))∧b<w'.heap.size:=by
  rw[hre]
  cases A with
  | none =>
   have hz:l=[]:=by
    cases l with
    | nil=>rfl
    | cons b l=>obtain⟨ad,h,_⟩:=hrow 0 (byteV b) rfl; cases h
   subst hz
   refine⟨w,by simpa [goInt] using run_copy_none (P:=P) w t t ty e (some ⟨b,o,none⟩) none dn dc 0 c ht hsz (by simp),⟨hb,rfl,rfl,rfl,Nat.le_refl _,fun o h=>by rw[hh] at h; injection h with h; exact⟨_,_,h.symm⟩,fun _ _ _=>rfl⟩,?_,hlt⟩
   simp only[List.take_nil,List.map_nil,List.append_nil,List.length_nil,Nat.zero_min,Nat.add_zero,List.take_append_drop]; exact hh
  | some ad =>
   have hmin:((l.take dn).map byteV).length=Nat.min l.length dn:=by rw[List.length_map,List.length_take]; exact Nat.min_comm _ _
   have hr:=run_copy_row (P:=P) w t t ty e b o dn dc ad l.length c xs.toArray e' ((l.take dn).map byteV) ht hsz hh hmin (fun j u hu=>hrow.cell j u (by
    rw[List.map_take,List.getElem?_take] at hu
    split at hu
    ·exact hu
    ·cases hu)) (by simp only[List.size_toArray,List.length_map,List.length_take]; have:min dn l.length<=dn:=Nat.min_le_left _ _; omega) (fun v hv=>by
    simp only[List.mem_map] at hv; obtain⟨u,_,rfl⟩:=hv; rfl)
   rw[hmin] at hr
   have hr:(Builtin.copy_ #[t,t] ty #[.slice (some ⟨b,o,none⟩) dn dc,.slice (some ad) l.length c]).run P w = .ok (.int .i64 ((min l.length dn:Nat):Int)) (w.setRow b (xs.take o++(l.take dn).map byteV++xs.drop (o+min l.length dn)).toArray):=hr
   refine⟨_,hr,?_,?_,?_⟩
   ·exact Wrote.setRow hb hh _
   ·simp[World.setRow,Array.getElem?_modify,hh]
   ·simpa [World.setRow] using hlt
 obtain⟨w',hrun,hwr,hh',hlt'⟩:=hrun
 have hexec:(execOp a.eval ⟨some dst,.call { callee:=.builtin .copy,args:=#[r,x],argTypes:=#[t,t] },ty,pos,after,none⟩).run P w = .ok (.value (.int .i64 ((min l.length dn:Nat):Int))) w':=by
  simp[execOp,resolve,invoke,builtin,hxe,hrun]
 rw[if_pos (by simp[Region.wanted])]
 refine opR (by nofun) ?_
 unfold Oper.wp
 rw[hexec,Oper.upon_value]
 have hst0:=hl.st h hwr
 have hst:St κ n B ((s,blk b e' (xs.take o++(l.take dn).map byteV++xs.drop (o+min l.length dn)))::E') a w':=⟨hst0.base,hst0.defers,hst0.size,fun t' d hd=>by
  by_cases hts:s=t'
  ·subst hts
   rw[look_here] at hd; injection hd with hd; subst hd
   exact⟨hlt',hh'⟩
  ·rw[look_past _ _ hts] at hd
   exact hst0.of t' d hd⟩
 exact hK _ _ (hwr.below h.base) (hst.put hdst rfl)
theorem ok_appendCap{t:TypeId}{z:Value}{nb:Nat}{r x:Operand}{o m:Nat}{e':TypeId}{us:List Value}{f:D}{vs:List Value}(hsl:vbase<=s)(ht:P.underlying t=some (.slice e))(hinfo:InfoIs P e z nb)(hnb:nb<=64)(hz1:z.cells.size=1)
  (hr:E.at r=some (.v (.slice (some ⟨b,o,none⟩) m m)))(hblk:E.look s=some (blk b e' xs))(hus:(xs.drop o).take m=us)(hm:o+m<=xs.length)(hx:E.at x=some f)(hf:Le f (lst (vs.map .v)))(hpos:0<vs.length)(hk:m+vs.length<=1099511627776):
  OpOk P B ⟨dst,.call { callee:=.builtin .append,args:=#[r,x],argTypes:=#[t,t] },ty,pos,after,guard⟩ E (own B e (m+vs.length) (us++vs)):=fun ρ w hB hv hρ=>by
 obtain⟨i,hi,hz,hs,hby⟩:=hinfo.get
 have h1:ρ r=_:=hρ r (by simp[Op.operands,Call.operands]) _ hr
 obtain⟨hlt,hh⟩:=hv s _ hsl hblk
 obtain⟨c,A,ws,hxe,hle,hcm,hul,hrow,hws⟩:=hf.of (hρ x (by simp[Op.operands,Call.operands]) _ hx)
 have huv:ws=vs:=by
  apply List.ext_getElem?
  intro j
  simp only[List.length_map] at hul
  rcases Nat.lt_or_ge j vs.length with hj|hj
  ·have hu:ws[j]?=some ws[j]:=List.getElem?_eq_getElem (by omega)
   have h2:ws[j]=vs[j]:=hws j (.v vs[j]) ws[j] (by simp[hj]) hu
   rw[hu,h2,List.getElem?_eq_getElem hj]
  ·rw[List.getElem?_eq_none (by omega),List.getElem?_eq_none hj]
 subst huv
 simp only[List.length_map] at hxe hle hul
 cases A with
 | none =>
  exfalso
  cases ws with
  | nil=>simp at hpos
  | cons b l=>obtain⟨ad,h,_⟩:=hrow 0 b rfl; cases h
 | some ad =>
  have hbb:(m+ws.length)*i.bytes<=(m+ws.length)*64:=Nat.mul_le_mul_left _ (by omega)
  obtain⟨v',w',h2,h3,h4⟩:=run_append_arg_grows (P:=P) w t ty e i z 1 i.bytes ht hi hz hs rfl hz1 (by omega) ⟨b,o,none⟩ m m us (by subst hus; simp; omega) (fun j u hj=>by
   subst hus
   rw[List.getElem?_take] at hj
   split at hj
   ·rw[List.getElem?_drop] at hj
    rw[add_lit0]; simp[World.cell?,hh,hj]
   ·cases hj) ad ws.length c ws (by simp) hrow.cell (by omega) (by simp only[maxLen]; omega) (by omega)
  refine out_val (x:=v') (w':=w') (by simp[execOp,resolve,invoke,builtin,h1,hxe,h2]) ⟨(Below.refl w.heap.size w).grown h4 (Nat.le_refl _) (fun g hg=>by cases hg),?_⟩
  refine⟨⟨h3.1,h3.2.imp id ?_⟩,fun g hg=>?_⟩
  ·rintro ⟨g,cap,cur,h5,h6,h7⟩; exact⟨g,cap,cur,h5,by omega,h7⟩
  ·rcases h3.2 with ⟨hv',_⟩|⟨g',cap,cur,hv',_,hh',_⟩
   ·rw[hv'] at hg; simp[Value.ownBlock] at hg
   ·rw[hv'] at hg; simp[Value.ownBlock] at hg; subst hg
    rcases Nat.lt_or_ge g' w'.heap.size with h|h
    ·exact h
    ·rw[Array.getElem?_eq_none h] at hh'; cases hh'
end
theorem A.openOwn{c:Code}{Q:Exit->Act->World->Prop}{t:Nat}{m:Nat}(ht:E.look t=some (own w₀.heap.size e m xs))(hm:0<m)
  (h:∀ g cap ys,w₀.heap.size<=g->m<=cap->cap<=maxLen->(xs++ys).length=cap->xs.length=m->A κ P w₀ n c ((t,.v (.slice (some ⟨g,0,none⟩) m cap))::(k,blk g e (xs++ys))::E) Q): A κ P w₀ n c E Q:=fun a w g hs=>by
 obtain⟨⟨hlen,h1⟩,h2⟩:=hs.of t _ ht
 rcases h1 with ⟨_,h0⟩|⟨b,cap,cur,hv,hb,hh,hnc,hcm,hsz,htk⟩
 ·omega
 ·have hlt:b<w.heap.size:=h2 b (by rw[hv]; simp[Value.ownBlock])
  have hcur:cur=(xs++cur.toList.drop m).toArray:=by
   apply Array.ext'
   simp only[Nat.mul_one] at htk
   rw[<- htk]; simp
  have hl:(xs++cur.toList.drop m).length=cap:=by
   have:=congrArg Array.size hcur
   simp only[List.size_toArray] at this
   omega
  refine h b cap (cur.toList.drop m) hb hnc hcm hl (by omega) a w g ⟨hs.base,hs.defers,hs.size,fun s d hd=>?_⟩
  by_cases hts:t=s
  ·subst hts
   rw[look_here] at hd; injection hd with hd; subst hd; exact hv
  ·rw[look_past _ _ hts] at hd
   by_cases hks:k=s
   ·subst hks
    rw[look_here] at hd; injection hd with hd; subst hd
    exact⟨hlt,by rw[<- hcur]; exact hh⟩
   ·rw[look_past _ _ hks] at hd
    exact hs.of s d hd
end
section
variable {κ:Cx}
abbrev nI (n:Nat):Value:=.int .i64 (n:Int)
abbrev nB (n:Nat):Value:=.int .u8 (n:Int)
abbrev nW (n:Nat):Value:=.int .u32 (n:Int)
abbrev nQ (n:Nat):Value:=.int .u64 (n:Int)
section
variable {P:Program} {B n:Nat} {ops:Array Oper} {E E':Env} {C:Env->Prop} {rest:List Oper} {t:Nat} {d:D} {ty:TypeId} {pos:String} {after:Array Edge} {o:Oper} {x y c:Operand} {s:Nat}
theorem KC(t:Nat)(h:E.look t=some d)(hs:Sub E' E): Sub ((t,d)::E') E:=Sub.cons h hs
theorem KE(t:Nat){e:D}(h:E.look t=some e)(he:e=d)(hs:Sub E' E): Sub ((t,d)::E') E:=Sub.eq e h he hs
theorem KN: Sub [] E:=Sub.nil
section
variable {T g:Nat}
theorem LV(t:Nat){v:Value}(h:E.look t=some (.v v))(hr:LeftS B T g E' E): LeftS B T g ((t,.v v)::E') E:=LeftS.cons h (Surv.v _) hr
theorem LT(t:Nat)(h:E.look t=some (blk b e xs))(hr:LeftS B T g E' E)(hne:e≠T:=by decide): LeftS B T g ((t,blk b e xs)::E') E:=LeftS.cons h (Surv.blkT hne) hr
theorem LB(t:Nat)(h:E.look t=some (blk b e xs))(hr:LeftS B T g E' E)(hne:b≠g:=by omega): LeftS B T g ((t,blk b e xs)::E') E:=LeftS.cons h (Surv.blk hne) hr
theorem LO(t:Nat){B':Nat}(h:E.look t=some (old B' d))(hr:LeftS B T g E' E)(hle:B'<=g:=by omega): LeftS B T g ((t,old B' d)::E') E:=LeftS.cons h (Surv.old hle) hr
theorem LN: LeftS B T g [] E:=LeftS.nil
end
theorem RS(h:OpOk P B o E d)(hr:RunK P B ops rest ((t,d)::E) C)(ht:o.dst=some t:=by exact rfl)(hg:o.guard=none:=by exact rfl): RunK P B ops (o::rest) E C:=RunK.step ht hg h hr
theorem RM(h:E.at x=some d)(hr:RunK P B ops rest ((t,d)::E) C): RunK P B ops (⟨some t,.move x,ty,pos,after,none⟩::rest) E C:=RunK.step rfl rfl (ok_move h) hr
theorem RA(h:E.at x=some d)(hr:RunK P B ops rest ((t,d)::E) C): RunK P B ops (⟨some t,.assign x,ty,pos,after,none⟩::rest) E C:=RunK.step rfl rfl (ok_assign h) hr
theorem RB{op:BinOp}{u u':TypeId}{a b v:Value}(hx:E.at x=some (.v a))(hy:E.at y=some (.v b))(h:binV op a b=some v)(hr:RunK P B ops rest ((t,.v v)::E) C): RunK P B ops (⟨some t,.binOp op u x y u',ty,pos,after,none⟩::rest) E C:=RunK.step rfl rfl (ok_bin hx hy h) hr
theorem RBS{op:BinOp}{u u':TypeId}{a b v:Value}(hx:E.at x=some (.v a))(hy:E.at y=some (.v b))(h:binV op a b=some v)(w:Value)(hw:v=w)(hr:RunK P B ops rest ((t,.v w)::E) C): RunK P B ops (⟨some t,.binOp op u x y u',ty,pos,after,none⟩::rest) E C:=RunK.step rfl rfl (ok_bin hx hy h) (RunK.as w hw hr)
theorem RP{b:Bool}(hc:E.at c=some (.v (.bool b)))(h:E.at (cond b x y)=some d)(hr:RunK P B ops rest ((t,d)::E) C): RunK P B ops (⟨some t,.pick c x y,ty,pos,after,none⟩::rest) E C:=RunK.step rfl rfl (ok_pick hc h) hr
theorem RQ{want:Bool}(h:OpOk P B o E d)(hr:RunK P B ops rest ((t,d)::E) C)(ht:o.dst=some t:=by exact rfl)(hg:o.guard=some (j,want):=by exact rfl)(hj:((ops[j]?).bind (·.dst))=some s:=by exact rfl)(hE:E.look s=some (.v (.bool want)):=by exact rfl): RunK P B ops (o::rest) E C:=RunK.guarded ht hg hj hE h hr
theorem RK{want b:Bool}(hr:RunK P B ops rest ((t,.v undef)::E) C)(ht:o.dst=some t:=by exact rfl)(hg:o.guard=some (j,want):=by exact rfl)(hj:((ops[j]?).bind (·.dst))=some s:=by exact rfl)(hE:E.look s=some (.v (.bool b)):=by exact rfl)(hc:(b==want)=false:=by exact rfl): RunK P B ops (o::rest) E C:=RunK.skipped ht hg hj hE hc hr
theorem RZ(x:Value){y:Value}(h:y=x)(hr:RunK P B ops rest ((t,.v x)::E) C): RunK P B ops rest ((t,.v y)::E) C:=RunK.as x h hr
theorem RN(h:C E): RunK P B ops [] E C:=RunK.nil h
theorem TL{draw:Bool}(h:RunK P B ops (ops.toList.drop s) E C): RunTK P n B ops draw C s E:=RunTK.last h
theorem TF(p:Nat)(h:RunK P B ops ((ops.toList.drop s).take (p-s)) E (fun E₁=>∃ E₂,Eff P n B ops o E₁ E₂∧RunTK P n B ops false C (p+1) E₂))(hsp:s<=p:=by decide)(ho:ops[p]?=some o:=by exact rfl): RunTK P n B ops false C s E:=RunTK.eff p hsp ho (.inl rfl) h
theorem TD(p:Nat)(h:RunK P B ops ((ops.toList.drop s).take (p-s)) E (fun E₁=>∃ E₂,Eff P n B ops o E₁ E₂∧RunTK P n B ops true C (p+1) E₂))(hsp:s<=p:=by decide)(ho:ops[p]?=some o:=by exact rfl)(hb:barrier ops p=true:=by kernel_rfl): RunTK P n B ops true C s E:=RunTK.eff p hsp ho (.inr hb) h
theorem TN(p:Nat)(h:RunK P B ops ((ops.toList.drop s).take (p-s)) E (fun E₁=>∃ (G:Nat->Prop) (E₂:Nat->Env),EffG P n B ops o E₁ G E₂∧∀ b,G b->RunTK P n B ops false C (p+1) (E₂ b)))(hsp:s<=p:=by decide)(ho:ops[p]?=some o:=by exact rfl): RunTK P n B ops false C s E:=RunTK.new p hsp ho (.inl rfl) h
theorem A1{a:D}{xs:Operand}(h:E.at xs=some a): Args E [a] [xs]:=Args.cons h (Le.refl _) Args.nil
theorem A2{a b:D}{x y:Operand}(h:E.at x=some a)(k:E.at y=some b): Args E [a,b] [x,y]:=Args.cons h (Le.refl _) (A1 k)
theorem A3{a b c:D}{x y z:Operand}(h:E.at x=some a)(k:E.at y=some b)(l:E.at z=some c): Args E [a,b,c] [x,y,z]:=Args.cons h (Le.refl _) (A2 k l)
end
section
variable {P:Program} {n:Nat} {w₀:World} {E E₁:Env} {y c:Code} {Q:Exit->Act->World->Prop} {id:Nat} {ops:Array Oper}
theorem GS(hr:RunTK P n w₀.heap.size ops false (fun E₁=>A κ P w₀ n y E₁ Q) 0 E)(hm:P.follows .mixedOrders=true:=by kernel_rfl)(hf:fits n ops=true:=by kernel_rfl): A κ P w₀ n (.seq (.region id ops false) y) E Q:=A.regs hm hf (.inl rfl) hr
theorem GD(hr:RunTK P n w₀.heap.size ops true (fun E₁=>A κ P w₀ n y E₁ Q) 0 E)(hm:P.follows .mixedOrders=true:=by kernel_rfl)(hf:fits n ops=true:=by kernel_rfl)(ht:tied ops=true:=by kernel_rfl): A κ P w₀ n (.seq (.region id ops true) y) E Q:=A.regs hm hf (.inr ht) hr
theorem EN(h:A κ P w₀ n y E Q): End κ w₀ n E (Exit.then (y.wpIn (FR κ.rd) 0 P Q) Q .normal):=End.normal_then (End.code h)
theorem GE(hr:RunTK P n w₀.heap.size ops false (fun E₁=>End κ w₀ n E₁ (Q .normal)) 0 E)(hm:P.follows .mixedOrders=true:=by kernel_rfl)(hf:fits n ops=true:=by kernel_rfl): A κ P w₀ n (.region id ops false) E Q:=A.reg hm hf (.inl rfl) hr
end
theorem LA{e:D}(h:Le e d:=by first|exact Le.refl _|exact Le.old _ _|exact le_byt _ _|exact(Le.old _ _).trans (le_byt _ _)|exact le_lst _ _|exact(Le.old _ _).trans (le_lst _ _)|exact(Le.old _ _).trans (Le.old _ _)|exact(Le.old _ _).trans ((Le.old _ _).trans (le_byt _ _))|exact byt_nil_le|exact lst_nil_le|exact bytes_nil_le|exact list_nil_le): Le e d:=h
end
theorem facts_nil: ∀ (j:Nat) (e:D) (u:Value),([]:List D)[j]?=some e->([]:List Value)[j]?=some u->e.Of w u:=fun j e u h=>by simp at h
theorem facts_cons{v:Value}{vs:List Value}(h:d.Of w v)(hr:∀ (j:Nat) (e:D) (u:Value),ds[j]?=some e->vs[j]?=some u->e.Of w u): ∀ (j:Nat) (e:D) (u:Value),(d::ds)[j]?=some e->(v::vs)[j]?=some u->e.Of w u:=fun j e u he hu=>by
 cases j with
 | zero=>simp at he hu; subst he; subst hu; exact h
 | succ j=>exact hr j e u (by simpa using he) (by simpa using hu)
def be (k v:Nat):List UInt8:=(List.range k).map fun i=>UInt8.ofNat (v / 256^(k-1-i))
theorem be_length(k v:Nat): (be k v).length=k:=by simp[be]
theorem be_get{v:Nat}(h:i<k): (be k v)[i]?=some (UInt8.ofNat (v / 256^(k-1-i))):=by simp[be,h]
theorem be_succ(k v:Nat): be (k+1) v=be k (v / 256)++[UInt8.ofNat v]:=by
 unfold be
 rw[List.range_succ,List.map_append]
 congr 1
 ·apply List.map_congr_left
  intro i hi
  have hi:i<k:=List.mem_range.1 hi
  rw[Nat.div_div_eq_div_mul,<- Nat.pow_succ']
  congr 3; omega
 ·simp
theorem be_zero(v:Nat): be 0 v=[]:=rfl
def num (l:List UInt8):Nat:=l.foldl (fun v c=>v*256+c.toNat) 0
theorem num_snoc(l:List UInt8)(c:UInt8): num (l++[c])=num l*256+c.toNat:=by simp[num]
theorem num_from(l:List UInt8): ∀ a:Nat,l.foldl (fun v c=>v*256+c.toNat) a=a*256^l.length+num l:=by
 induction l with
 | nil=>intro a; simp[num]
 | cons c l ih =>
  intro a
  have h1:num (c::l)=c.toNat*256^l.length+num l:=by
   show l.foldl _ (0*256+c.toNat)=_
   rw[ih]; simp
  rw[List.foldl_cons,ih,h1,List.length_cons,Nat.pow_succ,Nat.add_mul,Nat.mul_comm (256^l.length) 256,Nat.mul_assoc,Nat.add_assoc]
theorem num_cons(c:UInt8)(l:List UInt8): num (c::l)=c.toNat*256^l.length+num l:=by
 show l.foldl _ (0*256+c.toNat)=_
 rw[num_from]; simp
theorem num_lt(l:List UInt8): num l<256^l.length:=by
 induction l with
 | nil=>simp[num]
 | cons c l ih =>
  rw[num_cons,List.length_cons,Nat.pow_succ]
  have h1:c.toNat*256^l.length<=255*256^l.length:=Nat.mul_le_mul_right _ (by have:=c.toNat_lt; omega)
  omega
theorem num_be(k v:Nat): num (be k v)=v%256^k:=by
 induction k generalizing v with
 | zero=>simp[be_zero,num,Nat.mod_one]
 | succ k ih =>
  rw[be_succ,num_snoc,ih,Nat.pow_succ',Nat.mod_mul]
  have h1:(UInt8.ofNat v).toNat=v%256:=by simp
  rw[h1]
  omega
theorem wrap_u64{n:Int}(h0:0<=n)(h:n<18446744073709551616): IntKind.u64.wrap n=n:=by
 simp only[IntKind.wrap,IntKind.bits,IntKind.signed,Bool.false_and,Bool.false_eq_true,if_false]
 exact Int.emod_eq_of_lt h0 h
theorem wrap_u32{n:Int}(h0:0<=n)(h:n<4294967296): IntKind.u32.wrap n=n:=by
 simp only[IntKind.wrap,IntKind.bits,IntKind.signed,Bool.false_and,Bool.false_eq_true,if_false]
 exact Int.emod_eq_of_lt h0 h
theorem wrap_i64{n:Int}(h0:-9223372036854775808<=n)(h:n<=9223372036854775807): IntKind.i64.wrap n=n:=by
 rw[IntKind.wrap_i64]; omega
theorem wrapN_u64(h:n<18446744073709551616): IntKind.u64.wrap (n:Int)=n:=wrap_u64 (Int.natCast_nonneg _) (by omega)
theorem wrapN_i64(h:n<9223372036854775808): IntKind.i64.wrap (n:Int)=n:=wrap_i64 (by omega) (by omega)
theorem wrap_u8_nat(n:Nat): IntKind.u8.wrap (n:Int)=((UInt8.ofNat n).toNat:Int):=by
 simp only[IntKind.wrap,IntKind.bits,IntKind.signed,Bool.false_and,Bool.false_eq_true,if_false]
 simp
theorem wrap_u32_nat(n:Nat): IntKind.u32.wrap (n:Int)=((n%4294967296:Nat):Int):=by
 simp only[IntKind.wrap,IntKind.bits,IntKind.signed,Bool.false_and,Bool.false_eq_true,if_false]
 simp
theorem wrap_u64_nat(n:Nat): IntKind.u64.wrap (n:Int)=((n%18446744073709551616:Nat):Int):=by
 simp only[IntKind.wrap,IntKind.bits,IntKind.signed,Bool.false_and,Bool.false_eq_true,if_false]
 simp
theorem pow256(j:Nat): 2^(8*j)=256^j:=by rw[Nat.pow_mul]
theorem shr_nat(v s:Nat): (v:Int).fdiv (2^s)=((v / 2^s:Nat):Int):=by
 rw[Int.fdiv_eq_ediv_of_nonneg _ (Int.pow_nonneg (by decide))]
 simp
theorem fill_step{l:List UInt8}{f:UInt8->Value}{z:Value}{c:UInt8}(h:l[i]?=some c):
  ((l.take i).map f++List.replicate (l.length-i) z).set i (f c)=(l.take (i+1)).map f++List.replicate (l.length-(i+1)) z:=by
 have hi:i<l.length:=(List.getElem?_eq_some_iff.1 h).1
 have h1:l.length-i=(l.length-(i+1))+1:=by omega
 rw[List.take_add_one,h,h1,List.replicate_succ,List.set_append_right _ _ (by simp; omega)]
 simp[Nat.min_eq_left (Nat.le_of_lt hi)]
theorem or_u64_nat{a:Nat}(ha:a<18446744073709551616)(hb:b<18446744073709551616): IntKind.u64.wrap ((BitVec.ofInt 64 (a:Int) ||| BitVec.ofInt 64 (b:Int)).toNat:Int)=((a ||| b:Nat):Int):=by
 have h:a ||| b<2^64:=Nat.or_lt_two_pow (by omega) (by omega)
 rw[wrap_u64_nat,BitVec.toNat_or,BitVec.ofInt_natCast,BitVec.ofInt_natCast,BitVec.toNat_ofNat,BitVec.toNat_ofNat,Nat.mod_eq_of_lt (show a<2^64 by omega),Nat.mod_eq_of_lt (show b<2^64 by omega),Nat.mod_eq_of_lt (by omega)]
theorem or_u32_nat{a:Nat}(ha:a<4294967296)(hb:b<4294967296): IntKind.u32.wrap ((BitVec.ofInt 32 (a:Int) ||| BitVec.ofInt 32 (b:Int)).toNat:Int)=((a ||| b:Nat):Int):=by
 have h:a ||| b<2^32:=Nat.or_lt_two_pow (by omega) (by omega)
 rw[wrap_u32_nat,BitVec.toNat_or,BitVec.ofInt_natCast,BitVec.ofInt_natCast,BitVec.toNat_ofNat,BitVec.toNat_ofNat,Nat.mod_eq_of_lt (show a<2^32 by omega),Nat.mod_eq_of_lt (show b<2^32 by omega),Nat.mod_eq_of_lt (by omega)]
theorem xor_u8_nat(a b:UInt8): IntKind.u8.wrap ((BitVec.ofInt 8 (a.toNat:Int) ^^^ BitVec.ofInt 8 (b.toNat:Int)).toNat:Int)=((a ^^^ b).toNat:Int):=by
 have ha:=a.toNat_lt
 have hb:=b.toNat_lt
 rw[wrap_u8_nat,BitVec.toNat_xor,BitVec.ofInt_natCast,BitVec.ofInt_natCast,BitVec.toNat_ofNat,BitVec.toNat_ofNat,Nat.mod_eq_of_lt (show a.toNat<2^8 by omega),Nat.mod_eq_of_lt (show b.toNat<2^8 by omega),<- UInt8.toNat_xor,UInt8.ofNat_toNat]
theorem mul256_or{a:Nat}(c:UInt8): a*256 ||| c.toNat=a*256+c.toNat:=by
 have:=Nat.two_pow_add_eq_or_of_lt (i:=8) (b:=c.toNat) (by have:=c.toNat_lt; omega) a
 rw[Nat.mul_comm a 256]; exact this.symm
theorem fill_back{l:List UInt8}{f:UInt8->Value}{z:Value}{c:UInt8}(hj:j<l.length)(h:l[l.length-1-j]?=some c):
  (List.replicate (l.length-j) z++(l.drop (l.length-j)).map f).set (l.length-1-j) (f c)=List.replicate (l.length-(j+1)) z++(l.drop (l.length-(j+1))).map f:=by
 have h1:l.length-j=(l.length-(j+1))+1:=by omega
 have h2:l.length-1-j=l.length-(j+1):=by omega
 rw[h2] at h ⊢
 have hlt:l.length-(j+1)<l.length:=by omega
 have h3:l.drop (l.length-(j+1))=c::l.drop (l.length-j):=by
  rw[List.drop_eq_getElem_cons hlt,<- h1]
  congr 1
  rw[List.getElem?_eq_getElem hlt] at h
  injection h
 rw[h3,h1,List.replicate_succ',List.append_assoc,List.set_append_right _ _ (by simp)]
 simp
theorem tmod_lit(a:Nat){k:Int}(hk:0<k): (a:Int).tmod k=((a%k.toNat:Nat):Int):=by
 rw[Int.tmod_eq_emod_of_nonneg (by omega),Int.natCast_emod,Int.toNat_of_nonneg (by omega)]
theorem tdiv_lit(a:Nat){k:Int}(hk:0<k): (a:Int).tdiv k=((a / k.toNat:Nat):Int):=by
 rw[Int.tdiv_eq_ediv_of_nonneg (by omega),Int.natCast_ediv,Int.toNat_of_nonneg (by omega)]
theorem ofNat_mod(a:Nat): UInt8.ofNat (a%256)=UInt8.ofNat a:=by
 apply UInt8.toNat_inj.1; simp
theorem flatten_take_succ{ps:List (List UInt8)}{l:List UInt8}(h:ps[i]?=some l): (ps.take (i+1)).flatten=(ps.take i).flatten++l:=by
 rw[List.take_add_one,h]; simp
theorem flatten_take_le(ps:List (List UInt8))(i:Nat): (ps.take i).flatten.length<=ps.flatten.length:=by
 have h:ps.flatten=(ps.take i).flatten++(ps.drop i).flatten:=by rw[<- List.flatten_append,List.take_append_drop]
 rw[h,List.length_append]; omega
theorem copy_step{ps:List (List UInt8)}{S:Nat}{l:List UInt8}{f:UInt8->Value}{z:Value}(h:ps[i]?=some l)(hS:(ps.take i).flatten.length+l.length<=S){o:Nat}(ho:o=if S=(ps.take i).flatten.length then 0 else (ps.take i).flatten.length):
  ((ps.take i).flatten.map f++List.replicate (S-(ps.take i).flatten.length) z).take o++l.map f++((ps.take i).flatten.map f++List.replicate (S-(ps.take i).flatten.length) z).drop (o+l.length) =
   (ps.take (i+1)).flatten.map f++List.replicate (S-(ps.take (i+1)).flatten.length) z:=by
 rw[flatten_take_succ h]
 generalize (ps.take i).flatten=q at *
 subst ho
 by_cases hq:S=q.length
 ·have hl:l=[]:=List.eq_nil_of_length_eq_zero (by omega)
  subst hl
  simp
 ·rw[if_neg hq]
  rw[List.take_append_of_le_length (by simp),List.take_of_length_le (by simp),List.drop_append,List.drop_eq_nil_of_le (by simp)]
  simp only[List.map_append,List.nil_append,List.length_map,List.drop_replicate,List.length_append]
  congr 2
  omega
def rotB (v:Nat) (s:Nat):Nat:=((BitVec.ofNat 32 v).rotateLeft s).toNat
theorem rotB_lt(v s:Nat): rotB v s<4294967296:=((BitVec.ofNat 32 v).rotateLeft s).isLt
def nb (l:List Nat):Nat:=l.foldl (fun v b=>2*v+b) 0
theorem and31(a:Nat): a &&& 31=a%32:=Nat.and_two_pow_sub_one_eq_mod a 5
theorem and_u64_nat{a:Nat}(ha:a<18446744073709551616)(hb:b<18446744073709551616): IntKind.u64.wrap ((BitVec.ofInt 64 (a:Int) &&& BitVec.ofInt 64 (b:Int)).toNat:Int)=((a &&& b:Nat):Int):=by
 have h:a &&& b<2^64:=Nat.and_lt_two_pow _ (by omega)
 rw[wrap_u64_nat,BitVec.toNat_and,BitVec.ofInt_natCast,BitVec.ofInt_natCast,BitVec.toNat_ofNat,BitVec.toNat_ofNat,Nat.mod_eq_of_lt (show a<2^64 by omega),Nat.mod_eq_of_lt (show b<2^64 by omega),Nat.mod_eq_of_lt (by omega)]
theorem wrap_u64_int(n:Int): IntKind.u64.wrap n=n%18446744073709551616:=by
 simp only[IntKind.wrap,IntKind.bits,IntKind.signed,Bool.false_and,Bool.false_eq_true,if_false]
 rfl
theorem rotB_go{v:Nat}(hv:v<4294967296)(hs:s<32): (v*2^s%4294967296) ||| (v / 2^(32-s))=rotB v s:=by
 unfold rotB
 rw[BitVec.rotateLeft,Nat.mod_eq_of_lt hs]
 simp only[BitVec.rotateLeftAux,BitVec.toNat_or,BitVec.toNat_shiftLeft,BitVec.toNat_ushiftRight,BitVec.toNat_ofNat]
 rw[Nat.mod_eq_of_lt (show v<2^32 from hv),Nat.shiftLeft_eq,Nat.shiftRight_eq_div_pow]
section
def u32V (x:UInt32):Value:=.int .u32 (x.toNat:Int)
theorem u32_lt(x:UInt32): x.toNat<4294967296:=x.toNat_lt
theorem u32V_ofNat(n:Nat): u32V (UInt32.ofNat n) = .int .u32 ((n%4294967296:Nat):Int):=by simp[u32V]
theorem u32V_of(h:n<4294967296): u32V (UInt32.ofNat n) = .int .u32 (n:Int):=by rw[u32V_ofNat,Nat.mod_eq_of_lt h]
theorem binV_add32(x y:UInt32): binV .add (u32V x) (u32V y)=some (u32V (x+y)):=by
 simp only[u32V,binV,if_true,Option.some.injEq,Value.int.injEq,true_and]
 rw[<- Int.natCast_add,wrap_u32_nat,UInt32.toNat_add]
theorem bv32(x:UInt32): BitVec.ofInt 32 (x.toNat:Int)=x.toBitVec:=by
 rw[BitVec.ofInt_natCast]; simp
theorem binV_xor32(x y:UInt32): binV .xor (u32V x) (u32V y)=some (u32V (x ^^^ y)):=by
 have key:(BitVec.ofInt 32 (x.toNat:Int) ^^^ BitVec.ofInt 32 (y.toNat:Int)).toNat=(x ^^^ y).toNat:=by rw[bv32,bv32,<- UInt32.toBitVec_xor,UInt32.toNat_toBitVec]
 show some (Value.int .u32 (IntKind.u32.wrap ((BitVec.ofInt 32 (x.toNat:Int) ^^^ BitVec.ofInt 32 (y.toNat:Int)).toNat:Int)))=_
 rw[key,wrap_u32_nat,Nat.mod_eq_of_lt (u32_lt _)]; rfl
theorem binV_and32(x y:UInt32): binV .and (u32V x) (u32V y)=some (u32V (x &&& y)):=by
 have key:(BitVec.ofInt 32 (x.toNat:Int) &&& BitVec.ofInt 32 (y.toNat:Int)).toNat=(x &&& y).toNat:=by rw[bv32,bv32,<- UInt32.toBitVec_and,UInt32.toNat_toBitVec]
 show some (Value.int .u32 (IntKind.u32.wrap ((BitVec.ofInt 32 (x.toNat:Int) &&& BitVec.ofInt 32 (y.toNat:Int)).toNat:Int)))=_
 rw[key,wrap_u32_nat,Nat.mod_eq_of_lt (u32_lt _)]; rfl
theorem binV_or32(x y:UInt32): binV .or (u32V x) (u32V y)=some (u32V (x ||| y)):=by
 have key:(BitVec.ofInt 32 (x.toNat:Int) ||| BitVec.ofInt 32 (y.toNat:Int)).toNat=(x ||| y).toNat:=by rw[bv32,bv32,<- UInt32.toBitVec_or,UInt32.toNat_toBitVec]
 show some (Value.int .u32 (IntKind.u32.wrap ((BitVec.ofInt 32 (x.toNat:Int) ||| BitVec.ofInt 32 (y.toNat:Int)).toNat:Int)))=_
 rw[key,wrap_u32_nat,Nat.mod_eq_of_lt (u32_lt _)]; rfl
def shr32 (x:UInt32) (n:Nat):UInt32:=UInt32.ofNat (x.toNat / 2^n)
def rotr32 (x:UInt32) (n:Nat):UInt32:=UInt32.ofNat (rotB x.toNat (32-n))
theorem rotr32_toNat(x:UInt32)(n:Nat): (rotr32 x n).toNat=rotB x.toNat (32-n):=by
 rw[rotr32,UInt32.toNat_ofNat',Nat.mod_eq_of_lt (rotB_lt _ _)]
theorem rotr32_val(x:UInt32)(n:Nat): u32V (rotr32 x n) = .int .u32 ((rotB x.toNat (32-n):Nat):Int):=by rw[u32V,rotr32_toNat]
section
variable {P:Program} {B:Nat} {E:Env} {dst:Option Tmp} {ty:TypeId} {pos:String} {after:Array Edge} {guard:Option (Nat×Bool)} {t t':TypeId} {x y:Operand} {a b:UInt32}
theorem ok_add32(hx:E.at x=some (.v (u32V a)))(hy:E.at y=some (.v (u32V b))): OpOk P B ⟨dst,.binOp .add t x y t',ty,pos,after,guard⟩ E (.v (u32V (a+b))):=ok_bin hx hy (binV_add32 a b)
theorem ok_xor32(hx:E.at x=some (.v (u32V a)))(hy:E.at y=some (.v (u32V b))): OpOk P B ⟨dst,.binOp .xor t x y t',ty,pos,after,guard⟩ E (.v (u32V (a ^^^ b))):=ok_bin hx hy (binV_xor32 a b)
theorem ok_and32(hx:E.at x=some (.v (u32V a)))(hy:E.at y=some (.v (u32V b))): OpOk P B ⟨dst,.binOp .and t x y t',ty,pos,after,guard⟩ E (.v (u32V (a &&& b))):=ok_bin hx hy (binV_and32 a b)
theorem ok_or32(hx:E.at x=some (.v (u32V a)))(hy:E.at y=some (.v (u32V b))): OpOk P B ⟨dst,.binOp .or t x y t',ty,pos,after,guard⟩ E (.v (u32V (a ||| b))):=ok_bin hx hy (binV_or32 a b)
theorem ok_not32(hx:E.at x=some (.v (u32V a))): OpOk P B ⟨dst,.unOp .xor t x,ty,pos,after,guard⟩ E (.v (u32V (~~~a))):=by
 refine ok_xorU (k:=.u32) (a:=(a.toNat:Int)) rfl hx ?_
 have h1:BitVec.ofInt 32 (IntKind.max .u32)=BitVec.allOnes 32:=by decide
 have key:(BitVec.ofInt 32 (IntKind.max .u32) ^^^ BitVec.ofInt 32 (a.toNat:Int)).toNat=(~~~a).toNat:=by rw[bv32,h1,BitVec.allOnes_xor,<- UInt32.toBitVec_not,UInt32.toNat_toBitVec]
 show _=Value.int .u32 (IntKind.u32.wrap ((BitVec.ofInt 32 (IntKind.max .u32) ^^^ BitVec.ofInt 32 (a.toNat:Int)).toNat:Int))
 rw[key,wrap_u32_nat,Nat.mod_eq_of_lt (u32_lt _)]; rfl
theorem ok_shr32{k':IntKind}{c:Int}(n:Nat)(hx:E.at x=some (.v (u32V a)))(hy:E.at y=some (.v (.int k' c)))(hc:c=(n:Int))(hn:n<=32): OpOk P B ⟨dst,.binOp .shr t x y t',ty,pos,after,guard⟩ E (.v (u32V (shr32 a n))):=by
 subst hc
 have:=ok_shr (P:=P) (B:=B) (dst:=dst) (ty:=ty) (pos:=pos) (after:=after) (guard:=guard) (t:=t) (t':=t') hx hy (Int.natCast_nonneg n)
 rw[Int.toNat_natCast,show min n IntKind.u32.bits=n from Nat.min_eq_left hn,shr_nat] at this
 rwa [shr32,u32V_of (Nat.lt_of_le_of_lt (Nat.div_le_self _ _) (u32_lt a))]
end
structure R8 where
 (a b c d e f g h:UInt32)
def R8.list (s:R8):List UInt32:=[s.a,s.b,s.c,s.d,s.e,s.f,s.g,s.h]
def R8.add (s t:R8):R8:=⟨s.a+t.a,s.b+t.b,s.c+t.c,s.d+t.d,s.e+t.e,s.f+t.f,s.g+t.g,s.h+t.h⟩
theorem R8.size(s:R8): (s.list.map u32V).length=8:=rfl
theorem R8.add_list(s t:R8): (s.add t).list.map u32V=[u32V (s.a+t.a),u32V (s.b+t.b),u32V (s.c+t.c),u32V (s.d+t.d),u32V (s.e+t.e),u32V (s.f+t.f),u32V (s.g+t.g),u32V (s.h+t.h)]:=rfl
theorem all_u32(xs:List UInt32): (xs.map u32V).all (·.oneCell')=true:=by simp[u32V,Value.oneCell']
def sha0 (x:UInt32):UInt32:=rotr32 x 7 ^^^ rotr32 x 18 ^^^ shr32 x 3
def sha1 (x:UInt32):UInt32:=rotr32 x 17 ^^^ rotr32 x 19 ^^^ shr32 x 10
def big0 (x:UInt32):UInt32:=rotr32 x 2 ^^^ rotr32 x 13 ^^^ rotr32 x 22
def big1 (x:UInt32):UInt32:=rotr32 x 6 ^^^ rotr32 x 11 ^^^ rotr32 x 25
def choice (e f g:UInt32):UInt32:=(e &&& f) ^^^ (~~~e &&& g)
def most (a b c:UInt32):UInt32:=(a &&& b) ^^^ (a &&& c) ^^^ (b &&& c)
def round8 (s:R8) (k w:UInt32):R8 :=
 let t1:=s.h+big1 s.e+choice s.e s.f s.g+k+w
 ⟨t1+(big0 s.a+most s.a s.b s.c),s.a,s.b,s.c,s.d+t1,s.e,s.f,s.g⟩
def word (l:List UInt8) (t:Nat):UInt32:=UInt32.ofNat (num ((l.drop (4*t)).take 4))
theorem word_lt(l:List UInt8)(t:Nat): num ((l.drop (4*t)).take 4)<4294967296 :=
 Nat.lt_of_lt_of_le (num_lt _) (Nat.le_trans (Nat.pow_le_pow_right (by decide) (show((l.drop (4*t)).take 4).length<=4 by simp; omega)) (by decide))
def nextW (l:List UInt8) (ws:List UInt32) (t:Nat):UInt32 :=
 if t<16 then word l t else ws.getD (t-16) 0+ws.getD (t-7) 0+sha0 (ws.getD (t-15) 0)+sha1 (ws.getD (t-2) 0)
def sched (l:List UInt8):Nat->List UInt32
 | 0=>[]
 | t+1=>sched l t++[nextW l (sched l t) t]
theorem sched_length (l:List UInt8):∀ t,(sched l t).length=t
 | 0=>rfl
 | t+1=>by simp[sched,sched_length l t]
def rounds (s:R8) (ks ws:List UInt32):Nat->R8
 | 0=>s
 | t+1=>round8 (rounds s ks ws t) (ks.getD t 0) (ws.getD t 0)
def K64:List UInt32:=[
 0x428a2f98,0x71374491,0xb5c0fbcf,0xe9b5dba5,0x3956c25b,0x59f111f1,0x923f82a4,0xab1c5ed5,
 0xd807aa98,0x12835b01,0x243185be,0x550c7dc3,0x72be5d74,0x80deb1fe,0x9bdc06a7,0xc19bf174,
 0xe49b69c1,0xefbe4786,0x0fc19dc6,0x240ca1cc,0x2de92c6f,0x4a7484aa,0x5cb0a9dc,0x76f988da,
 0x983e5152,0xa831c66d,0xb00327c8,0xbf597fc7,0xc6e00bf3,0xd5a79147,0x06ca6351,0x14292967,
 0x27b70a85,0x2e1b2138,0x4d2c6dfc,0x53380d13,0x650a7354,0x766a0abb,0x81c2c92e,0x92722c85,
 0xa2bfe8a1,0xa81a664b,0xc24b8b70,0xc76c51a3,0xd192e819,0xd6990624,0xf40e3585,0x106aa070,
 0x19a4c116,0x1e376c08,0x2748774c,0x34b0bcb5,0x391c0cb3,0x4ed8aa4a,0x5b9cca4f,0x682e6ff3,
 0x748f82ee,0x78a5636f,0x84c87814,0x8cc70208,0x90befffa,0xa4506ceb,0xbef9a3f7,0xc67178f2]
def H8:R8:=⟨0x6a09e667,0xbb67ae85,0x3c6ef372,0xa54ff53a,0x510e527f,0x9b05688c,0x1f83d9ab,0x5be0cd19⟩
def compress (s:R8) (l:List UInt8):R8:=s.add (rounds s K64 (sched l 64) 64)
def chain (s:R8) (l:List UInt8):Nat->R8
 | 0=>s
 | k+1=>compress (chain s l k) ((l.drop (64*k)).take 64)
def padded (l:List UInt8):List UInt8:=l++128::(List.replicate ((119-l.length%64)%64) 0++be 8 (8*l.length))
def shaR (l:List UInt8):R8:=chain H8 (padded l) ((padded l).length / 64)
def sha (l:List UInt8):List UInt8:=(shaR l).list.flatMap fun x=>be 4 x.toNat
def table (ws:List UInt32) (m:Nat):List Value:=(ws++List.replicate (m-ws.length) 0).map u32V
theorem table_length{ws:List UInt32}{m:Nat}(h:ws.length<=m): (table ws m).length=m:=by simp[table]; omega
theorem table_get{ws:List UInt32}{m:Nat}(h:j<ws.length): (table ws m)[j]?=some (u32V (ws.getD j 0)):=by
 rw[table,List.map_append,List.getElem?_append_left (by simpa using h)]
 simp[h]
theorem table_set{ws:List UInt32}{m t:Nat}{x:UInt32}(ht:ws.length=t)(h:t<m): (table ws m).set t (u32V x)=table (ws++[x]) m:=by
 subst ht
 have h1:m-ws.length=(m-(ws.length+1))+1:=by omega
 simp only[table,List.length_append,List.length_cons,List.length_nil,List.map_append]
 rw[h1,List.replicate_succ,List.map_cons,List.set_append_right _ _ (by simp)]
 simp
theorem table_full{ws:List UInt32}{m:Nat}(h:ws.length=m): table ws m=ws.map u32V:=by
 subst h; simp[table]
theorem map_get32{ws:List UInt32}(h:j<ws.length): (ws.map u32V)[j]?=some (u32V (ws.getD j 0)):=by
 simp[h]
theorem most_or(a b c:UInt32): (a &&& b) ||| (a &&& c) ||| (b &&& c)=most a b c:=by
 unfold most
 apply UInt32.eq_of_toBitVec_eq
 apply BitVec.eq_of_getLsbD_eq
 intro i _
 simp only[UInt32.toBitVec_or,UInt32.toBitVec_and,UInt32.toBitVec_xor,BitVec.getLsbD_or,BitVec.getLsbD_and,BitVec.getLsbD_xor]
 cases a.toBitVec.getLsbD i<;>cases b.toBitVec.getLsbD i<;>cases c.toBitVec.getLsbD i<;>rfl
theorem choice_or(e f g:UInt32): (e &&& f) ||| (~~~e &&& g)=choice e f g:=by
 unfold choice
 apply UInt32.eq_of_toBitVec_eq
 apply BitVec.eq_of_getLsbD_eq
 intro i hi
 simp only[UInt32.toBitVec_or,UInt32.toBitVec_and,UInt32.toBitVec_xor,UInt32.toBitVec_not,BitVec.getLsbD_or,BitVec.getLsbD_and,BitVec.getLsbD_xor,BitVec.getLsbD_not,hi,decide_true,Bool.true_and]
 cases e.toBitVec.getLsbD i<;>cases f.toBitVec.getLsbD i<;>cases g.toBitVec.getLsbD i<;>rfl
theorem padded_length(l:List UInt8): (padded l).length=l.length+1+(119-l.length%64)%64+8:=by
 simp[padded,be_length]; omega
theorem padded_mod(l:List UInt8): (padded l).length%64=0:=by
 rw[padded_length]; omega
theorem flatBe_length(xs:List UInt32): (xs.flatMap fun x=>be 4 x.toNat).length=4*xs.length:=by
 induction xs with
 | nil=>rfl
 | cons x xs ih=>rw[List.flatMap_cons,List.length_append,ih,be_length,List.length_cons]; omega
theorem flatBe_get:∀ (xs:List UInt32) (i k:Nat),i<xs.length->k<4->(xs.flatMap fun x=>be 4 x.toNat)[4*i+k]?=(be 4 (xs.getD i 0).toNat)[k]?
 | [],i,k,hi,_=>by simp at hi
 | x::xs,0,k,_,hk=>by
  rw[List.flatMap_cons,List.getElem?_append_left (by rw[be_length]; omega)]
  simp
 | x::xs,i+1,k,hi,hk=>by
  rw[List.flatMap_cons,List.getElem?_append_right (by rw[be_length]; omega),be_length,show 4*(i+1)+k-4=4*i+k from by omega,flatBe_get xs i k (by simpa using hi) hk]
  simp
theorem sha_length(l:List UInt8): (sha l).length=32:=by
 rw[sha,flatBe_length]; rfl
theorem sha_get(l:List UInt8)(hi:i<8)(hk:k<4): (be 4 ((shaR l).list.getD i 0).toNat)[k]?=some ((sha l).getD (4*i+k) 0):=by
 have h1:(sha l)[4*i+k]?=_:=flatBe_get (shaR l).list i k hi hk
 rw[<- h1,List.getD_eq_getElem?_getD,List.getElem?_eq_getElem (by rw[sha_length]; omega)]
 rfl
def tableB (bs:List UInt8) (m:Nat):List Value:=(bs++List.replicate (m-bs.length) 0).map byteV
theorem tableB_length{bs:List UInt8}{m:Nat}(h:bs.length<=m): (tableB bs m).length=m:=by simp[tableB]; omega
theorem tableB_nil(m:Nat): List.replicate m (.int .u8 0)=tableB [] m:=by simp[tableB,byteV]
theorem tableB_full{bs:List UInt8}{m:Nat}(h:bs.length=m): tableB bs m=bs.map byteV:=by subst h; simp[tableB]
theorem tableB_step{bs:List UInt8}{m:Nat}(hm:bs.length=m)(h:j<m): (tableB (bs.take j) m).set j (byteV (bs.getD j 0))=tableB (bs.take (j+1)) m:=by
 have hj:j<bs.length:=by omega
 have h1:m-(bs.take j).length=(m-(bs.take (j+1)).length)+1:=by simp; omega
 have h2:bs.take (j+1)=bs.take j++[bs.getD j 0]:=by
  rw[List.take_add_one,List.getElem?_eq_getElem hj,List.getD_eq_getElem?_getD,List.getElem?_eq_getElem hj]; rfl
 rw[tableB,h1,List.replicate_succ,List.map_append,List.map_cons,List.set_append_right _ _ (by simp; omega)]
 rw[tableB,h2,List.map_append,List.map_append,List.append_assoc]
 congr 1
 rw[<- h2]
 simp[Nat.min_eq_left (Nat.le_of_lt hj)]
theorem all_bytes(xs:List UInt8): (xs.map byteV).all (·.oneCell')=true:=by simp[byteV,Value.oneCell']
theorem byt_vals(l:List UInt8): byt l=lst ((l.map byteV).map .v):=by unfold byt; rw[List.map_map]; rfl
end
section
open Go Go.RowKit Go.ChangeShapes Go.WideShapes
theorem FnM.law{f:FuncId}{M:Env}(h:FnM P f M ds (.v (.bool true)))(vs:List Value)(w:World)(hM:∀ p∈M,p.2.Of w undef)(hl:vs.length=ds.length)(hv:∀ (j:Nat) (e:D) (u:Value),ds[j]?=some e->vs[j]?=some u->e.Of w u):
  Calls P f vs.toArray w fun e w'=>e = .returned (.bool true)∧Below w.heap.size w w' :=
 (h.calls vs w hM hl hv).mono fun e w' ⟨x,he,g,hx⟩=>⟨by have hx:x = .bool true:=hx; rw[he,hx],g⟩
section
variable {H:Type} {enc:TypeId×Value->H} {P:Program} {w:World} {base:Nat} {spare:Nat->Bool} {held:Bool}
theorem trod_ints{T:TypeId}{k:IntKind}{fuel:Nat}{cs:List Value}{x:DataW H×List MemPlace}(ht:P.underlying T=some (.array n e))(he:P.underlying e=some (.int k))(hc:P.cellsOf e=1)(hT:P.cellsOf T=n)
  (h:DataW.trod enc P w base spare held fuel T cs=some x): ∃ ns:List Int,ns.length=n∧cs=ns.map (fun m=>.int k m)∧x.1 = .agg (ns.map fun m=>.lit (.int k m))∧∀ m∈ns,(Lit.int k m).wf=true:=by
 obtain⟨xs,m,_,rfl,hlen,hxl,hel⟩:=DataW.trod_array ht h
 have each:∀ i,i<n->∃ a:Int,cs[i]?=some (.int k a)∧xs[i]?=some (.lit (.int k a),[])∧(Lit.int k a).wf=true:=fun i hi=>by
  have hi':i<cs.length:=by omega
  have h1:=hel i hi
  rw[List.getElem?_eq_getElem (by omega),hc,Nat.mul_one] at h1
  obtain⟨a,h2,h3,h4⟩:=DataW.trod_int he h1
  have h5:(cs.drop i).take 1=[cs[i]]:=by
   rw[List.drop_eq_getElem_cons hi']; rfl
  rw[h5] at h2
  injection h2 with h2
  exact⟨a,by rw[List.getElem?_eq_getElem hi',h2],by rw[List.getElem?_eq_getElem (by omega),h3],h4⟩
 refine⟨xs.map numOf,by simp[hxl],?_,?_,fun a ha=>?_⟩
 ·apply List.ext_getElem?
  intro i
  rcases Nat.lt_or_ge i n with hi|hi
  ·obtain⟨a,h1,h2,_⟩:=each i hi
   simp[h1,h2,numOf]
  ·rw[List.getElem?_eq_none (by omega),List.getElem?_eq_none (by simp; omega)]
 ·show DataW.agg _=DataW.agg _
  congr 1
  apply List.ext_getElem?
  intro i
  rcases Nat.lt_or_ge i n with hi|hi
  ·obtain⟨a,h1,h2,_⟩:=each i hi
   simp[h2,numOf]
  ·rw[List.getElem?_eq_none (by simp; omega),List.getElem?_eq_none (by simp; omega)]
 ·obtain⟨j,hj⟩:=List.mem_iff_getElem?.1 ha
  have hjn:j<n:=by have:=(List.getElem?_eq_some_iff.1 hj).1; simp at this; omega
  obtain⟨b,_,h2,h3⟩:=each j hjn
  simp[h2,numOf] at hj
  exact hj▸h3
theorem wf_u8{m:Int}(h:(Lit.int .u8 m).wf=true): Value.int .u8 m=byteV (UInt8.ofNat m.toNat):=by
 simp[Lit.wf,IntKind.min,IntKind.max,IntKind.signed,IntKind.bits] at h
 unfold byteV
 congr 1
 simp
 omega
theorem arg_u8{t:TypeId}{v:Value}{d:DataW H}{ps:List MemPlace}(ht:P.underlying t=some (.int .u8)){r:Reach}{b0:Nat}(hk:Value.okWide P w r b0 t v)
  (h:DataW.Trod enc P w base (fun _=>true) held t v d ps): ∃ b:UInt8,v=byteV b:=by
 obtain⟨n,rfl⟩:=okWide_int ht hk
 obtain⟨fuel,hf⟩:=h
 obtain⟨a,h1,_,h3⟩:=DataW.trod_int ht hf
 simp only[Value.cells,List.cons.injEq,Value.int.injEq,true_and,and_true] at h1
 subst h1
 exact⟨_,wf_u8 h3⟩
theorem arg_i64{t:TypeId}{v:Value}(ht:P.underlying t=some (.int .i64)){r:Reach}{b0:Nat}(hk:Value.okWide P w r b0 t v): ∃ n:Int,v = .int .i64 n:=by
 obtain⟨n,rfl⟩:=okWide_int ht hk
 exact⟨n,rfl⟩
end
theorem mem_row{g:Nat}(h:0<n): MemPlace.cell g 0∈MemPlace.row ⟨g,0,none⟩ n:=by
 cases n with
 | zero=>omega
 | succ n=>simp[MemPlace.row,List.range_succ_eq_map]
theorem tab_of_laid {P:Program} {w:World}:∀ {l:List (String×DataW Unit)} {ps:List MemPlace},DataW.LaidVars P w l ps->(∀ b off,MemPlace.cell b off∈ps->∃ c t,w.heap[b]?=some (.cells c t (0,0))) ->
  ∀ {nm:String} {d:DataW Unit},(nm,d)∈l->∀ {g:Nat} {T e:TypeId} {k:IntKind} {n:Nat} {ns:List Int},P.globalNamed nm=some g->(P.globals[g]?).map (·.type)=some T->P.underlying T=some (.array n e)->P.underlying e=some (.int k)->P.cellsOf e=1->P.cellsOf T=n->0<n ->
   d = .agg (ns.map fun m=>.lit (.int k m))->(tab g (ns.map fun m=>.int k m)).Of w undef
 | [],_,_,_,_,_,hm,_,_,_,_,_,_,_,_,_,_,_,_,_,_=>by cases hm
 | (n',d')::r,ps,hl,hr,nm,d,hm,g,T,e,k,n,ns,hg,hT,ht,he,hc,hcT,hpos,hd=>by
  obtain⟨g',t',cs,fuel,p,q,h1,h2,h3,h4,h5,rfl⟩:=hl
  rcases List.mem_cons.1 hm with hm|hm
  ·injection hm with hn hdd
   subst hn; subst hdd
   obtain rfl:=Option.some.inj (hg.symm.trans h1)
   obtain rfl:=Option.some.inj (hT.symm.trans h2)
   obtain⟨ns',g1,g2,g3,_⟩:=trod_ints ht he hc hcT h4
   have hns:ns'=ns:=by
    simp only[hd,DataW.agg.injEq] at g3
    have hinj:∀ a b:List Int,(a.map fun m=>(DataW.lit (.int k m):DataW Unit))=b.map (fun m=>.lit (.int k m))->a=b:=by
     intro a
     induction a with
     | nil=>intro b h; cases b with
      | nil=>rfl
      | cons _ _=>cases h
     | cons x a ih=>intro b h; cases b with
      | nil=>cases h
      | cons y b =>
       simp only[List.map_cons,List.cons.injEq,DataW.lit.injEq,Lit.int.injEq,true_and] at h
       rw[h.1,ih b h.2]
    exact(hinj _ _ g3).symm
   subst hns
   have hsz:cs.size=n:=by
    have:=congrArg List.length g2
    simp at this; omega
   obtain⟨c,t,hh⟩:=hr g 0 (List.mem_append_left _ (List.mem_append_left _ (mem_row (by omega))))
   unfold World.var? at h3
   rw[h1,Option.bind_some,hh] at h3
   simp only[Option.some.injEq] at h3
   subst h3
   have hlt:g<w.heap.size:=(Array.getElem?_eq_some_iff.1 hh).1
   refine⟨hlt,t,?_⟩
   rw[hh,<- g2]
  ·exact tab_of_laid h5 (fun b off h=>hr b off (List.mem_append_right _ h)) hm hg hT ht he hc hcT hpos hd
end
end Go.Proofs.YtjigbkamgfidkaaGreatDoor
